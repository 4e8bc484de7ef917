import Derived.Test.YtbobnfjbbablkaaZR
import Derived.Test.YtbobnfjbbablkaaZT
namespace Go.Proofs.Ytbobnfjbbablkaa
open Go.RowKit

theorem shortest_none {l k : List Nat} (hk : B8 k) (h : ¬ (l < k ∧ common l k < 24)) {x : List Nat} (hx : 1 ≤ x.length ∧ x.length ≤ 24) (h1 : l < x) (h2 : x ≤ k) : False := by
  have hlk : l < k := by grind
  have := (btw_spec l k hlk hk).2.2.2.2 x h1 h2
  have hl := (btw_spec l k hlk hk).2.2.1
  exact h ⟨hlk, by omega⟩
set_option maxRecDepth 100000 in
set_option maxHeartbeats 12800000 in
theorem spanShortest_yes (w : World) (a0 : Option Addr) (c0 : Nat) (l : List Nat) (hB0 : Bs w a0 l) (_ : l.length + 64 ≤ 140737488355328) (hC : l.length ≤ c0) (a1 : Option Addr) (c1 : Nat) (k : List Nat) (hB1 : Bs w a1 k) (_ : k.length + 64 ≤ 140737488355328) (_ : k.length ≤ c1) (a2 : Option Addr) (c2 : Nat) (x : List Nat) (hB2 : Bs w a2 x) (_ : x.length + 64 ≤ 140737488355328) (_ : x.length ≤ c2) (h : l < k ∧ common l k < 24) :
    Calls Try.prog 8 #[.slice a0 l.length c0, .slice a1 k.length c1, .slice a2 x.length c2] w fun e w' => e = .returned (.bool true) ∧ Below w.heap.size w w' := by
  have FX := hide (fixed_any w)
  have BT := hide fun w1 (hb : Below w.heap.size w w1) => Between_any w1 a0 a1 l.length c0 k.length c1 l k (hB0.keep hb) (hB1.keep hb) rfl rfl hC
  have AB := hide fun w1 (hb : Below w.heap.size w w1) => sCompare_any w1 a0 a1 l.length c0 k.length c1 l k (hB0.keep hb) (hB1.keep hb) rfl rfl
  have CM := hide fun w1 (hb : Below w.heap.size w w1) => Common_any w1 a0 a1 l.length c0 k.length c1 l k (hB0.keep hb) (hB1.keep hb) rfl rfl
  have XA := hide fun w1 (hb : Below w.heap.size w w1) => sCompare_any w1 a2 a0 x.length c2 l.length c0 x l (hB2.keep hb) (hB0.keep hb) rfl rfl
  have XB := hide fun w1 (hb : Below w.heap.size w w1) => sCompare_any w1 a2 a1 x.length c2 k.length c1 x k (hB2.keep hb) (hB1.keep hb) rfl rfl
  have KA := hide fun w1 (hb : Below w.heap.size w w1) a c (hn : Bs w1 a (btw l k)) => sCompare_any w1 a a0 (btw l k).length c l.length c0 (btw l k) l hn (hB0.keep hb) rfl rfl
  have KB := hide fun w1 (hb : Below w.heap.size w w1) a c (hn : Bs w1 a (btw l k)) => sCompare_any w1 a a1 (btw l k).length c k.length c1 (btw l k) k hn (hB1.keep hb) rfl rfl
  have XK := hide fun w1 (hb : Below w.heap.size w w1) a c (hn : Bs w1 a (btw l k)) => sCompare_any w1 a2 a x.length c2 (btw l k).length c x (btw l k) (hB2.keep hb) hn rfl rfl
  obtain ⟨s1, s2, s3, s4, s5⟩ := btw_spec l k h.1 (B8_of hB1)
  have NB := hide (s4 (B8_of hB0))
  have YES := hide (s5 x)
  have HBW := hide (show between l k = (btw l k, true) from by unfold between; rw [if_pos h])
  rw [HBW.out] at BT
  rw [cmpB_p1.2 s1] at KA
  have kb : (cmpB (btw l k) k == 1) = false := by
    have := cmpB_le.2 s2
    simp only [beq_eq_false_iff_ne, ne_eq]; omega
  have p1 : ¬ (((btw l k).length : Nat) : Int) < 1 := by omega
  have p2 : ¬ (24 : Int) < (((btw l k).length : Nat) : Int) := by omega
  have p3 : (((btw l k).length : Nat) : Int) = ((common l k : Nat) : Int) + 1 := by omega
  have p4 : ((common l k : Nat) : Int) < 24 := by omega
  have p5 : IntKind.i64.wrap (((common l k : Nat) : Int) + 1) = ((common l k : Nat) : Int) + 1 := wrapI (by omega) (by omega)
  have p6 : ¬ ((common l k : Nat) : Int) + 1 < (((btw l k).length : Nat) : Int) := by omega
  clear p3 h s1 s2 s3 s4 s5 hB0 hB1 hB2 HBW
  generalize btw l k = K at *
  generalize common l k = cm at *
  go_enter Try.func8, Try.ntmps8
  go_wp2_with fail
  refine FX.out.mono ?_
  rintro e w1 ⟨rfl, hb1⟩
  have HB1 := hide hb1
  clear hb1
  go_wp2_with fail
  refine (BT.out _ HB1.out).mono ?_
  rintro e w2 ⟨a', c', rfl, ho⟩
  have HB2 := hide (bt HB1.out ho.b)
  have HN2 := hide (ho.bs NB.out)
  clear ho
  go_wp2_with fail
  refine (KA.out _ HB2.out a' c' HN2.out).mono ?_
  rintro e wz ⟨rfl, hw⟩
  obtain rfl := hw.symm
  clear hw
  go_wp2_with fail
  refine (KB.out _ HB2.out a' c' HN2.out).mono ?_
  rintro e wz ⟨rfl, hw⟩
  obtain rfl := hw.symm
  clear hw
  by_cases b1 : 1 ≤ ((k.length : Nat) : Int)
  · by_cases b2 : ((k.length : Nat) : Int) ≤ 24
    · by_cases b3 : cmpB l k < 0
      · go_wp2_with fail
        refine (AB.out _ HB2.out).mono ?_
        rintro e wz ⟨rfl, hw⟩
        obtain rfl := hw.symm
        clear hw
        go_wp2_with fail
        refine (CM.out _ HB2.out).mono ?_
        rintro e w3 ⟨rfl, hb⟩
        have HN2 := hide (HN2.out.keep hb)
        have HB2 := hide (bt HB2.out hb)
        clear hb
        by_cases x1 : ((x.length : Nat) : Int) < 1
        · go_wp2
          go_ret
          exact ⟨by first | rfl | simp, HB2.out⟩
        · by_cases x2 : (24 : Int) < ((x.length : Nat) : Int)
          · go_wp2
            go_ret
            exact ⟨by first | rfl | simp, HB2.out⟩
          · by_cases x3 : cmpB x l ≤ 0
            · go_wp2_with fail
              refine (XA.out _ HB2.out).mono ?_
              rintro e wz ⟨rfl, hw⟩
              obtain rfl := hw.symm
              clear hw
              go_wp2
              go_ret
              exact ⟨by first | rfl | simp, HB2.out⟩
            · by_cases x4 : 0 < cmpB x k
              · go_wp2_with fail
                refine (XA.out _ HB2.out).mono ?_
                rintro e wz ⟨rfl, hw⟩
                obtain rfl := hw.symm
                clear hw
                go_wp2_with fail
                refine (XB.out _ HB2.out).mono ?_
                rintro e wz ⟨rfl, hw⟩
                obtain rfl := hw.symm
                clear hw
                go_wp2
                go_ret
                exact ⟨by first | rfl | simp, HB2.out⟩
              · rcases YES.out (cmpB_pos.1 (by omega)) (cmpB_le.1 (by omega)) with hd | ⟨hd, hd2⟩
                · have r1 : ((K.length : Nat) : Int) < ((x.length : Nat) : Int) := by omega
                  go_wp2_with fail
                  refine (XA.out _ HB2.out).mono ?_
                  rintro e wz ⟨rfl, hw⟩
                  obtain rfl := hw.symm
                  clear hw
                  go_wp2_with fail
                  refine (XB.out _ HB2.out).mono ?_
                  rintro e wz ⟨rfl, hw⟩
                  obtain rfl := hw.symm
                  clear hw
                  go_wp2
                  go_ret
                  exact ⟨by first | rfl | simp, HB2.out⟩
                · have r1 : ¬ ((K.length : Nat) : Int) < ((x.length : Nat) : Int) := by omega
                  have r2 : ((((x.length : Nat) : Int)) == ((K.length : Nat) : Int)) = true := by rw [hd]; simp
                  have r3 : 0 ≤ cmpB x K := cmpB_ge.2 hd2
                  clear hd hd2
                  go_wp2_with fail
                  refine (XA.out _ HB2.out).mono ?_
                  rintro e wz ⟨rfl, hw⟩
                  obtain rfl := hw.symm
                  clear hw
                  go_wp2_with fail
                  refine (XB.out _ HB2.out).mono ?_
                  rintro e wz ⟨rfl, hw⟩
                  obtain rfl := hw.symm
                  clear hw
                  go_wp2_with fail
                  refine (XK.out _ HB2.out a' c' HN2.out).mono ?_
                  rintro e wz ⟨rfl, hw⟩
                  obtain rfl := hw.symm
                  clear hw
                  go_wp2
                  go_ret
                  exact ⟨by first | rfl | simp, HB2.out⟩
      · go_wp2_with fail
        refine (AB.out _ HB2.out).mono ?_
        rintro e wz ⟨rfl, hw⟩
        obtain rfl := hw.symm
        clear hw
        by_cases x1 : ((x.length : Nat) : Int) < 1
        · go_wp2
          go_ret
          exact ⟨by first | rfl | simp, HB2.out⟩
        · by_cases x2 : (24 : Int) < ((x.length : Nat) : Int)
          · go_wp2
            go_ret
            exact ⟨by first | rfl | simp, HB2.out⟩
          · by_cases x3 : cmpB x l ≤ 0
            · go_wp2_with fail
              refine (XA.out _ HB2.out).mono ?_
              rintro e wz ⟨rfl, hw⟩
              obtain rfl := hw.symm
              clear hw
              go_wp2
              go_ret
              exact ⟨by first | rfl | simp, HB2.out⟩
            · by_cases x4 : 0 < cmpB x k
              · go_wp2_with fail
                refine (XA.out _ HB2.out).mono ?_
                rintro e wz ⟨rfl, hw⟩
                obtain rfl := hw.symm
                clear hw
                go_wp2_with fail
                refine (XB.out _ HB2.out).mono ?_
                rintro e wz ⟨rfl, hw⟩
                obtain rfl := hw.symm
                clear hw
                go_wp2
                go_ret
                exact ⟨by first | rfl | simp, HB2.out⟩
              · rcases YES.out (cmpB_pos.1 (by omega)) (cmpB_le.1 (by omega)) with hd | ⟨hd, hd2⟩
                · have r1 : ((K.length : Nat) : Int) < ((x.length : Nat) : Int) := by omega
                  go_wp2_with fail
                  refine (XA.out _ HB2.out).mono ?_
                  rintro e wz ⟨rfl, hw⟩
                  obtain rfl := hw.symm
                  clear hw
                  go_wp2_with fail
                  refine (XB.out _ HB2.out).mono ?_
                  rintro e wz ⟨rfl, hw⟩
                  obtain rfl := hw.symm
                  clear hw
                  go_wp2
                  go_ret
                  exact ⟨by first | rfl | simp, HB2.out⟩
                · have r1 : ¬ ((K.length : Nat) : Int) < ((x.length : Nat) : Int) := by omega
                  have r2 : ((((x.length : Nat) : Int)) == ((K.length : Nat) : Int)) = true := by rw [hd]; simp
                  have r3 : 0 ≤ cmpB x K := cmpB_ge.2 hd2
                  clear hd hd2
                  go_wp2_with fail
                  refine (XA.out _ HB2.out).mono ?_
                  rintro e wz ⟨rfl, hw⟩
                  obtain rfl := hw.symm
                  clear hw
                  go_wp2_with fail
                  refine (XB.out _ HB2.out).mono ?_
                  rintro e wz ⟨rfl, hw⟩
                  obtain rfl := hw.symm
                  clear hw
                  go_wp2_with fail
                  refine (XK.out _ HB2.out a' c' HN2.out).mono ?_
                  rintro e wz ⟨rfl, hw⟩
                  obtain rfl := hw.symm
                  clear hw
                  go_wp2
                  go_ret
                  exact ⟨by first | rfl | simp, HB2.out⟩
    · by_cases x1 : ((x.length : Nat) : Int) < 1
      · go_wp2
        go_ret
        exact ⟨by first | rfl | simp, HB2.out⟩
      · by_cases x2 : (24 : Int) < ((x.length : Nat) : Int)
        · go_wp2
          go_ret
          exact ⟨by first | rfl | simp, HB2.out⟩
        · by_cases x3 : cmpB x l ≤ 0
          · go_wp2_with fail
            refine (XA.out _ HB2.out).mono ?_
            rintro e wz ⟨rfl, hw⟩
            obtain rfl := hw.symm
            clear hw
            go_wp2
            go_ret
            exact ⟨by first | rfl | simp, HB2.out⟩
          · by_cases x4 : 0 < cmpB x k
            · go_wp2_with fail
              refine (XA.out _ HB2.out).mono ?_
              rintro e wz ⟨rfl, hw⟩
              obtain rfl := hw.symm
              clear hw
              go_wp2_with fail
              refine (XB.out _ HB2.out).mono ?_
              rintro e wz ⟨rfl, hw⟩
              obtain rfl := hw.symm
              clear hw
              go_wp2
              go_ret
              exact ⟨by first | rfl | simp, HB2.out⟩
            · rcases YES.out (cmpB_pos.1 (by omega)) (cmpB_le.1 (by omega)) with hd | ⟨hd, hd2⟩
              · have r1 : ((K.length : Nat) : Int) < ((x.length : Nat) : Int) := by omega
                go_wp2_with fail
                refine (XA.out _ HB2.out).mono ?_
                rintro e wz ⟨rfl, hw⟩
                obtain rfl := hw.symm
                clear hw
                go_wp2_with fail
                refine (XB.out _ HB2.out).mono ?_
                rintro e wz ⟨rfl, hw⟩
                obtain rfl := hw.symm
                clear hw
                go_wp2
                go_ret
                exact ⟨by first | rfl | simp, HB2.out⟩
              · have r1 : ¬ ((K.length : Nat) : Int) < ((x.length : Nat) : Int) := by omega
                have r2 : ((((x.length : Nat) : Int)) == ((K.length : Nat) : Int)) = true := by rw [hd]; simp
                have r3 : 0 ≤ cmpB x K := cmpB_ge.2 hd2
                clear hd hd2
                go_wp2_with fail
                refine (XA.out _ HB2.out).mono ?_
                rintro e wz ⟨rfl, hw⟩
                obtain rfl := hw.symm
                clear hw
                go_wp2_with fail
                refine (XB.out _ HB2.out).mono ?_
                rintro e wz ⟨rfl, hw⟩
                obtain rfl := hw.symm
                clear hw
                go_wp2_with fail
                refine (XK.out _ HB2.out a' c' HN2.out).mono ?_
                rintro e wz ⟨rfl, hw⟩
                obtain rfl := hw.symm
                clear hw
                go_wp2
                go_ret
                exact ⟨by first | rfl | simp, HB2.out⟩
  · by_cases x1 : ((x.length : Nat) : Int) < 1
    · go_wp2
      go_ret
      exact ⟨by first | rfl | simp, HB2.out⟩
    · by_cases x2 : (24 : Int) < ((x.length : Nat) : Int)
      · go_wp2
        go_ret
        exact ⟨by first | rfl | simp, HB2.out⟩
      · by_cases x3 : cmpB x l ≤ 0
        · go_wp2_with fail
          refine (XA.out _ HB2.out).mono ?_
          rintro e wz ⟨rfl, hw⟩
          obtain rfl := hw.symm
          clear hw
          go_wp2
          go_ret
          exact ⟨by first | rfl | simp, HB2.out⟩
        · by_cases x4 : 0 < cmpB x k
          · go_wp2_with fail
            refine (XA.out _ HB2.out).mono ?_
            rintro e wz ⟨rfl, hw⟩
            obtain rfl := hw.symm
            clear hw
            go_wp2_with fail
            refine (XB.out _ HB2.out).mono ?_
            rintro e wz ⟨rfl, hw⟩
            obtain rfl := hw.symm
            clear hw
            go_wp2
            go_ret
            exact ⟨by first | rfl | simp, HB2.out⟩
          · rcases YES.out (cmpB_pos.1 (by omega)) (cmpB_le.1 (by omega)) with hd | ⟨hd, hd2⟩
            · have r1 : ((K.length : Nat) : Int) < ((x.length : Nat) : Int) := by omega
              go_wp2_with fail
              refine (XA.out _ HB2.out).mono ?_
              rintro e wz ⟨rfl, hw⟩
              obtain rfl := hw.symm
              clear hw
              go_wp2_with fail
              refine (XB.out _ HB2.out).mono ?_
              rintro e wz ⟨rfl, hw⟩
              obtain rfl := hw.symm
              clear hw
              go_wp2
              go_ret
              exact ⟨by first | rfl | simp, HB2.out⟩
            · have r1 : ¬ ((K.length : Nat) : Int) < ((x.length : Nat) : Int) := by omega
              have r2 : ((((x.length : Nat) : Int)) == ((K.length : Nat) : Int)) = true := by rw [hd]; simp
              have r3 : 0 ≤ cmpB x K := cmpB_ge.2 hd2
              clear hd hd2
              go_wp2_with fail
              refine (XA.out _ HB2.out).mono ?_
              rintro e wz ⟨rfl, hw⟩
              obtain rfl := hw.symm
              clear hw
              go_wp2_with fail
              refine (XB.out _ HB2.out).mono ?_
              rintro e wz ⟨rfl, hw⟩
              obtain rfl := hw.symm
              clear hw
              go_wp2_with fail
              refine (XK.out _ HB2.out a' c' HN2.out).mono ?_
              rintro e wz ⟨rfl, hw⟩
              obtain rfl := hw.symm
              clear hw
              go_wp2
              go_ret
              exact ⟨by first | rfl | simp, HB2.out⟩
set_option maxRecDepth 100000 in
set_option maxHeartbeats 12800000 in
theorem spanShortest_no (w : World) (a0 : Option Addr) (c0 : Nat) (l : List Nat) (hB0 : Bs w a0 l) (_ : l.length + 64 ≤ 140737488355328) (hC : l.length ≤ c0) (a1 : Option Addr) (c1 : Nat) (k : List Nat) (hB1 : Bs w a1 k) (_ : k.length + 64 ≤ 140737488355328) (_ : k.length ≤ c1) (a2 : Option Addr) (c2 : Nat) (x : List Nat) (hB2 : Bs w a2 x) (_ : x.length + 64 ≤ 140737488355328) (_ : x.length ≤ c2) (h : ¬ (l < k ∧ common l k < 24)) :
    Calls Try.prog 8 #[.slice a0 l.length c0, .slice a1 k.length c1, .slice a2 x.length c2] w fun e w' => e = .returned (.bool true) ∧ Below w.heap.size w w' := by
  have FX := hide (fixed_any w)
  have BT := hide fun w1 (hb : Below w.heap.size w w1) => Between_any w1 a0 a1 l.length c0 k.length c1 l k (hB0.keep hb) (hB1.keep hb) rfl rfl hC
  have AB := hide fun w1 (hb : Below w.heap.size w w1) => sCompare_any w1 a0 a1 l.length c0 k.length c1 l k (hB0.keep hb) (hB1.keep hb) rfl rfl
  have CM := hide fun w1 (hb : Below w.heap.size w w1) => Common_any w1 a0 a1 l.length c0 k.length c1 l k (hB0.keep hb) (hB1.keep hb) rfl rfl
  have XA := hide fun w1 (hb : Below w.heap.size w w1) => sCompare_any w1 a2 a0 x.length c2 l.length c0 x l (hB2.keep hb) (hB0.keep hb) rfl rfl
  have XB := hide fun w1 (hb : Below w.heap.size w w1) => sCompare_any w1 a2 a1 x.length c2 k.length c1 x k (hB2.keep hb) (hB1.keep hb) rfl rfl
  have NO := hide (@shortest_none l k (B8_of hB1) h x)
  have NO2 := hide fun (h1 : 1 ≤ k.length ∧ k.length ≤ 24) (h2 : l < k) => @shortest_none l k (B8_of hB1) h k h1 h2 (by grind)
  have HBW := hide (show between l k = ([], false) from by unfold between; rw [if_neg h])
  rw [HBW.out] at BT
  clear h hB0 hB1 hB2 HBW CM
  go_enter Try.func8, Try.ntmps8
  go_wp2_with fail
  refine FX.out.mono ?_
  rintro e w1 ⟨rfl, hb1⟩
  have HB1 := hide hb1
  clear hb1
  go_wp2_with fail
  refine (BT.out _ HB1.out).mono ?_
  rintro e w2 ⟨a', c', rfl, ho⟩
  have HB2 := hide (bt HB1.out ho.b)
  clear ho
  by_cases b1 : 1 ≤ ((k.length : Nat) : Int)
  · by_cases b2 : ((k.length : Nat) : Int) ≤ 24
    · by_cases b3 : cmpB l k < 0
      · exact absurd (NO2.out ⟨by omega, by omega⟩ (cmpB_neg.1 b3)) id
      · go_wp2_with fail
        refine (AB.out _ HB2.out).mono ?_
        rintro e wz ⟨rfl, hw⟩
        obtain rfl := hw.symm
        clear hw
        by_cases x1 : ((x.length : Nat) : Int) < 1
        · go_wp2
          go_ret
          exact ⟨by first | rfl | simp, HB2.out⟩
        · by_cases x2 : (24 : Int) < ((x.length : Nat) : Int)
          · go_wp2
            go_ret
            exact ⟨by first | rfl | simp, HB2.out⟩
          · by_cases x3 : cmpB x l ≤ 0
            · go_wp2_with fail
              refine (XA.out _ HB2.out).mono ?_
              rintro e wz ⟨rfl, hw⟩
              obtain rfl := hw.symm
              clear hw
              go_wp2
              go_ret
              exact ⟨by first | rfl | simp, HB2.out⟩
            · by_cases x4 : 0 < cmpB x k
              · go_wp2_with fail
                refine (XA.out _ HB2.out).mono ?_
                rintro e wz ⟨rfl, hw⟩
                obtain rfl := hw.symm
                clear hw
                go_wp2_with fail
                refine (XB.out _ HB2.out).mono ?_
                rintro e wz ⟨rfl, hw⟩
                obtain rfl := hw.symm
                clear hw
                go_wp2
                go_ret
                exact ⟨by first | rfl | simp, HB2.out⟩
              · exact absurd (NO.out ⟨by omega, by omega⟩ (cmpB_pos.1 (by omega)) (cmpB_le.1 (by omega))) id
    · by_cases x1 : ((x.length : Nat) : Int) < 1
      · go_wp2
        go_ret
        exact ⟨by first | rfl | simp, HB2.out⟩
      · by_cases x2 : (24 : Int) < ((x.length : Nat) : Int)
        · go_wp2
          go_ret
          exact ⟨by first | rfl | simp, HB2.out⟩
        · by_cases x3 : cmpB x l ≤ 0
          · go_wp2_with fail
            refine (XA.out _ HB2.out).mono ?_
            rintro e wz ⟨rfl, hw⟩
            obtain rfl := hw.symm
            clear hw
            go_wp2
            go_ret
            exact ⟨by first | rfl | simp, HB2.out⟩
          · by_cases x4 : 0 < cmpB x k
            · go_wp2_with fail
              refine (XA.out _ HB2.out).mono ?_
              rintro e wz ⟨rfl, hw⟩
              obtain rfl := hw.symm
              clear hw
              go_wp2_with fail
              refine (XB.out _ HB2.out).mono ?_
              rintro e wz ⟨rfl, hw⟩
              obtain rfl := hw.symm
              clear hw
              go_wp2
              go_ret
              exact ⟨by first | rfl | simp, HB2.out⟩
            · exact absurd (NO.out ⟨by omega, by omega⟩ (cmpB_pos.1 (by omega)) (cmpB_le.1 (by omega))) id
  · by_cases x1 : ((x.length : Nat) : Int) < 1
    · go_wp2
      go_ret
      exact ⟨by first | rfl | simp, HB2.out⟩
    · by_cases x2 : (24 : Int) < ((x.length : Nat) : Int)
      · go_wp2
        go_ret
        exact ⟨by first | rfl | simp, HB2.out⟩
      · by_cases x3 : cmpB x l ≤ 0
        · go_wp2_with fail
          refine (XA.out _ HB2.out).mono ?_
          rintro e wz ⟨rfl, hw⟩
          obtain rfl := hw.symm
          clear hw
          go_wp2
          go_ret
          exact ⟨by first | rfl | simp, HB2.out⟩
        · by_cases x4 : 0 < cmpB x k
          · go_wp2_with fail
            refine (XA.out _ HB2.out).mono ?_
            rintro e wz ⟨rfl, hw⟩
            obtain rfl := hw.symm
            clear hw
            go_wp2_with fail
            refine (XB.out _ HB2.out).mono ?_
            rintro e wz ⟨rfl, hw⟩
            obtain rfl := hw.symm
            clear hw
            go_wp2
            go_ret
            exact ⟨by first | rfl | simp, HB2.out⟩
          · exact absurd (NO.out ⟨by omega, by omega⟩ (cmpB_pos.1 (by omega)) (cmpB_le.1 (by omega))) id
theorem spanShortest_any (w : World) (a0 : Option Addr) (c0 : Nat) (l : List Nat) (hB0 : Bs w a0 l) (_ : l.length + 64 ≤ 140737488355328) (hC : l.length ≤ c0) (a1 : Option Addr) (c1 : Nat) (k : List Nat) (hB1 : Bs w a1 k) (_ : k.length + 64 ≤ 140737488355328) (_ : k.length ≤ c1) (a2 : Option Addr) (c2 : Nat) (x : List Nat) (hB2 : Bs w a2 x) (_ : x.length + 64 ≤ 140737488355328) (_ : x.length ≤ c2) :
    Calls Try.prog 8 #[.slice a0 l.length c0, .slice a1 k.length c1, .slice a2 x.length c2] w fun e w' => e = .returned (.bool true) ∧ Below w.heap.size w w' := by
  by_cases h : l < k ∧ common l k < 24
  · exact spanShortest_yes w a0 c0 l hB0 (by assumption) hC a1 c1 k hB1 (by assumption) (by assumption) a2 c2 x hB2 (by assumption) (by assumption) h
  · exact spanShortest_no w a0 c0 l hB0 (by assumption) hC a1 c1 k hB1 (by assumption) (by assumption) a2 c2 x hB2 (by assumption) (by assumption) h
end Go.Proofs.Ytbobnfjbbablkaa
