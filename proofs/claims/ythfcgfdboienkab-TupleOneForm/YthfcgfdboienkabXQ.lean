import Derived.Test.YthfcgfdboienkabXP
namespace Go.Proofs.Ythfcgfdboienkab
open Go.RowKit

set_option maxHeartbeats 1600000 in
theorem tupleOneForm_any (w : World) (a : Option Addr) (n cap : Nat) (l : List Nat) (hB : Bs w a l) (hlen : l.length ≤ 140737488355328) (hn : n = l.length) :
    Calls Try.prog 3 #[.slice a n cap] w fun e w' => e = .returned (.bool true) ∧ Below w.heap.size w w' := by
  subst hn
  have HB := hide hB
  have HLEN := hide hlen
  have WK := hide (works_any w)
  have HOF := hide (one_form l)
  have HER := hide (decR_err l)
  clear hB hlen
  go_enter Try.func3, Try.ntmps3
  go_wp2_with fail
  refine WK.out.mono ?_
  rintro e w1 ⟨rfl, hb1⟩
  have CP := hide (CopyBytes_any w1 a l.length cap l (HB.out.keep hb1) rfl HLEN.out)
  have B1 := hide hb1
  clear hb1 WK
  go_wp2_with fail
  refine CP.out.mono ?_
  rintro e w2 ⟨a2, c2, rfl, r2, n2, b2⟩
  have DE := hide (tDecode_any w2 a2 l.length c2 l (r2.bs HB.out.1 HB.out.2.1) (by rcases r2.cases with ⟨_, _, h⟩ | ⟨_, _, _, _, h, _⟩; subst h; simp; exact h) rfl)
  have B2 := hide (bt B1.out b2)
  clear r2 n2 b2 CP B1
  by_cases hz : (decR l).2 = 0
  · have HE := hide (HOF.out hz)
    rw [hz] at DE
    have HML := hide (decR_len l)
    clear HOF HER hz
    generalize (decR l).1 = M at *
    go_wp2_with fail
    refine DE.out.mono ?_
    rintro e w3 ⟨a3, c3, rfl, h3, hok⟩
    have EN := tEncode_any w3 a3 M.length c3 M (h3.r.read hok (by have := HML.out; omega)) rfl
    rw [HE.out] at EN
    have EN := hide EN
    have B3 := hide (bt B2.out h3.b)
    clear h3 hok DE
    go_wp2_with fail
    refine EN.out.mono ?_
    rintro e w4 ⟨a4, c4, rfl, h4⟩
    have B4 := hide (bt B3.out h4.b)
    have Q := hide (EqBytes_same w4 a a4 l.length l.length cap c4 l (HB.out.keep B4.out) (h4.r.bs HB.out.1 HB.out.2.1) rfl rfl)
    clear h4 EN
    go_wp2_with fail
    refine Q.out.mono ?_
    rintro e w5 ⟨rfl, hb5⟩
    have B5 := hide (bt B4.out hb5)
    clear hb5
    go_wp2
    go_ret
    exact ⟨rfl, B5.out⟩
  · have hzf : ((decR l).2 == 0) = false := eqf hz
    rw [HER.out hz] at DE
    clear HOF HER hz
    generalize (decR l).2 = c at *
    go_wp2_with fail
    refine DE.out.mono ?_
    rintro e w3 ⟨a3, c3, rfl, h3, _⟩
    have B3 := hide (bt B2.out h3.b)
    clear h3 DE
    go_wp2
    go_ret
    exact ⟨rfl, B3.out⟩
end Go.Proofs.Ythfcgfdboienkab
