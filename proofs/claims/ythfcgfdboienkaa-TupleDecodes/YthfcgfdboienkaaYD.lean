import Derived.Test.YthfcgfdboienkaaYC
import Derived.Test.YthfcgfdboienkaaXP
import Derived.Test.YthfcgfdboienkaaXM
import Derived.Test.YthfcgfdboienkaaVB
namespace Go.Proofs.Ythfcgfdboienkaa
open Go.RowKit

set_option maxHeartbeats 1600000 in
theorem tupleDecodes_any (w : World) (a : Option Addr) (n cap : Nat) (l : List Nat) (hB : Bs w a l) (hcap : l.length ≤ cap) (hlen : l.length + 64 ≤ 140737488355328) (hn : n = l.length) :
    Calls Try.prog 6 #[.slice a n cap] w fun e w' => e = .returned (.bool true) ∧ Below w.heap.size w w' := by
  subst hn
  have HB := hide hB
  have D1 := hide (dDecode_any w a l.length cap l hB hcap rfl)
  have WK := hide works_any
  have HML := hide (decR_len l)
  have TD := hide (fun W g (h : W.rowIs g 5 (l.length + 64) (spF l)) => tDecode_any W (some ⟨g, 0, none⟩) l.length (l.length + 64) l (spare_bs h (by omega) hB.1 hB.2.1) (by omega) rfl)
  clear hB
  generalize (decR l).2 = c at *
  generalize (decR l).1 = M at *
  go_enter Try.func6, Try.ntmps6
  go_wp2_with fail
  refine D1.out.mono ?_
  rintro e w1 ⟨a1, c1, rfl, h1, ok1⟩
  have OK := hide ok1
  have R1 := hide h1.r
  have B1 := hide h1.b
  have SP := hide (Spare_any w1 a l.length cap l (HB.out.keep h1.b) rfl (by omega))
  clear h1 D1 ok1
  go_wp2_with fail
  refine SP.out.mono ?_
  rintro e w2 ⟨rfl, row2, b2⟩
  have T2 := hide (TD.out w2 _ row2)
  have R2 := hide (R1.out.keep b2)
  have B2 := hide (bt B1.out b2)
  have W2 := hide row2
  clear row2 b2 SP TD R1 B1
  generalize w1.heap.size = g at *
  go_wp2_with fail
  refine T2.out.mono ?_
  rintro e w3 ⟨a3, c3, rfl, h3, _⟩
  have R3 := hide (R2.out.keep h3.b)
  have B3 := hide (bt B2.out h3.b)
  have W3 := hide (rowIs_below W2.out h3.b)
  have LK := hide (like_same w3 a3 a1 M.length M.length c3 c1 M (h3.r.read OK.out (by have := HML.out; omega)) (R3.out.read OK.out (by have := HML.out; omega)) rfl rfl)
  clear h3 T2 R2 B2 W2
  go_wp2_with fail
  refine LK.out.mono ?_
  rintro e w4 ⟨rfl, hb4⟩
  have B4 := hide (bt B3.out hb4)
  have KP := hide (Kept_any w4 g (l.length + 64) a l.length l.length cap l (rowIs_below W3.out hb4) (HB.out.keep B4.out) rfl rfl rfl (by omega))
  clear hb4 LK R3 B3 W3
  go_wp2_with fail
  refine KP.out.mono ?_
  rintro e w5 ⟨rfl, hb5⟩
  have B5 := hide (bt B4.out hb5)
  clear hb5 KP B4
  go_wp2_with fail
  refine (WK.out _).mono ?_
  rintro e w6 ⟨rfl, hb6⟩
  have B6 := hide (bt B5.out hb6)
  clear hb6
  go_wp2
  go_ret
  exact ⟨rfl, B6.out⟩
end Go.Proofs.Ythfcgfdboienkaa
