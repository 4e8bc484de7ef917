import Derived.Test.YthfcgfdboienkaaVL
import Derived.Test.YthfcgfdboienkaaVO
namespace Go.Proofs.Ythfcgfdboienkaa
open Go.RowKit

structure TC (w W : World) (gx gy : Nat) (a a2 : Option Addr) (L K : List VV) : Prop where
  x : Ls W gx L
  y : Ls W gy K
  a : Rs W a L
  b : Rs W a2 K
  u : Below w.heap.size w W
  e : w.heap.size = gx
theorem TC.keep {w W W' : World} {gx gy : Nat} {a a2 : Option Addr} {L K : List VV} (h : TC w W gx gy a a2 L K) (hb : Below W.heap.size W W') : TC w W' gx gy a a2 L K :=
  ⟨h.x.keep hb, h.y.keep hb, h.a.keep hb, h.b.keep hb, bt h.u hb, h.e⟩
theorem TC.xy {w W : World} {gx gy : Nat} {a a2 : Option Addr} {L K : List VV} (h : TC w W gx gy a a2 L K) : Calls Try.prog 17 #[.slice (some ⟨gx, 0, none⟩) L.length (L.length + 2), .slice (some ⟨gy, 0, none⟩) K.length (K.length + 2)] W fun e w' => e = .returned (.int .i64 (cmpL L K)) ∧ TC w w' gx gy a a2 L K :=
  (tCompare_any W _ _ L.length K.length (L.length + 2) (K.length + 2) L K (h.x.ps h.a.1 h.a.2.1) (h.y.ps h.b.1 h.b.2.1) rfl rfl).mono fun _ _ hh => ⟨hh.1, h.keep hh.2⟩
theorem TC.yx {w W : World} {gx gy : Nat} {a a2 : Option Addr} {L K : List VV} (h : TC w W gx gy a a2 L K) : Calls Try.prog 17 #[.slice (some ⟨gy, 0, none⟩) K.length (K.length + 2), .slice (some ⟨gx, 0, none⟩) L.length (L.length + 2)] W fun e w' => e = .returned (.int .i64 (cmpL K L)) ∧ TC w w' gx gy a a2 L K :=
  (tCompare_any W _ _ K.length L.length (K.length + 2) (L.length + 2) K L (h.y.ps h.b.1 h.b.2.1) (h.x.ps h.a.1 h.a.2.1) rfl rfl).mono fun _ _ hh => ⟨hh.1, h.keep hh.2⟩
theorem TC.xx {w W : World} {gx gy : Nat} {a a2 : Option Addr} {L K : List VV} (h : TC w W gx gy a a2 L K) : Calls Try.prog 17 #[.slice (some ⟨gx, 0, none⟩) L.length (L.length + 2), .slice (some ⟨gx, 0, none⟩) L.length (L.length + 2)] W fun e w' => e = .returned (.int .i64 0) ∧ TC w w' gx gy a a2 L K :=
  (tCompare_any W _ _ L.length L.length (L.length + 2) (L.length + 2) L L (h.x.ps h.a.1 h.a.2.1) (h.x.ps h.a.1 h.a.2.1) rfl rfl).mono fun _ _ hh => ⟨by rw [hh.1, cmpL_refl], h.keep hh.2⟩
theorem TC.dab {w W : World} {gx gy : Nat} {a a2 : Option Addr} {L K : List VV} (h : TC w W gx gy a a2 L K) (cap cap2 : Nat) : Calls Try.prog 18 #[.slice a L.length cap, .slice a2 K.length cap2] W fun e w' => e = .returned (.int .i64 (cmpL L K)) ∧ TC w w' gx gy a a2 L K :=
  (dCompare_any W _ _ L.length K.length cap cap2 L K h.a h.b rfl rfl).mono fun _ _ hh => ⟨hh.1, h.keep hh.2⟩
theorem TC.dba {w W : World} {gx gy : Nat} {a a2 : Option Addr} {L K : List VV} (h : TC w W gx gy a a2 L K) (cap cap2 : Nat) : Calls Try.prog 18 #[.slice a2 K.length cap2, .slice a L.length cap] W fun e w' => e = .returned (.int .i64 (cmpL K L)) ∧ TC w w' gx gy a a2 L K :=
  (dCompare_any W _ _ K.length L.length cap2 cap K L h.b h.a rfl rfl).mono fun _ _ hh => ⟨hh.1, h.keep hh.2⟩
theorem TC.ka {w W : World} {gx gy : Nat} {a a2 : Option Addr} {L K : List VV} (h : TC w W gx gy a a2 L K) (cap : Nat) : Calls Try.prog 19 #[.slice (some ⟨gx, 0, none⟩) L.length (L.length + 2), .slice a L.length cap] W fun e w' => e = .returned (.bool true) ∧ TC w w' gx gy a a2 L K :=
  (kept_any W _ _ L.length L.length (L.length + 2) cap L h.x h.a rfl rfl rfl).mono fun _ _ hh => ⟨hh.1, h.keep hh.2⟩
theorem TC.kb {w W : World} {gx gy : Nat} {a a2 : Option Addr} {L K : List VV} (h : TC w W gx gy a a2 L K) (cap : Nat) : Calls Try.prog 19 #[.slice (some ⟨gy, 0, none⟩) K.length (K.length + 2), .slice a2 K.length cap] W fun e w' => e = .returned (.bool true) ∧ TC w w' gx gy a a2 L K :=
  (kept_any W _ _ K.length K.length (K.length + 2) cap K h.y h.b rfl rfl rfl).mono fun _ _ hh => ⟨hh.1, h.keep hh.2⟩

set_option maxHeartbeats 1600000 in
theorem tupleCompares_any (w : World) (a a2 : Option Addr) (n m cap cap2 : Nat) (L K : List VV) (hL : Rs w a L) (hK : Rs w a2 K) (hn : n = L.length) (hm : m = K.length) :
    Calls Try.prog 4 #[.slice a n cap, .slice a2 m cap2] w fun e w' => e = .returned (.bool true) ∧ Below w.heap.size w w' := by
  subst hn hm
  have L1 := hide (list_any w a L.length cap L hL rfl)
  have HL := hide hL
  have HK := hide hK
  clear hL hK
  go_enter Try.func4, Try.ntmps4
  go_wp2_with fail
  refine L1.out.mono ?_
  rintro e w1 ⟨rfl, hl1, hb1⟩
  have L2 := hide (list_any w1 a2 K.length cap2 K (HK.out.keep hb1) rfl)
  have HL1 := hide hl1
  have HB1 := hide hb1
  clear hl1 hb1
  go_wp2_with fail
  refine L2.out.mono ?_
  rintro e w2 ⟨rfl, hl2, hb2⟩
  have HZ : Hid (TC w w2 w.heap.size w1.heap.size a a2 L K) := ⟨HL1.out.keep hb2, hl2, HL.out.keep (bt HB1.out hb2), HK.out.keep (bt HB1.out hb2), bt HB1.out hb2, rfl⟩
  clear HL HK HB1 HL1 L1 L2 hl2 hb2
  generalize w.heap.size = gx at *
  generalize w1.heap.size = gy at *
  have hxy : (cmpL L K != cmpL L K) = false := by simp
  have hyx : (cmpL K L != cmpL K L) = false := by simp
  have R1 := hide (TC.xy HZ.out)
  go_wp2_with fail
  refine R1.out.mono ?_
  rintro e w3 ⟨rfl, h3⟩
  have R2 := hide (TC.dab h3 cap cap2)
  clear R1 h3
  go_wp2_with fail
  refine R2.out.mono ?_
  rintro e w4 ⟨rfl, h4⟩
  have R3 := hide (TC.yx h4)
  clear R2 h4
  go_wp2_with fail
  refine R3.out.mono ?_
  rintro e w5 ⟨rfl, h5⟩
  have R4 := hide (TC.dba h5 cap cap2)
  clear R3 h5
  go_wp2_with fail
  refine R4.out.mono ?_
  rintro e w6 ⟨rfl, h6⟩
  have R5 := hide (TC.xx h6)
  clear R4 h6
  go_wp2_with fail
  refine R5.out.mono ?_
  rintro e w7 ⟨rfl, h7⟩
  have R6 := hide (TC.ka h7 cap)
  clear R5 h7
  go_wp2_with fail
  refine R6.out.mono ?_
  rintro e w8 ⟨rfl, h8⟩
  have R7 := hide (TC.kb h8 cap2)
  clear R6 h8
  go_wp2_with fail
  refine R7.out.mono ?_
  rintro e w9 ⟨rfl, h9⟩
  have H9 := hide h9
  clear R7 h9
  go_wp2
  go_ret
  exact ⟨rfl, H9.out.u⟩
end Go.Proofs.Ythfcgfdboienkaa
