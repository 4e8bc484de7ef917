import Derived.Test.YthfcgfdboienkaaXM
namespace Go.Proofs.Ythfcgfdboienkaa
open Go.RowKit

set_option maxHeartbeats 1600000 in
theorem tupleEncodes_any (w : World) (a : Option Addr) (n cap : Nat) (L : List VV) (hL : Rs w a L) (hT : ∀ v ∈ L, v.text.size ≤ 1048576) (hn : n = L.length) :
    Calls Try.prog 5 #[.slice a n cap] w fun e w' => e = .returned (.bool true) ∧ Below w.heap.size w w' := by
  subst hn
  have D1 := hide (dEncode_any w a L.length cap L hL hT rfl)
  have HL := hide hL
  have hlt := encR_lt L hL.1
  have EN := hide (fun W g (h : Ls W g L) => tEncode_any W (some ⟨g, 0, none⟩) L.length (L.length + 2) L (h.ps hL.1 hL.2.1) rfl)
  have WK := hide works_any
  clear hL hT
  generalize (encR L).1 = l at *
  generalize (encR L).2 = c at *
  have HLT := hide hlt
  clear hlt
  have hcc : (c == c) = true := by simp
  go_enter Try.func5, Try.ntmps5
  go_wp2_with fail
  refine D1.out.mono ?_
  rintro e w1 ⟨a1, c1, rfl, h1⟩
  have L1 := hide (list_any w1 a L.length cap L (HL.out.keep h1.b) rfl)
  have H1 := hide h1
  clear h1 D1
  go_wp2_with fail
  refine L1.out.mono ?_
  rintro e w2 ⟨rfl, hl2, hb2⟩
  have B2 := hide (EN.out w2 w1.heap.size hl2)
  have O1 := hide (H1.out.keep hb2)
  have HX := hide hl2
  have HL2 := hide (HL.out.keep (bt H1.out.b hb2))
  clear hl2 hb2 H1 HL L1 EN
  generalize w1.heap.size = gx at *
  go_wp2_with fail
  refine B2.out.mono ?_
  rintro e w3 ⟨a3, c3, rfl, h3⟩
  have O3 := hide (O1.out.keep h3.b)
  have HX3 := hide (HX.out.keep h3.b)
  have HL3 := hide (HL2.out.keep h3.b)
  have Q1 := hide (EqBytes_same w3 a3 a1 l.length l.length c3 c1 l (h3.r.bs HLT.out.1 (by have := HLT.out.2; omega)) (O3.out.r.bs HLT.out.1 (by have := HLT.out.2; omega)) rfl rfl)
  clear h3 B2 O1 HX HL2
  go_wp2_with fail
  refine Q1.out.mono ?_
  rintro e w4 ⟨rfl, hb4⟩
  have KP := hide (kept_any w4 gx a L.length L.length (L.length + 2) cap L (HX3.out.keep hb4) (HL3.out.keep hb4) rfl rfl rfl)
  have B4 := hide (bt O3.out.b hb4)
  clear hb4 Q1 O3 HX3 HL3
  go_wp2_with fail
  refine KP.out.mono ?_
  rintro e w5 ⟨rfl, hb5⟩
  have B5 := hide (bt B4.out hb5)
  clear hb5 KP B4
  go_wp2_with fail
  refine (WK.out _).mono ?_
  rintro e w6 ⟨rfl, hb6⟩
  have B6 := hide (bt B5.out hb6)
  clear hb6
  go_wp2
  go_ret
  exact ⟨rfl, B6.out⟩
end Go.Proofs.Ythfcgfdboienkaa
