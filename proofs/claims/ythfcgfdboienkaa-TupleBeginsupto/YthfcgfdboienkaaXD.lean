import Derived.Test.YthfcgfdboienkaaXC
namespace Go.Proofs.Ythfcgfdboienkaa
open Go.RowKit

set_option maxHeartbeats 1600000 in
theorem tupleBegins_any (w : World) (a : Option Addr) (n cap : Nat) (L : List VV) (hL : Rs w a L) (hT : ∀ v ∈ L, v.text.size ≤ 1048576) (hn : n = L.length) :
    Calls Try.prog 7 #[.slice a n cap] w fun e w' => e = .returned (.bool true) ∧ Below w.heap.size w w' := by
  subst hn
  have D1 := hide (dEncode_any w a L.length cap L hL hT rfl)
  have HL := hide hL
  have hlt := encR_lt L hL.1
  have her := encR_err L
  have hlen := hL.2.1
  have BG := hide (fun W g (h : Ls W g L) => tBegin_any W (some ⟨g, 0, none⟩) L.length (L.length + 2) L (h.ps hL.1 hL.2.1) rfl)
  clear hL hT
  generalize (encR L).1 = l at *
  generalize (encR L).2 = c at *
  have HLT := hide hlt
  clear hlt
  go_enter Try.func7, Try.ntmps7
  go_wp2_with fail
  refine D1.out.mono ?_
  rintro e w1 ⟨a1, c1, rfl, h1⟩
  have L1 := hide (list_any w1 a L.length cap L (HL.out.keep h1.b) rfl)
  have H1 := hide h1
  clear h1 D1
  go_wp2_with fail
  refine L1.out.mono ?_
  rintro e w2 ⟨rfl, hl2, hb2⟩
  have B2 := hide (BG.out w2 w1.heap.size hl2)
  have O1 := hide (H1.out.keep hb2)
  have HX := hide hl2
  have HL2 := hide (HL.out.keep (bt H1.out.b hb2))
  clear hl2 hb2 H1 HL L1 BG
  generalize w1.heap.size = gx at *
  go_wp2_with fail
  refine B2.out.mono ?_
  rintro e w3 ⟨a3, c3, a4, c4, Hi, rfl, h3, h4, hHi, hsep⟩
  rcases her with rfl | ⟨hc, rfl⟩
  · rw [if_pos rfl] at hHi
    subst hHi
    have HLL : Hid ((l ++ [255]).length = l.length + 1) := by show _ = _; simp
    have MR := hide (heap_alloc_new w3 (.cells #[.slice a3 l.length c3, .slice a4 (l ++ [255]).length c4, .bool false] 58))
    have BX := hide (bt h3.b (al w3 (.cells #[.slice a3 l.length c3, .slice a4 (l ++ [255]).length c4, .bool false] 58)))
    have KP := hide (kept_any _ gx a L.length L.length (L.length + 2) cap L (HX.out.keep BX.out) (HL2.out.keep BX.out) rfl rfl rfl)
    have R3 := hide (h3.keep (al w3 (.cells #[.slice a3 l.length c3, .slice a4 (l ++ [255]).length c4, .bool false] 58)))
    have R4 := hide (h4.keep (al w3 (.cells #[.slice a3 l.length c3, .slice a4 (l ++ [255]).length c4, .bool false] 58)))
    have RW := hide (O1.out.keep BX.out)
    rw [HLL.out] at MR KP BX R3 R4 RW ⊢
    have Bw := hide (bt O1.out.b BX.out)
    clear h3 h4 hsep B2 O1 HX HL2 BX
    go_wp2_with fail
    refine KP.out.mono ?_
    rintro e w4 ⟨rfl, hb4⟩
    have M4 := hide ((hb4.block _ (by rw [size_alloc]; omega)).trans MR.out)
    have P3 := hide (R3.out.keep hb4)
    have P4 := hide (R4.out.keep hb4)
    have PW := hide (RW.out.keep hb4)
    have B4 := hide (bt Bw.out hb4)
    have CP := hide (CopyBytes_any w4 a1 l.length c1 l (PW.out.r.bs HLT.out.1 (by have := HLT.out.2; omega)) rfl (by have := HLT.out.2; omega))
    clear hb4 MR R3 R4 RW Bw KP
    generalize w3.heap.size = gr at *
    go_wp2_with fail
    refine CP.out.mono ?_
    rintro e w5 ⟨a5, c5, rfl, r5, n5, b5⟩
    have O5 : Hid (Own w4 w5 a5 c5 l) := ⟨r5, n5, b5⟩
    clear r5 n5 b5 CP
    go_wp2_with (first | (at_builtin; refine wpList_ap1 rfl _ _ rfl a5 l.length c5 l rfl rfl (O5.out.r.keep (al _ _)) ⟨w5.heap.size, 0, none⟩ 1 255 rfl ?c1 (by have := HLT.out.2; omega) ?_))
    try case c1 => simp
    intro g6 cap6 w6 hR hN hg _
    have O6 := hide (O5.out.step (Apd.ofGrown (al _ _) hR hN hg))
    clear hR hN hg O5
    have M6 := (O6.out.b.block gr (Array.getElem?_eq_some_iff.1 M4.out).1).trans M4.out
    have d0 := cell_of_row w6 gr 0 _ _ _ M6
    have E1 := hide (EqBytes_same w6 a3 a1 l.length l.length c3 c1 l ((P3.out.keep O6.out.b).r.bs HLT.out.1 (by have := HLT.out.2; omega)) ((PW.out.keep O6.out.b).r.bs HLT.out.1 (by have := HLT.out.2; omega)) rfl rfl)
    have E2 := hide (fun W (hW : Below w6.heap.size w6 W) => EqBytes_same W a4 (some ⟨g6, 0, none⟩) (l.length + 1) (l.length + 1) c4 cap6 (l ++ [255]) (((P4.out.keep O6.out.b).keep hW).r.bs (by intro x hx; rcases List.mem_append.1 hx with h | h; exact HLT.out.1 x h; simp at h; omega) (by have := HLT.out.2; simp; omega)) ((O6.out.keep hW).r.bs (by intro x hx; rcases List.mem_append.1 hx with h | h; exact HLT.out.1 x h; simp at h; omega) (by have := HLT.out.2; simp; omega)) (by simp) (by simp))
    have M6 := hide M6
    simp only [List.getElem?_toArray, List.getElem?_cons_zero] at d0
    go_wp2_with fail
    refine E1.out.mono ?_
    rintro e w7 ⟨rfl, hb7⟩
    have M7 := (hb7.block gr (Array.getElem?_eq_some_iff.1 M6.out).1).trans M6.out
    have d1 := cell_of_row w7 gr 1 _ _ _ M7
    simp only [List.getElem?_toArray, List.getElem?_cons_succ, List.getElem?_cons_zero] at d1
    have E2' := hide (E2.out w7 hb7)
    have M7 := hide M7
    have B7 := hide (bt (bt B4.out O6.out.b) hb7)
    clear hb7 E1 E2
    go_wp2_with fail
    refine E2'.out.mono ?_
    rintro e w8 ⟨rfl, hb8⟩
    have M8 := (hb8.block gr (Array.getElem?_eq_some_iff.1 M7.out).1).trans M7.out
    have d2 := cell_of_row w8 gr 2 _ _ _ M8
    simp only [List.getElem?_toArray, List.getElem?_cons_succ, List.getElem?_cons_zero] at d2
    have B8 := hide (bt B7.out hb8)
    clear hb8 M8
    go_wp2
    go_ret
    exact ⟨rfl, B8.out⟩
  · have hc0 : (c == 0) = false := eqf (by omega)
    have hc1 : ¬ c = 0 := by omega
    rw [if_neg hc1] at hHi
    subst hHi
    have MR := hide (heap_alloc_new w3 (.cells #[.slice a3 0 c3, .slice a4 0 c4, .bool false] 58))
    have BX := hide (bt h3.b (al w3 (.cells #[.slice a3 0 c3, .slice a4 0 c4, .bool false] 58)))
    have KP := hide (kept_any _ gx a L.length L.length (L.length + 2) cap L (HX.out.keep BX.out) (HL2.out.keep BX.out) rfl rfl rfl)
    have Bw := hide (bt O1.out.b BX.out)
    clear h3 h4 hsep B2 O1 HX HL2 BX
    go_wp2_with fail
    refine KP.out.mono ?_
    rintro e w4 ⟨rfl, hb4⟩
    have M4 := (hb4.block _ (by rw [size_alloc]; omega)).trans MR.out
    have d0 := cell_of_row w4 _ 0 _ _ _ M4
    have d1 := cell_of_row w4 _ 1 _ _ _ M4
    have d2 := cell_of_row w4 _ 2 _ _ _ M4
    simp only [List.getElem?_toArray, List.getElem?_cons_succ, List.getElem?_cons_zero] at d0 d1 d2
    have B4 := hide (bt Bw.out hb4)
    clear hb4 MR Bw KP M4
    generalize w3.heap.size = gr at *
    go_wp2
    go_ret
    exact ⟨rfl, B4.out⟩
end Go.Proofs.Ythfcgfdboienkaa
