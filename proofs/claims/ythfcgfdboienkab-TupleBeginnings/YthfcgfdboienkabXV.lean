import Derived.Test.YthfcgfdboienkabXU
import Derived.Test.YthfcgfdboienkabVO
namespace Go.Proofs.Ythfcgfdboienkab
open Go.RowKit

theorem encR_zero {L : List VV} (h : (encR L).2 = 0) : L.all VV.valid = true ∧ (encR L).1 = enc L := by
  unfold encR at h ⊢
  split at h
  · rename_i hv
    rw [if_pos hv]
    split at h
    · rename_i hl
      rw [if_pos hl]
      exact ⟨hv, rfl⟩
    · cases h
  · cases h
theorem encR_ord (L K : List VV) (hL : ∀ v ∈ L, v.ok) (hK : ∀ v ∈ K, v.ok) : (encR L).2 = 0 → (encR K).2 = 0 → cmpB (encR L).1 (encR K).1 = cmpL L K := fun h1 h2 => by
  obtain ⟨v1, e1⟩ := encR_zero h1
  obtain ⟨v2, e2⟩ := encR_zero h2
  rw [e1, e2, cmp_enc L K hL hK v1 v2]
/-- both lists' encodings lie there -/
structure OO (w W : World) (a a2 a3 a5 : Option Addr) (c3 c5 : Nat) (L K : List VV) (l k : List Nat) : Prop where
  a : Rs W a L
  b : Rs W a2 K
  x : Bs W a3 l
  y : Bs W a5 k
  u : Below w.heap.size w W
theorem OO.keep {w W W' : World} {a a2 a3 a5 : Option Addr} {c3 c5 : Nat} {L K : List VV} {l k : List Nat} (h : OO w W a a2 a3 a5 c3 c5 L K l k) (hb : Below W.heap.size W W') : OO w W' a a2 a3 a5 c3 c5 L K l k :=
  ⟨h.a.keep hb, h.b.keep hb, h.x.keep hb, h.y.keep hb, bt h.u hb⟩

set_option maxHeartbeats 1600000 in
theorem tupleOrders_any (w : World) (a a2 : Option Addr) (n m cap cap2 : Nat) (L K : List VV) (hL : Rs w a L) (hK : Rs w a2 K) (hn : n = L.length) (hm : m = K.length) :
    Calls Try.prog 4 #[.slice a n cap, .slice a2 m cap2] w fun e w' => e = .returned (.bool true) ∧ Below w.heap.size w w' := by
  subst hn hm
  have HL := hide hL
  have HK := hide hK
  have WK := hide works_any
  have HLT := hide (encR_lt L hL.1)
  have HKT := hide (encR_lt K hK.1)
  have HLE := hide (encR_err L)
  have HKE := hide (encR_err K)
  have HOR := hide (encR_ord L K hL.1 hK.1)
  have EN := hide (fun W g (h : Ls W g L) => tEncode_any W (some ⟨g, 0, none⟩) L.length (L.length + 2) L (h.ps hL.1 hL.2.1) rfl)
  have EK := hide (fun W g (h : Ls W g K) => tEncode_any W (some ⟨g, 0, none⟩) K.length (K.length + 2) K (h.ps hK.1 hK.2.1) rfl)
  clear hL hK
  generalize (encR L).1 = l at *
  generalize (encR L).2 = c at *
  generalize (encR K).1 = k at *
  generalize (encR K).2 = d at *
  go_enter Try.func4, Try.ntmps4
  go_wp2_with fail
  refine (WK.out _).mono ?_
  rintro e w1 ⟨rfl, hb1⟩
  have L1 := hide (list_any w1 a L.length cap L (HL.out.keep hb1) rfl)
  have B1 := hide hb1
  clear hb1 WK
  go_wp2_with fail
  refine L1.out.mono ?_
  rintro e w2 ⟨rfl, hl2, hb2⟩
  have E2 := hide (EN.out w2 w1.heap.size hl2)
  have B2 := hide (bt B1.out hb2)
  clear hl2 hb2 EN L1 B1
  generalize w1.heap.size = gx at *
  go_wp2_with fail
  refine E2.out.mono ?_
  rintro e w3 ⟨a3, c3, rfl, h3⟩
  have B3 := hide (bt B2.out h3.b)
  have H3 := hide h3
  have L2 := hide (list_any w3 a2 K.length cap2 K (HK.out.keep B3.out) rfl)
  clear h3 E2 B2
  go_wp2_with fail
  refine L2.out.mono ?_
  rintro e w4 ⟨rfl, hl4, hb4⟩
  have E4 := hide (EK.out w4 w3.heap.size hl4)
  have B4 := hide (bt B3.out hb4)
  have H4 := hide (H3.out.keep hb4)
  clear hl4 hb4 EK L2 B3 H3
  generalize w3.heap.size = gy at *
  go_wp2_with fail
  refine E4.out.mono ?_
  rintro e w5 ⟨a5, c5, rfl, h5⟩
  have Z5 : Hid (OO w w5 a a2 a3 a5 c3 c5 L K l k) := ⟨HL.out.keep (bt B4.out h5.b), HK.out.keep (bt B4.out h5.b), (H4.out.keep h5.b).r.bs HLT.out.1 (by have := HLT.out.2; omega), h5.r.bs HKT.out.1 (by have := HKT.out.2; omega), bt B4.out h5.b⟩
  clear h5 H4 E4 B4 HL HK HLT HKT
  by_cases hc : c = 0
  · subst hc
    by_cases hd : d = 0
    · subst hd
      have e := HOR.out rfl rfl
      have CM := Compare_any w5 a3 a5 l.length k.length c3 c5 l k Z5.out.x Z5.out.y rfl rfl
      rw [e] at CM
      have CM := hide CM
      clear HLE HKE HOR e
      have hcc : (cmpL L K == cmpL L K) = true := by simp
      go_wp2_with fail
      refine CM.out.mono ?_
      rintro e w6 ⟨rfl, hb6⟩
      have Z6 := hide (Z5.out.keep hb6)
      have L6 := hide (list_any w6 a L.length cap L Z6.out.a rfl)
      clear hb6 Z5 CM
      go_wp2_with fail
      refine L6.out.mono ?_
      rintro e w7 ⟨rfl, hl7, hb7⟩
      have Z7 := hide (Z6.out.keep hb7)
      have X7 := hide hl7
      have L7 := hide (list_any w7 a2 K.length cap2 K Z7.out.b rfl)
      clear hl7 hb7 Z6 L6
      generalize w6.heap.size = gx6 at *
      go_wp2_with fail
      refine L7.out.mono ?_
      rintro e w8 ⟨rfl, hl8, hb8⟩
      have Z8 := hide (Z7.out.keep hb8)
      have C8 := hide (tCompare_any w8 (some ⟨gx6, 0, none⟩) (some ⟨w7.heap.size, 0, none⟩) L.length K.length (L.length + 2) (K.length + 2) L K ((X7.out.keep hb8).ps Z8.out.a.1 Z8.out.a.2.1) (hl8.ps Z8.out.b.1 Z8.out.b.2.1) rfl rfl)
      clear hl8 hb8 Z7 X7 L7
      generalize w7.heap.size = gy7 at *
      go_wp2_with fail
      refine C8.out.mono ?_
      rintro e w9 ⟨rfl, hb9⟩
      have Z9 := hide (Z8.out.keep hb9)
      clear hb9 Z8 C8
      go_wp2
      go_ret
      exact ⟨rfl, Z9.out.u⟩
    · have hd1 : (d != 0) = true := bne_iff_ne.2 hd
      obtain rfl : k = [] := by rcases HKE.out with h | ⟨_, h⟩; exact absurd h hd; exact h
      clear HLE HKE HOR hd
      by_cases hl : l.length = 0
      · go_wp2
        go_ret
        exact ⟨rfl, Z5.out.u⟩
      · have hl1 : ((l.length : Int) == 0) = false := eqf (by omega)
        go_wp2
        go_ret
        exact ⟨rfl, Z5.out.u⟩
  · have hc1 : (c != 0) = true := bne_iff_ne.2 hc
    obtain rfl : l = [] := by rcases HLE.out with h | ⟨_, h⟩; exact absurd h hc; exact h
    clear HLE HKE HOR hc
    go_wp2
    go_ret
    exact ⟨rfl, Z5.out.u⟩
end Go.Proofs.Ythfcgfdboienkab
