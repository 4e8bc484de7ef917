import Derived.Test.YthfcgfdboienkabXV
namespace Go.Proofs.Ythfcgfdboienkab
open Go.RowKit

theorem Rs.take {w : World} {a : Option Addr} {L : List VV} (h : Rs w a L) (n : Nat) : Rs w a (L.take n) := by
  refine ⟨fun v hv => h.1 v (List.mem_of_mem_take hv), by rw [List.length_take]; have := h.2.1; omega, ?_⟩
  rcases h.2.2 with rfl | ⟨b, off, e, hc⟩
  · left; simp
  · refine .inr ⟨b, off, e, fun r hr => ?_⟩
    rw [List.length_take] at hr
    have := hc r (by omega)
    rwa [show (L.take n).getD r VV.zero = L.getD r VV.zero by simp [List.getD, show r < n by omega]]
theorem encR_beg (B L : List VV) (hB : ∀ v ∈ B, v.ok) (hL : ∀ v ∈ L, v.ok) : (encR B).2 = 0 → (encR L).2 = 0 → ((cmpB (encR B).1 (encR L).1 ≤ 0 ∧ cmpB (encR L).1 ((encR B).1 ++ [255]) < 0) ↔ (B.length ≤ L.length ∧ cmpL (L.take B.length) B = 0)) := fun h1 h2 => by
  obtain ⟨v1, e1⟩ := encR_zero h1
  obtain ⟨v2, e2⟩ := encR_zero h2
  rw [e1, e2]
  exact beginnings B L hB hL v1 v2
/-- the lists, the range and the bytes lie there -/
structure BB (w W : World) (a a2 a3 a4 a6 : Option Addr) (c3 c4 gr : Nat) (L B : List VV) (p hi bz : List Nat) : Prop where
  a : Rs W a L
  b : Rs W a2 B
  x : Bs W a3 p
  y : Bs W a4 hi
  z : Bs W a6 bz
  m : W.heap[gr]? = some (.cells #[.slice a3 p.length c3, .slice a4 hi.length c4, .bool false] 39 (0, 0))
  u : Below w.heap.size w W
theorem BB.keep {w W W' : World} {a a2 a3 a4 a6 : Option Addr} {c3 c4 gr : Nat} {L B : List VV} {p hi b : List Nat} (h : BB w W a a2 a3 a4 a6 c3 c4 gr L B p hi b) (hb : Below W.heap.size W W') : BB w W' a a2 a3 a4 a6 c3 c4 gr L B p hi b :=
  ⟨h.a.keep hb, h.b.keep hb, h.x.keep hb, h.y.keep hb, h.z.keep hb, (hb.block gr (Array.getElem?_eq_some_iff.1 h.m).1).trans h.m, bt h.u hb⟩
theorem BB.d {w W : World} {a a2 a3 a4 a6 : Option Addr} {c3 c4 gr : Nat} {L B : List VV} {p hi b : List Nat} (h : BB w W a a2 a3 a4 a6 c3 c4 gr L B p hi b) :
    W.cell? ⟨gr, 0, none⟩ = some (.slice a3 p.length c3) ∧ W.cell? ⟨gr, 1, none⟩ = some (.slice a4 hi.length c4) ∧ W.cell? ⟨gr, 2, none⟩ = some (.bool false) :=
  ⟨by rw [cell_of_row W gr 0 _ _ _ h.m]; rfl, by rw [cell_of_row W gr 1 _ _ _ h.m]; rfl, by rw [cell_of_row W gr 2 _ _ _ h.m]; rfl⟩

set_option maxHeartbeats 3200000 in
theorem tupleBeginnings_any (w : World) (a a2 : Option Addr) (n m cap cap2 : Nat) (L B : List VV) (hL : Rs w a L) (hB : Rs w a2 B) (hcap : L.length ≤ cap) (hn : n = L.length) (hm : m = B.length) :
    Calls Try.prog 5 #[.slice a n cap, .slice a2 m cap2] w fun e w' => e = .returned (.bool true) ∧ Below w.heap.size w w' := by
  subst hn hm
  have HL := hide hL
  have HB := hide hB
  have hlen := hL.2.1
  have hlenB := hB.2.1
  have WK := hide works_any
  have HLT := hide (encR_lt L hL.1)
  have HBT := hide (encR_lt B hB.1)
  have HBE := hide (encR_err B)
  have HBG := hide (encR_beg B L hB.1 hL.1)
  have BG := hide (fun W g (h : Ls W g B) => tBegin_any W (some ⟨g, 0, none⟩) B.length (B.length + 2) B (h.ps hB.1 hB.2.1) rfl)
  have EN := hide (fun W g (h : Ls W g L) => tEncode_any W (some ⟨g, 0, none⟩) L.length (L.length + 2) L (h.ps hL.1 hL.2.1) rfl)
  clear hL hB
  generalize (encR L).1 = b at *
  generalize (encR L).2 = d at *
  generalize (encR B).1 = p at *
  generalize (encR B).2 = c at *
  go_enter Try.func5, Try.ntmps5
  go_wp2_with fail
  refine (WK.out _).mono ?_
  rintro e w1 ⟨rfl, hb1⟩
  have L1 := hide (list_any w1 a2 B.length cap2 B (HB.out.keep hb1) rfl)
  have B1 := hide hb1
  clear hb1 WK
  go_wp2_with fail
  refine L1.out.mono ?_
  rintro e w2 ⟨rfl, hl2, hb2⟩
  have G2 := hide (BG.out w2 w1.heap.size hl2)
  have B2 := hide (bt B1.out hb2)
  clear hl2 hb2 BG L1 B1
  generalize w1.heap.size = gx at *
  go_wp2_with fail
  refine G2.out.mono ?_
  rintro e w3 ⟨a3, c3, a4, c4, Hi, rfl, h3, h4, hHi, _⟩
  have HHI := hide hHi
  have B3 := hide (bt (bt B2.out h3.b) (al w3 (.cells #[.slice a3 p.length c3, .slice a4 Hi.length c4, .bool false] 39)))
  have H3 := hide (h3.keep (al w3 (.cells #[.slice a3 p.length c3, .slice a4 Hi.length c4, .bool false] 39)))
  have H4 := hide (h4.keep (al w3 (.cells #[.slice a3 p.length c3, .slice a4 Hi.length c4, .bool false] 39)))
  have MR := hide (heap_alloc_new w3 (.cells #[.slice a3 p.length c3, .slice a4 Hi.length c4, .bool false] 39))
  have L3 := hide (list_any _ a L.length cap L (HL.out.keep B3.out) rfl)
  clear h3 h4 hHi G2 B2
  go_wp2_with fail
  refine L3.out.mono ?_
  rintro e w4 ⟨rfl, hl4, hb4⟩
  have E4 := hide (EN.out w4 _ hl4)
  have B4 := hide (bt B3.out hb4)
  have K3 := hide (H3.out.keep hb4)
  have K4 := hide (H4.out.keep hb4)
  have M4 := hide ((hb4.block _ (by rw [size_alloc]; omega)).trans MR.out)
  clear hl4 hb4 EN L3 B3 H3 H4 MR
  rw [size_alloc] at E4 ⊢
  generalize w3.heap.size = gr at *
  go_wp2_with fail
  refine E4.out.mono ?_
  rintro e w5 ⟨a6, c6, rfl, h6⟩
  by_cases hc : c = 0
  · subst hc
    by_cases hd : d = 0
    · subst hd
      have hi0 := HHI.out
      rw [if_pos rfl] at hi0
      subst hi0
      have HLL : Hid ((p ++ [255]).length = p.length + 1) := by show _ = _; simp
      have Z5 : Hid (BB w w5 a a2 a3 a4 a6 c3 c4 gr L B p (p ++ [255]) b) :=
        ⟨HL.out.keep (bt B4.out h6.b), HB.out.keep (bt B4.out h6.b), (K3.out.keep h6.b).r.bs HBT.out.1 (by have := HBT.out.2; omega), (K4.out.keep h6.b).r.bs (by intro x hx; rcases List.mem_append.1 hx with h | h; exact HBT.out.1 x h; simp at h; omega) (by have := HBT.out.2; simp; omega), h6.r.bs HLT.out.1 (by have := HLT.out.2; omega), (h6.b.block gr (Array.getElem?_eq_some_iff.1 M4.out).1).trans M4.out, bt B4.out h6.b⟩
      have hbg := HBG.out rfl rfl
      obtain ⟨s0, s1, s2⟩ := Z5.out.d
      have CM := hide (Compare_any w5 a3 a6 p.length b.length c3 c6 p b Z5.out.x Z5.out.z rfl rfl)
      have CH := hide (fun W (hW : Below w5.heap.size w5 W) => Compare_any W a6 a4 b.length (p ++ [255]).length c6 c4 b (p ++ [255]) (Z5.out.keep hW).z (Z5.out.keep hW).y rfl rfl)
      rw [HLL.out] at s1 CH ⊢
      clear h6 E4 B4 K3 K4 M4 HHI HBG HLT HBT HBE
      generalize cmpB p b = x at *
      generalize cmpB b (p ++ [255]) = y at *
      by_cases hx : x ≤ 0
      · by_cases hy : y < 0
        · go_wp2_with fail
          refine CM.out.mono ?_
          rintro e w6 ⟨rfl, hb6⟩
          have Z6 := hide (Z5.out.keep hb6)
          have C6 := hide (CH.out w6 hb6)
          obtain ⟨t0, t1, t2⟩ := Z6.out.d
          rw [HLL.out] at t1
          clear hb6 CM CH s0 s1 s2 Z5
          go_wp2_with fail
          refine C6.out.mono ?_
          rintro e w7 ⟨rfl, hb7⟩
          have Z7 := hide (Z6.out.keep hb7)
          obtain ⟨u0, u1, u2⟩ := Z7.out.d
          rw [HLL.out] at u1
          clear hb7 C6 t0 t1 t2 Z6
          by_cases hle : B.length ≤ L.length
          · have hle1 : (B.length : Int) ≤ (L.length : Int) := by omega
            have hle2 : (B.length : Int) ≤ (cap : Int) := by omega
            have LT := hide (list_any w7 a B.length cap (L.take B.length) (Z7.out.a.take _) (by rw [List.length_take]; omega))
            have HTL : Hid ((L.take B.length).length = B.length) := by show _ = _; rw [List.length_take]; omega
            have HZ : Hid (cmpL (L.take B.length) B = 0) := hbg.1 ⟨hx, hy⟩ |>.2
            clear hbg
            have hmin : (min (B.length : Int) (L.length : Int)).toNat = B.length := by omega
            go_wp2_with fail
            refine LT.out.mono ?_
            rintro e w8 ⟨rfl, hl8, hb8⟩
            have Z8 := hide (Z7.out.keep hb8)
            have X8 := hide hl8
            have LB := hide (list_any w8 a2 B.length cap2 B Z8.out.b rfl)
            clear hl8 hb8 LT
            generalize w7.heap.size = g8 at *
            go_wp2_with fail
            refine LB.out.mono ?_
            rintro e w9 ⟨rfl, hl9, hb9⟩
            have Z9 := hide (Z8.out.keep hb9)
            have C9 := hide (tCompare_any w9 (some ⟨g8, 0, none⟩) (some ⟨w8.heap.size, 0, none⟩) B.length B.length (B.length + 2) (B.length + 2) (L.take B.length) B ((X8.out.keep hb9).ps (Z8.out.a.take _).1 (Z8.out.a.take _).2.1) (hl9.ps Z8.out.b.1 Z8.out.b.2.1) HTL.out.symm rfl)
            clear hl9 hb9 X8 LB Z8
            generalize w8.heap.size = g9 at *
            generalize cmpL (L.take B.length) B = z at *
            have hz := HZ.out
            go_wp2_with fail
            refine C9.out.mono ?_
            rintro e w10 ⟨rfl, hb10⟩
            have Z10 := hide (Z9.out.keep hb10)
            clear hb10 C9 Z9
            go_wp2
            go_ret
            exact ⟨by first | rfl | (simp; omega) | (have e1 : decide (y < 0) = false := decide_eq_false (by omega); have e2 : (z == 0) = false := eqf (by omega); simp [e1, e2]), Z10.out.u⟩
          · have hle1 : ¬ (B.length : Int) ≤ (L.length : Int) := by omega
            exact absurd (hbg.1 ⟨hx, hy⟩).1 hle
        · go_wp2_with fail
          refine CM.out.mono ?_
          rintro e w6 ⟨rfl, hb6⟩
          have Z6 := hide (Z5.out.keep hb6)
          have C6 := hide (CH.out w6 hb6)
          obtain ⟨t0, t1, t2⟩ := Z6.out.d
          rw [HLL.out] at t1
          clear hb6 CM CH s0 s1 s2 Z5
          go_wp2_with fail
          refine C6.out.mono ?_
          rintro e w7 ⟨rfl, hb7⟩
          have Z7 := hide (Z6.out.keep hb7)
          obtain ⟨u0, u1, u2⟩ := Z7.out.d
          rw [HLL.out] at u1
          clear hb7 C6 t0 t1 t2 Z6
          by_cases hle : B.length ≤ L.length
          · have hle1 : (B.length : Int) ≤ (L.length : Int) := by omega
            have hle2 : (B.length : Int) ≤ (cap : Int) := by omega
            have LT := hide (list_any w7 a B.length cap (L.take B.length) (Z7.out.a.take _) (by rw [List.length_take]; omega))
            have HTL : Hid ((L.take B.length).length = B.length) := by show _ = _; rw [List.length_take]; omega
            have HZ : Hid (¬ cmpL (L.take B.length) B = 0) := fun h => absurd (hbg.2 ⟨hle, h⟩).2 (by omega)
            clear hbg
            have hmin : (min (B.length : Int) (L.length : Int)).toNat = B.length := by omega
            go_wp2_with fail
            refine LT.out.mono ?_
            rintro e w8 ⟨rfl, hl8, hb8⟩
            have Z8 := hide (Z7.out.keep hb8)
            have X8 := hide hl8
            have LB := hide (list_any w8 a2 B.length cap2 B Z8.out.b rfl)
            clear hl8 hb8 LT
            generalize w7.heap.size = g8 at *
            go_wp2_with fail
            refine LB.out.mono ?_
            rintro e w9 ⟨rfl, hl9, hb9⟩
            have Z9 := hide (Z8.out.keep hb9)
            have C9 := hide (tCompare_any w9 (some ⟨g8, 0, none⟩) (some ⟨w8.heap.size, 0, none⟩) B.length B.length (B.length + 2) (B.length + 2) (L.take B.length) B ((X8.out.keep hb9).ps (Z8.out.a.take _).1 (Z8.out.a.take _).2.1) (hl9.ps Z8.out.b.1 Z8.out.b.2.1) HTL.out.symm rfl)
            clear hl9 hb9 X8 LB Z8
            generalize w8.heap.size = g9 at *
            generalize cmpL (L.take B.length) B = z at *
            have hz := HZ.out
            go_wp2_with fail
            refine C9.out.mono ?_
            rintro e w10 ⟨rfl, hb10⟩
            have Z10 := hide (Z9.out.keep hb10)
            clear hb10 C9 Z9
            go_wp2
            go_ret
            exact ⟨by first | rfl | (simp; omega) | (have e1 : decide (y < 0) = false := decide_eq_false (by omega); have e2 : (z == 0) = false := eqf (by omega); simp [e1, e2]), Z10.out.u⟩
          · have hle1 : ¬ (B.length : Int) ≤ (L.length : Int) := by omega
            go_wp2
            go_ret
            exact ⟨by first | rfl | (simp; omega), Z7.out.u⟩
      · go_wp2_with fail
        refine CM.out.mono ?_
        rintro e w6 ⟨rfl, hb6⟩
        have Z6 := hide (Z5.out.keep hb6)
        have C6 := hide (CH.out w6 hb6)
        obtain ⟨t0, t1, t2⟩ := Z6.out.d
        rw [HLL.out] at t1
        clear hb6 CM CH s0 s1 s2 Z5
        by_cases hle : B.length ≤ L.length
        · have hle1 : (B.length : Int) ≤ (L.length : Int) := by omega
          have hle2 : (B.length : Int) ≤ (cap : Int) := by omega
          have LT := hide (list_any w6 a B.length cap (L.take B.length) (Z6.out.a.take _) (by rw [List.length_take]; omega))
          have HTL : Hid ((L.take B.length).length = B.length) := by show _ = _; rw [List.length_take]; omega
          have HZ : Hid (¬ cmpL (L.take B.length) B = 0) := fun h => absurd (hbg.2 ⟨hle, h⟩).1 (by omega)
          clear hbg
          have hmin : (min (B.length : Int) (L.length : Int)).toNat = B.length := by omega
          go_wp2_with fail
          refine LT.out.mono ?_
          rintro e w8 ⟨rfl, hl8, hb8⟩
          have Z8 := hide (Z6.out.keep hb8)
          have X8 := hide hl8
          have LB := hide (list_any w8 a2 B.length cap2 B Z8.out.b rfl)
          clear hl8 hb8 LT
          generalize w6.heap.size = g8 at *
          go_wp2_with fail
          refine LB.out.mono ?_
          rintro e w9 ⟨rfl, hl9, hb9⟩
          have Z9 := hide (Z8.out.keep hb9)
          have C9 := hide (tCompare_any w9 (some ⟨g8, 0, none⟩) (some ⟨w8.heap.size, 0, none⟩) B.length B.length (B.length + 2) (B.length + 2) (L.take B.length) B ((X8.out.keep hb9).ps (Z8.out.a.take _).1 (Z8.out.a.take _).2.1) (hl9.ps Z8.out.b.1 Z8.out.b.2.1) HTL.out.symm rfl)
          clear hl9 hb9 X8 LB Z8
          generalize w8.heap.size = g9 at *
          generalize cmpL (L.take B.length) B = z at *
          have hz := HZ.out
          go_wp2_with fail
          refine C9.out.mono ?_
          rintro e w10 ⟨rfl, hb10⟩
          have Z10 := hide (Z9.out.keep hb10)
          clear hb10 C9 Z9
          go_wp2
          go_ret
          exact ⟨by first | rfl | (simp; omega) | (have e1 : decide (y < 0) = false := decide_eq_false (by omega); have e2 : (z == 0) = false := eqf (by omega); simp [e1, e2]), Z10.out.u⟩
        · have hle1 : ¬ (B.length : Int) ≤ (L.length : Int) := by omega
          go_wp2
          go_ret
          exact ⟨by first | rfl | (simp; omega), Z6.out.u⟩
    · have hd1 : (d != 0) = true := bne_iff_ne.2 hd
      have B6 := hide (bt B4.out h6.b)
      clear h6 E4 B4 K3 K4 M4 HHI HBG HLT HBT HBE hd
      go_wp2
      go_ret
      exact ⟨rfl, B6.out⟩
  · have hc1 : (c != 0) = true := bne_iff_ne.2 hc
    have B6 := hide (bt B4.out h6.b)
    clear h6 E4 B4 K3 K4 M4 HHI HBG HLT HBT HBE hc
    go_wp2
    go_ret
    exact ⟨rfl, B6.out⟩
end Go.Proofs.Ythfcgfdboienkab
