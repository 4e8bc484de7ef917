import Derived.Test.YthfcgfdboienkabYG
namespace Go.Proofs.Ythfcgfdboienkab
open Go.RowKit

theorem apart_six (w : World) (g : Nat) (T : List Br) (hT : T.length = 6) (hm : w.heap[g]? = some (.cells #[.slice (T.getD 0 ⟨none, 0, []⟩).a (T.getD 0 ⟨none, 0, []⟩).l.length (T.getD 0 ⟨none, 0, []⟩).c, .slice (T.getD 1 ⟨none, 0, []⟩).a (T.getD 1 ⟨none, 0, []⟩).l.length (T.getD 1 ⟨none, 0, []⟩).c, .slice (T.getD 2 ⟨none, 0, []⟩).a (T.getD 2 ⟨none, 0, []⟩).l.length (T.getD 2 ⟨none, 0, []⟩).c, .slice (T.getD 3 ⟨none, 0, []⟩).a (T.getD 3 ⟨none, 0, []⟩).l.length (T.getD 3 ⟨none, 0, []⟩).c, .slice (T.getD 4 ⟨none, 0, []⟩).a (T.getD 4 ⟨none, 0, []⟩).l.length (T.getD 4 ⟨none, 0, []⟩).c, .slice (T.getD 5 ⟨none, 0, []⟩).a (T.getD 5 ⟨none, 0, []⟩).l.length (T.getD 5 ⟨none, 0, []⟩).c] 22 (0, 0)))
    (hrows : ∀ t ∈ T, Rw w t.a t.c t.l) (hdist : T.Pairwise brApart) (hlen : ∀ t ∈ T, t.l.length ≤ 4097) :
    Calls Try.prog 21 #[.slice (some ⟨g, 0, none⟩) 6 6] w fun e w' => e = .returned (.bool true) ∧ But (fun k => ∃ t ∈ T, ∃ x, t.a = some x ∧ x.block = k) w w' := by
  have hmem : ∀ i, i < 6 → T.getD i ⟨none, 0, []⟩ ∈ T := fun i hi => by
    rw [List.getD_eq_getElem?_getD, List.getElem?_eq_getElem (by omega)]
    exact List.getElem_mem _
  have hat : ∀ i (hi : i < T.length), T.getD i ⟨none, 0, []⟩ = T[i] := fun i hi => by simp [hi]
  refine (Apart_some w (some ⟨g, 0, none⟩) 6 6 (fun i => (T.getD i ⟨none, 0, []⟩).a) (fun i => (T.getD i ⟨none, 0, []⟩).c) (fun i => (T.getD i ⟨none, 0, []⟩).l) ?_ ?_ ?_ (by decide) ?_).mono ?_
  · exact Ar.mk hm (by simp) (by decide) rfl rfl
  · exact fun i hi => hrows _ (hmem i hi)
  · intro i j hi hj hne x y hx hy
    have hp := List.pairwise_iff_getElem.1 hdist
    have hx : (T.getD i ⟨none, 0, []⟩).a = some x := hx
    have hy : (T.getD j ⟨none, 0, []⟩).a = some y := hy
    rw [hat i (by omega)] at hx
    rw [hat j (by omega)] at hy
    rcases Nat.lt_or_gt_of_ne hne with h | h
    · exact hp i j (by omega) (by omega) h x y hx hy
    · exact (hp j i (by omega) (by omega) h y x hy hx).symm
  · intro i hi
    have := hlen _ (hmem i hi)
    omega
  · rintro e w' ⟨rfl, hb⟩
    refine ⟨rfl, hb.mono fun k _ ⟨i, hi, x, hx, e⟩ => ⟨_, hmem i hi, x, hx, e⟩⟩
set_option maxRecDepth 8000 in
set_option maxHeartbeats 1600000 in
theorem tupleFresh_any (w : World) (a am : Option Addr) (n m cap capm : Nat) (L M : List VV) (hL : Rs w a L) (hM : Rs w am M) (hT : ∀ v ∈ L, v.text.size ≤ 1048576) (hTM : ∀ v ∈ M, v.text.size ≤ 1048576) (hn : n = L.length) (hm : m = M.length) :
    Calls Try.prog 6 #[.slice a n cap, .slice am m capm] w fun e w' => e = .returned (.bool true) ∧ Below w.heap.size w w' := by
  subst hn hm
  have HL := hide hL
  have HM := hide hM
  have hlen := hL.2.1
  have hlenM := hM.2.1
  have WK := hide works_any
  have ELT := hide (encR_lt L hL.1)
  have FLT := hide (encR_lt M hM.1)
  have NLT := hide (encR_lt (mixed L M) (mixed_all hL.1 hM.1))
  have HNL := hide (mixed_length L M)
  have LX := hide (list_any w a L.length cap L hL rfl)
  have LM := hide (fun W (h : Below w.heap.size w W) => list_any W am M.length capm M (hM.keep h) rfl)
  have EX := hide (fun W g (h : Ls W g L) => tEncode_any W (some ⟨g, 0, none⟩) L.length (L.length + 2) L (h.ps hL.1 hL.2.1) rfl)
  have EM := hide (fun W g (h : Ls W g M) => tEncode_any W (some ⟨g, 0, none⟩) M.length (M.length + 2) M (h.ps hM.1 hM.2.1) rfl)
  have BG := hide (fun W g (h : Ls W g L) => tBegin_any W (some ⟨g, 0, none⟩) L.length (L.length + 2) L (h.ps hL.1 hL.2.1) rfl)
  have DL := hide (fun W (h : Below w.heap.size w W) => dEncode_any W a L.length cap L (hL.keep h) hT rfl)
  have EN := hide (fun W g (h : Ps W (some ⟨g, 0, none⟩) (mixed L M)) => tEncode_any W (some ⟨g, 0, none⟩) L.length (L.length + 2) (mixed L M) h (mixed_length L M).symm)
  have DN := hide (fun W g (h : Rs W (some ⟨g, 0, none⟩) (mixed L M)) => dEncode_any W (some ⟨g, 0, none⟩) L.length L.length (mixed L M) h (mixed_all hT hTM) (mixed_length L M).symm)
  have KP := hide (fun W g (h : Ls W g L) (hb : Below w.heap.size w W) => kept_any W g a L.length L.length (L.length + 2) cap L h (hL.keep hb) rfl rfl rfl)
  clear hL hM hT hTM
  generalize (encR L).1 = E at *
  generalize (encR L).2 = f at *
  generalize (encR M).1 = F at *
  generalize (encR M).2 = fm at *
  generalize (encR (mixed L M)).1 = E2 at *
  generalize (encR (mixed L M)).2 = f2 at *
  go_enter Try.func6, Try.ntmps6
  go_wp2_with fail
  refine LX.out.mono ?_
  rintro e w1 ⟨rfl, hl1, hb1⟩
  have HGW : Hid (w.heap.size ≤ w.heap.size) := Nat.le_refl _
  have X1 := hide hl1
  have HG1 : Hid (w.heap.size < w1.heap.size) := there_lt hl1.1 (by omega)
  have Z1 := hide (Fr.nil (w := w) (W := w1) w.heap.size hb1)
  have E1 := hide (EX.out w1 w.heap.size hl1)
  clear hl1 hb1 LX
  generalize hgx : w.heap.size = gx at HGW X1 HG1 Z1 E1
  have HGX := hide hgx
  first | rw [hgx] | skip
  clear hgx
  go_wp2_with fail
  refine E1.out.mono ?_
  rintro e w2 ⟨a1, c1, rfl, h1⟩
  have X2 := hide (X1.out.keep h1.b)
  have HG2 : Hid (gx < w2.heap.size) := Nat.lt_of_lt_of_le HG1.out h1.b.size
  have Z2 := hide (Z1.out.add h1 HG1.out)
  have B2 := hide (BG.out w2 gx X2.out)
  clear h1 E1 X1 HG1 Z1 BG
  go_wp2_with fail
  refine B2.out.mono ?_
  rintro e w3 ⟨a2, c2, a3, c3, Hi, rfl, h2, h3, hHi, hne⟩
  have HHI : Hid (Hi.length ≤ 4097) := by
    have := ELT.out.2
    show _ ≤ _
    rw [hHi]
    split
    · simp; omega
    · simp
  have X3 := hide ((X2.out.keep h2.b).keep (al w3 (.cells #[.slice a2 E.length c2, .slice a3 Hi.length c3, .bool false] 39)))
  have HG3 : Hid (gx < w3.heap.size) := Nat.lt_of_lt_of_le HG2.out h2.b.size
  have Z3 := hide ((Z2.out.add2 h2 h3 hne HG2.out).keep (al w3 (.cells #[.slice a2 E.length c2, .slice a3 Hi.length c3, .bool false] 39)))
  have MR := hide (heap_alloc_new w3 (.cells #[.slice a2 E.length c2, .slice a3 Hi.length c3, .bool false] 39))
  have L3 := hide (LM.out _ Z3.out.b)
  clear h2 h3 hHi hne B2 X2 HG2 Z2 LM
  go_wp2_with fail
  refine L3.out.mono ?_
  rintro e w4 ⟨rfl, hl4, hb4⟩
  have X4 := hide (X3.out.keep hb4)
  have Z4 := hide (Z3.out.keep hb4)
  have M4 := hide ((hb4.block w3.heap.size (by rw [size_alloc]; omega)).trans MR.out)
  have HG4 : Hid (gx < w4.heap.size) := Nat.lt_of_lt_of_le HG3.out (Nat.le_trans (by rw [size_alloc]; omega) hb4.size)
  have E4 := hide (EM.out w4 _ hl4)
  clear hl4 hb4 L3 X3 Z3 MR EM
  rw [size_alloc] at E4 ⊢
  generalize w3.heap.size = gr at *
  go_wp2_with fail
  refine E4.out.mono ?_
  rintro e w5 ⟨a4, c4, rfl, h4⟩
  have X5 := hide (X4.out.keep h4.b)
  have Z5 := hide (Z4.out.add h4 HG4.out)
  have M5 := hide ((h4.b.block gr (Array.getElem?_eq_some_iff.1 M4.out).1).trans M4.out)
  have HG5 : Hid (gx < w5.heap.size) := Nat.lt_of_lt_of_le HG4.out h4.b.size
  have E5 := hide (EX.out w5 gx X5.out)
  clear h4 E4 X4 Z4 M4 HG4 EX
  go_wp2_with fail
  refine E5.out.mono ?_
  rintro e w6 ⟨a5, c5, rfl, h5⟩
  have X6 := hide (X5.out.keep h5.b)
  have Z6 := hide (Z5.out.add h5 HG5.out)
  have M6 := hide ((h5.b.block gr (Array.getElem?_eq_some_iff.1 M5.out).1).trans M5.out)
  have D6 := hide (DL.out w6 Z6.out.b)
  clear h5 E5 X5 Z5 M5 HG5 DL
  go_wp2_with fail
  refine D6.out.mono ?_
  rintro e w7 ⟨a6, c6, rfl, h6⟩
  have X7 := hide (X6.out.keep h6.b)
  have Z7 := hide (Z6.out.keep h6.b)
  have M7 := hide ((h6.b.block gr (Array.getElem?_eq_some_iff.1 M6.out).1).trans M6.out)
  have R7 := hide h6.r
  have Q7 := hide (EqBytes_same w7 a1 a6 E.length E.length c1 c6 E ((Z7.out.rows ⟨a1, c1, E⟩ (by simp)).bs ELT.out.1 (by have := ELT.out.2; show E.length ≤ _; omega)) (h6.r.bs ELT.out.1 (by have := ELT.out.2; omega)) rfl rfl)
  clear h6 D6 X6 Z6 M6
  go_wp2_with fail
  refine Q7.out.mono ?_
  rintro e w8 ⟨rfl, hb8⟩
  have X8 := hide (X7.out.keep hb8)
  have Z8 := hide (Z7.out.keep hb8)
  have M8 := hide ((hb8.block gr (Array.getElem?_eq_some_iff.1 M7.out).1).trans M7.out)
  have Q8 := hide (EqBytes_same w8 a5 a6 E.length E.length c5 c6 E ((Z8.out.rows ⟨a5, c5, E⟩ (by simp)).bs ELT.out.1 (by have := ELT.out.2; show E.length ≤ _; omega)) ((R7.out.keep hb8).bs ELT.out.1 (by have := ELT.out.2; omega)) rfl rfl)
  clear hb8 Q7 X7 Z7 M7 R7
  go_wp2_with fail
  refine Q8.out.mono ?_
  rintro e w9 ⟨rfl, hb9⟩
  have X9 := hide (X8.out.keep hb9)
  have Z9 := hide (Z8.out.keep hb9)
  have M9 := hide ((hb9.block gr (Array.getElem?_eq_some_iff.1 M8.out).1).trans M8.out)
  have K9 := hide (KP.out w9 gx X9.out Z9.out.b)
  clear hb9 Q8 X8 Z8 M8 KP
  go_wp2_with fail
  refine K9.out.mono ?_
  rintro e w10 ⟨rfl, hb10⟩
  have X10 := hide (X9.out.keep hb10)
  have Z10 := hide (Z9.out.keep hb10)
  have M10 := hide ((hb10.block gr (Array.getElem?_eq_some_iff.1 M9.out).1).trans M9.out)
  clear hb10 K9 X9 Z9 M9
  have HGR : Hid (¬ gr = gx) := by have := HG3.out; show ¬ _; omega
  go_wp2
  go_loopw [16] (fun i wx => ∃ j : Nat, j ≤ min L.length M.length ∧ i = .int .i64 (j : Int) ∧ (Xs w10 wx gx j L M)) (fun i _ => L.length - (intOf i).toNat)
  case atStart => exact ⟨0, Nat.zero_le _, rfl, Xs.start X10.out⟩
  case round =>
    obtain ⟨j, hj, rfl, hG⟩ := hrel
    have HG := hide hG
    have BW := hide (Z10.out.but hG.b (Nat.le_of_eq HGX.out)).b
    clear hG
    by_cases hlt : j < L.length
    · have hi : (j : Int) < (L.length : Int) := by omega
      by_cases hltm : j < M.length
      · have him : (j : Int) < (M.length : Int) := by omega
        obtain ⟨b, off, rfl, hc⟩ := (HM.out.keep BW.out).at hltm
        have HS := hide (fun w1 (hb : Below wr.heap.size wr w1) => HG.out.step hb hlt)
        have HC := hide hc
        clear hc
        have VX := hide (fun W => value_any W (M.getD j VV.zero))
        generalize M.getD j VV.zero = v at *
        go_wp2_with (refine wpList_load_mid rfl 52 _ rfl b _ rfl v.rc.toList _ HC.out Try.underlying52 rfl sizeV ?_)
        refine (VX.out _).mono ?_
        rintro e w11 ⟨rfl, hb11⟩
        have hst := cells_val v (there_at (k := j * 6) (m := 6) (there_below HG.out.t hb11) (by omega))
        have HSX := hide (HS.out w11 hb11)
        clear hb11
        go_wp2
        go_roundw
        case rel => exact ⟨j + 1, by omega, by go_num, HSX.out⟩
        case measure => simp [intOf]; omega
      · have him : ¬ (j : Int) < (M.length : Int) := by omega
        have hjm : j = min L.length M.length := by omega
        have XE : Hid (Xs w10 wr gx (min L.length M.length) L M) := by show Xs _ _ _ _ _ _; rw [← hjm]; exact HG.out
        have hmk := make_v L.length (by omega)
        have Z12 := hide (Z10.out.but XE.out.b (Nat.le_of_eq HGX.out))
        have M12 := hide ((XE.out.b.block gr (Array.getElem?_eq_some_iff.1 M10.out).1 HGR.out).trans M10.out)
        have P12 := hide (XE.out.ps HL.out.1 HM.out.1 hlen)
        have HG12 : Hid (gx < wr.heap.size) := there_lt XE.out.t (by omega)
        clear HG BW hjm
        go_wp2
        generalize hW : wr = W at *
        clear hW
        have N12 : Hid (Ns W (W.alloc (.cells (madeCells VV.zero.rc (L.length * 7)) 52)) 0 (mixed L M)) := ⟨by rw [HNL.out]; exact there_made_r W (L.length * 7), fun r hr => by omega, al _ _⟩
        go_loopw [18] (fun i wx => ∃ j : Nat, j ≤ L.length ∧ i = .int .i64 (j : Int) ∧ Ns W wx j (mixed L M)) (fun i _ => L.length - (intOf i).toNat)
        case atStart => exact ⟨0, Nat.zero_le _, rfl, N12.out⟩
        case round =>
          clear N12
          obtain ⟨j, hj, rfl, hG⟩ := hrel
          have HG := hide hG
          clear hG
          by_cases hlt : j < L.length
          · have hi : (j : Int) < (L.length : Int) := by omega
            have HC := hide (range_below (XE.out.r j hlt) HG.out.b)
            have HS := hide (fun w1 (hb : Below wr.heap.size wr w1) => HG.out.step hb (by rw [HNL.out]; exact hlt))
            rw [mixed_get L M hlt] at HS
            have HTH := HG.out.t
            rw [HNL.out] at HTH
            have HT2 := hide HTH
            clear HTH
            have BX := hide (fun W => bits_any W (mixL L M (min L.length M.length) j))
            generalize mixL L M (min L.length M.length) j = v at *
            generalize W.heap.size = gn at *
            go_wp2_with (refine wpList_load_mid rfl 48 _ rfl gx _ rfl v.pc.toList _ HC.out Try.underlying48 rfl sizeVal ?_)
            refine (BX.out _).mono ?_
            rintro e w13 ⟨rfl, hb13⟩
            have hst := cells_rv v (there_at (k := j * 7) (m := 7) (there_below HT2.out hb13) (by omega))
            have HSX := hide (HS.out w13 hb13)
            clear hb13
            go_wp2
            go_roundw
            case rel => exact ⟨j + 1, by omega, by go_num, HSX.out⟩
            case measure => simp [intOf]; omega
          · obtain rfl : j = L.length := by omega
            have NE := HG.out
            rw [← HNL.out] at NE
            have RN := NE.rs (mixed_all HL.out.1 HM.out.1) (by rw [HNL.out]; exact hlen)
            have EX := hide (EN.out wr gx (P12.out.keep HG.out.b))
            have RN2 := hide RN
            have Z13 := hide (Z12.out.keep HG.out.b)
            have M13 := hide ((HG.out.b.block gr (Array.getElem?_eq_some_iff.1 M12.out).1).trans M12.out)
            have HG13 : Hid (gx < wr.heap.size) := Nat.lt_of_lt_of_le HG12.out HG.out.b.size
            clear NE RN HG P12 Z12 M12 HG12 EN
            generalize W.heap.size = gn at *
            go_wp2_with fail
            refine EX.out.mono ?_
            rintro e w13 ⟨a7, c7, rfl, h7⟩
            have Z14 := hide (Z13.out.add h7 HG13.out)
            have M14 := hide ((h7.b.block gr (Array.getElem?_eq_some_iff.1 M13.out).1).trans M13.out)
            have DX := hide (DN.out w13 gn (RN2.out.keep h7.b))
            clear h7 EX Z13 M13 HG13 RN2 DN
            go_wp2_with fail
            refine DX.out.mono ?_
            rintro e w14 ⟨a8, c8, rfl, h8⟩
            have Z15 := hide (Z14.out.keep h8.b)
            have M15 := hide ((h8.b.block gr (Array.getElem?_eq_some_iff.1 M14.out).1).trans M14.out)
            have Q15 := hide (EqBytes_same w14 a7 a8 E2.length E2.length c7 c8 E2 ((Z15.out.rows ⟨a7, c7, E2⟩ (by simp)).bs NLT.out.1 (by have := NLT.out.2; show E2.length ≤ _; omega)) (h8.r.bs NLT.out.1 (by have := NLT.out.2; omega)) rfl rfl)
            clear h8 DX Z14 M14
            go_wp2_with fail
            refine Q15.out.mono ?_
            rintro e w15 ⟨rfl, hb15⟩
            have Z16 := hide (Z15.out.keep hb15)
            have M16 := (hb15.block gr (Array.getElem?_eq_some_iff.1 M15.out).1).trans M15.out
            have s0 : w15.cell? ⟨gr, 0, none⟩ = some (.slice a2 E.length c2) := by rw [cell_of_row _ _ _ _ _ _ M16]; rfl
            have s1 : w15.cell? ⟨gr, 1, none⟩ = some (.slice a3 Hi.length c3) := by rw [cell_of_row _ _ _ _ _ _ M16]; rfl
            have AP := hide (apart_six (w15.alloc (.cells #[.slice a1 E.length c1, .slice a2 E.length c2, .slice a3 Hi.length c3, .slice a4 F.length c4, .slice a5 E.length c5, .slice a7 E2.length c7] 22)) w15.heap.size [⟨a1, c1, E⟩, ⟨a2, c2, E⟩, ⟨a3, c3, Hi⟩, ⟨a4, c4, F⟩, ⟨a5, c5, E⟩, ⟨a7, c7, E2⟩] rfl (heap_alloc_new _ _) (fun t ht => ((Z16.out.rows t (by simpa using ht)).keep (al _ _))) (by simpa using Z16.out.dist) (by
              have e1 := ELT.out.2
              have e2 := FLT.out.2
              have e3 := NLT.out.2
              have e4 := HHI.out
              intro t ht
              simp only [List.mem_cons, List.not_mem_nil, or_false] at ht
              rcases ht with rfl | rfl | rfl | rfl | rfl | rfl
              · show E.length ≤ _; omega
              · show E.length ≤ _; omega
              · show Hi.length ≤ _; omega
              · show F.length ≤ _; omega
              · show E.length ≤ _; omega
              · show E2.length ≤ _; omega))
            clear hb15 Q15 Z15 M15 M16
            go_wp2_with fail
            refine AP.out.mono ?_
            rintro e w16 ⟨rfl, hb16⟩
            have Z17 := hide ((But.ofBelow (S := fun k => gx < k) (Z16.out.b.alloc Z16.out.b.size _)).trans hb16 (by
              rintro k _ ⟨t, ht, x, hx, rfl⟩
              exact Z16.out.low t (by simpa using ht) x hx))
            clear hb16 AP Z16
            go_wp2_with fail
            refine (WK.out _).mono ?_
            rintro e w17 ⟨rfl, hb17⟩
            have Z18 := hide (bt (Z17.out.below fun k hk h => by have := HGX.out; omega) hb17)
            clear hb17 Z17
            go_wp2
            go_ret
            exact ⟨rfl, Z18.out⟩
    · have hi : ¬ (j : Int) < (L.length : Int) := by omega
      have hjm : j = min L.length M.length := by omega
      have XE : Hid (Xs w10 wr gx (min L.length M.length) L M) := by show Xs _ _ _ _ _ _; rw [← hjm]; exact HG.out
      have hmk := make_v L.length (by omega)
      have Z12 := hide (Z10.out.but XE.out.b (Nat.le_of_eq HGX.out))
      have M12 := hide ((XE.out.b.block gr (Array.getElem?_eq_some_iff.1 M10.out).1 HGR.out).trans M10.out)
      have P12 := hide (XE.out.ps HL.out.1 HM.out.1 hlen)
      have HG12 : Hid (gx < wr.heap.size) := there_lt XE.out.t (by omega)
      clear HG BW hjm
      go_wp2
      generalize hW : wr = W at *
      clear hW
      have N12 : Hid (Ns W (W.alloc (.cells (madeCells VV.zero.rc (L.length * 7)) 52)) 0 (mixed L M)) := ⟨by rw [HNL.out]; exact there_made_r W (L.length * 7), fun r hr => by omega, al _ _⟩
      go_loopw [18] (fun i wx => ∃ j : Nat, j ≤ L.length ∧ i = .int .i64 (j : Int) ∧ Ns W wx j (mixed L M)) (fun i _ => L.length - (intOf i).toNat)
      case atStart => exact ⟨0, Nat.zero_le _, rfl, N12.out⟩
      case round =>
        clear N12
        obtain ⟨j, hj, rfl, hG⟩ := hrel
        have HG := hide hG
        clear hG
        by_cases hlt : j < L.length
        · have hi : (j : Int) < (L.length : Int) := by omega
          have HC := hide (range_below (XE.out.r j hlt) HG.out.b)
          have HS := hide (fun w1 (hb : Below wr.heap.size wr w1) => HG.out.step hb (by rw [HNL.out]; exact hlt))
          rw [mixed_get L M hlt] at HS
          have HTH := HG.out.t
          rw [HNL.out] at HTH
          have HT2 := hide HTH
          clear HTH
          have BX := hide (fun W => bits_any W (mixL L M (min L.length M.length) j))
          generalize mixL L M (min L.length M.length) j = v at *
          generalize W.heap.size = gn at *
          go_wp2_with (refine wpList_load_mid rfl 48 _ rfl gx _ rfl v.pc.toList _ HC.out Try.underlying48 rfl sizeVal ?_)
          refine (BX.out _).mono ?_
          rintro e w13 ⟨rfl, hb13⟩
          have hst := cells_rv v (there_at (k := j * 7) (m := 7) (there_below HT2.out hb13) (by omega))
          have HSX := hide (HS.out w13 hb13)
          clear hb13
          go_wp2
          go_roundw
          case rel => exact ⟨j + 1, by omega, by go_num, HSX.out⟩
          case measure => simp [intOf]; omega
        · obtain rfl : j = L.length := by omega
          have NE := HG.out
          rw [← HNL.out] at NE
          have RN := NE.rs (mixed_all HL.out.1 HM.out.1) (by rw [HNL.out]; exact hlen)
          have EX := hide (EN.out wr gx (P12.out.keep HG.out.b))
          have RN2 := hide RN
          have Z13 := hide (Z12.out.keep HG.out.b)
          have M13 := hide ((HG.out.b.block gr (Array.getElem?_eq_some_iff.1 M12.out).1).trans M12.out)
          have HG13 : Hid (gx < wr.heap.size) := Nat.lt_of_lt_of_le HG12.out HG.out.b.size
          clear NE RN HG P12 Z12 M12 HG12 EN
          generalize W.heap.size = gn at *
          go_wp2_with fail
          refine EX.out.mono ?_
          rintro e w13 ⟨a7, c7, rfl, h7⟩
          have Z14 := hide (Z13.out.add h7 HG13.out)
          have M14 := hide ((h7.b.block gr (Array.getElem?_eq_some_iff.1 M13.out).1).trans M13.out)
          have DX := hide (DN.out w13 gn (RN2.out.keep h7.b))
          clear h7 EX Z13 M13 HG13 RN2 DN
          go_wp2_with fail
          refine DX.out.mono ?_
          rintro e w14 ⟨a8, c8, rfl, h8⟩
          have Z15 := hide (Z14.out.keep h8.b)
          have M15 := hide ((h8.b.block gr (Array.getElem?_eq_some_iff.1 M14.out).1).trans M14.out)
          have Q15 := hide (EqBytes_same w14 a7 a8 E2.length E2.length c7 c8 E2 ((Z15.out.rows ⟨a7, c7, E2⟩ (by simp)).bs NLT.out.1 (by have := NLT.out.2; show E2.length ≤ _; omega)) (h8.r.bs NLT.out.1 (by have := NLT.out.2; omega)) rfl rfl)
          clear h8 DX Z14 M14
          go_wp2_with fail
          refine Q15.out.mono ?_
          rintro e w15 ⟨rfl, hb15⟩
          have Z16 := hide (Z15.out.keep hb15)
          have M16 := (hb15.block gr (Array.getElem?_eq_some_iff.1 M15.out).1).trans M15.out
          have s0 : w15.cell? ⟨gr, 0, none⟩ = some (.slice a2 E.length c2) := by rw [cell_of_row _ _ _ _ _ _ M16]; rfl
          have s1 : w15.cell? ⟨gr, 1, none⟩ = some (.slice a3 Hi.length c3) := by rw [cell_of_row _ _ _ _ _ _ M16]; rfl
          have AP := hide (apart_six (w15.alloc (.cells #[.slice a1 E.length c1, .slice a2 E.length c2, .slice a3 Hi.length c3, .slice a4 F.length c4, .slice a5 E.length c5, .slice a7 E2.length c7] 22)) w15.heap.size [⟨a1, c1, E⟩, ⟨a2, c2, E⟩, ⟨a3, c3, Hi⟩, ⟨a4, c4, F⟩, ⟨a5, c5, E⟩, ⟨a7, c7, E2⟩] rfl (heap_alloc_new _ _) (fun t ht => ((Z16.out.rows t (by simpa using ht)).keep (al _ _))) (by simpa using Z16.out.dist) (by
            have e1 := ELT.out.2
            have e2 := FLT.out.2
            have e3 := NLT.out.2
            have e4 := HHI.out
            intro t ht
            simp only [List.mem_cons, List.not_mem_nil, or_false] at ht
            rcases ht with rfl | rfl | rfl | rfl | rfl | rfl
            · show E.length ≤ _; omega
            · show E.length ≤ _; omega
            · show Hi.length ≤ _; omega
            · show F.length ≤ _; omega
            · show E.length ≤ _; omega
            · show E2.length ≤ _; omega))
          clear hb15 Q15 Z15 M15 M16
          go_wp2_with fail
          refine AP.out.mono ?_
          rintro e w16 ⟨rfl, hb16⟩
          have Z17 := hide ((But.ofBelow (S := fun k => gx < k) (Z16.out.b.alloc Z16.out.b.size _)).trans hb16 (by
            rintro k _ ⟨t, ht, x, hx, rfl⟩
            exact Z16.out.low t (by simpa using ht) x hx))
          clear hb16 AP Z16
          go_wp2_with fail
          refine (WK.out _).mono ?_
          rintro e w17 ⟨rfl, hb17⟩
          have Z18 := hide (bt (Z17.out.below fun k hk h => by have := HGX.out; omega) hb17)
          clear hb17 Z17
          go_wp2
          go_ret
          exact ⟨rfl, Z18.out⟩
end Go.Proofs.Ythfcgfdboienkab
