import Derived.Test.YtifhkfghjifecaaJI
import Derived.Test.YtifhkfghjifecaaNOD
import Derived.Test.YtifhkfghjifecaaPSF
namespace Go.Proofs.Ytifhkfghjifecaa
open Go.RowKit

/-! ### the document's bytes -/
theorem shr_nat (x j : Nat) : ((x : Int) / 2 ^ (8 * j)) % 256 = ((x / 256 ^ j % 256 : Nat) : Int) := by
  have e : ((2 : Int) ^ (8 * j)) = ((256 ^ j : Nat) : Int) := by
    rw [Int.pow_mul]
    simp
  rw [e]
  generalize 256 ^ j = n
  rfl
set_option maxHeartbeats 1600000 in
theorem low_any (v w : World) (G : Nat → Prop) (a : Option Addr) (n cap : Nat) (l : List Nat) (x k : Nat) (h : Od v G w w a cap l) (hG : Gl G w) (hn : n = l.length) (hk : k ≤ 8) (hl : l.length ≤ 4096) :
    Calls Try.prog 45 #[.slice a n cap, .int .i64 (x : Int), .int .i64 (k : Int)] w fun e w' => ∃ a' c', e = .returned (.slice a' (l.length + k) c') ∧ Od v G w w' a' c' (l ++ numB x k) := by
  subst hn
  have H := hide h
  have HG := hide hG
  have HLN := hide (numB_length x k)
  clear h hG
  go_enter Try.func45, Try.ntmps45
  go_wp2
  go_loopw [0, 7] (fun o i wx => ∃ (j : Nat) (aj : Option Addr) (cj : Nat), j ≤ k ∧ i = .int .i64 j ∧ o = .slice aj (l.length + j) cj ∧ Od v G w wx aj cj (l ++ (numB x k).take j)) (fun _ i _ => k - (intOf i).toNat)
  case atStart => exact ⟨0, a, cap, Nat.zero_le _, rfl, rfl, by simpa using H.out⟩
  case round =>
    obtain ⟨j, aj, cj, hj, rfl, rfl, hO⟩ := hrel
    have HO := hide hO
    clear hO
    by_cases hlt : j < k
    · have hlti : (j : Int) < (k : Int) := by omega
      have HGT := hide (numB_get x k j hlt)
      have HS : Hid (l ++ (numB x k).take j ++ [(numB x k).getD j 0] = l ++ (numB x k).take (j + 1)) := by show _ = _; rw [List.append_assoc, take_snoc _ (by have := HLN.out; omega)]
      rw [HGT.out] at HS
      have hz : (l ++ (numB x k).take j).length = l.length + j := by have := HLN.out; simp only [List.length_append, List.length_take]; omega
      generalize l ++ (numB x k).take j = L at *
      have hsh := shr_nat x j
      have hzl : x / 256 ^ j % 256 < 256 := Nat.mod_lt _ (by decide)
      generalize x / 256 ^ j % 256 = z at *
      go_wp2_with (at_builtin; refine wpList_ap1 rfl _ _ rfl aj (l.length + j) cj L rfl hz.symm (HO.out.r.keep ((Below.refl _ _).alloc (Nat.le_refl _) _)) ⟨wr.heap.size, 0, none⟩ 1 z rfl ?c1 (by omega) ?_)
      try case c1 => simp
      intro g c2 w2 hR hN hg hlt2
      have H2 := hide ((HO.out.keep (al wr _)).grow HG.out hR hN hg)
      rw [HS.out] at H2
      clear hR hN hg hsh
      go_wp2
      go_roundw
      case rel => exact ⟨j + 1, _, c2, by omega, by go_num, rfl, H2.out⟩
      case measure => simp [intOf]; omega
    · obtain rfl : j = k := by omega
      go_wp2
      go_ret
      exact ⟨aj, cj, rfl, by have := HO.out; rw [List.take_of_length_le (by have := HLN.out; omega)] at this; exact this⟩
theorem four_bytes (w : World) : Od w (fun _ => False) (w.alloc (.cells #[.int .u8 67, .int .u8 79, .int .u8 80, .int .u8 49] 5)) (w.alloc (.cells #[.int .u8 67, .int .u8 79, .int .u8 80, .int .u8 49] 5)) (some ⟨w.heap.size, 0, none⟩) 4 (numB 827346755 4) :=
  Od.first ⟨Rw.mk (heap_alloc_new _ _) (by decide) (by decide) rfl rfl, fun x hx => .inr (by cases hx; exact Nat.le_refl _), al _ _⟩
theorem Od.next {v w w1 w2 : World} {a a' : Option Addr} {cap cap' : Nat} {l l' : List Nat} (h : Od v (fun _ => False) w w1 a cap l) (k : Od v (fun _ => False) w1 w2 a' cap' l') : Od v (fun _ => False) w2 w2 a' cap' l' := (h.trans k).refl'
def layP (s : Su) (j : Nat) : List Nat := hB s.gen.toNat s.bl.toNat s.cl.toNat s.rf.toNat s.nx.toNat s.rs.length ++ rsB (s.rs.take j)
theorem layP_zero (s : Su) : layP s 0 = numB 827346755 4 ++ numB s.gen.toNat 8 ++ numB s.bl.toNat 4 ++ numB s.cl.toNat 1 ++ numB s.rf.toNat 4 ++ numB s.nx.toNat 4 ++ numB s.rs.length 1 := by
  unfold layP hB rsB
  simp only [List.take_zero, List.flatMap_nil, List.append_nil, List.append_assoc]
theorem layP_all (s : Su) : layP s s.rs.length = sB s := by unfold layP sB; rw [List.take_length]
theorem layP_length (s : Su) {j : Nat} (h : j ≤ s.rs.length) : (layP s j).length = 26 + 13 * j := by unfold layP; rw [List.length_append, hB_length, rsB_length, List.length_take]; omega
theorem layP_succ (s : Su) {j : Nat} (h : j < s.rs.length) : layP s (j + 1) = layP s j ++ numB (s.rs.getD j ro0).id.toNat 4 ++ numB (s.rs.getD j ro0).r.toNat 4 ++ numB (s.rs.getD j ro0).h.toNat 1 ++ numB (s.rs.getD j ro0).n.toNat 4 := by
  unfold layP
  rw [List.take_succ_eq_append_getElem h, rsB_append, rsB_one]
  have e : s.rs.getD j ro0 = s.rs[j] := by simp [h]
  rw [e]
  unfold rB
  simp only [List.append_assoc]
set_option maxRecDepth 8000 in
set_option maxHeartbeats 6400000 in
theorem Laid_any (w : World) (s : Su) (a : Option Addr) (c : Nat) (hI : Js w a s.rs) (ok : Ok s) :
    Calls Try.prog 23 #[suv s a c] w fun y w' => ∃ a' c', y = .returned (.slice a' 512 c') ∧ Own w w' a' c' (lay s) := by
  have HI := hide hI
  have OK := hide ok
  have HPA := hide (layP_all s)
  have HPZ := hide (layP_zero s)
  have HPL := hide fun (j : Nat) (h : j ≤ s.rs.length) => layP_length s h
  have HPS := hide fun (j : Nat) (h : j < s.rs.length) => layP_succ s h
  have HLY : Hid (lay s = padded (sB s) ++ numB (M.of (padded (sB s))) 4) := rfl
  have HPD : Hid (padded (sB s) = sB s ++ List.replicate (508 - (sB s).length) 0) := rfl
  have HSL := hide (sB_length s)
  have H8 := hide (padded_b8 (sB_b8 s))
  generalize sB s = SB at *
  generalize hLY : lay s = LY at *
  clear hLY
  generalize hLP : layP s = LP at *
  clear hLP
  obtain ⟨gen, bl, cl, rf, nx, L⟩ := s
  obtain ⟨g, rfl⟩ : ∃ g : Nat, gen = (g : Int) := ⟨gen.toNat, by have := ok.g.1; dsimp only at this; omega⟩
  obtain ⟨b, rfl⟩ : ∃ g : Nat, bl = (g : Int) := ⟨bl.toNat, by have := ok.b.1; dsimp only at this; omega⟩
  obtain ⟨k, rfl⟩ : ∃ g : Nat, cl = (g : Int) := ⟨cl.toNat, by have := ok.c.1; dsimp only at this; omega⟩
  obtain ⟨f, rfl⟩ : ∃ g : Nat, rf = (g : Int) := ⟨rf.toNat, by have := ok.f.1; dsimp only at this; omega⟩
  obtain ⟨x, rfl⟩ : ∃ g : Nat, nx = (g : Int) := ⟨nx.toNat, by have := ok.x.1; dsimp only at this; omega⟩
  have ol := ok.l
  dsimp only at ol HI HPZ HPL HPS HPA HSL
  simp only [Int.toNat_natCast] at HPZ
  have HA := hide (al w (.cells (suC ⟨(g : Int), (b : Int), (k : Int), (f : Int), (x : Int), L⟩ a c) 28))
  have HB := hide (Bx.new w 28 (suC ⟨(g : Int), (b : Int), (k : Int), (f : Int), (x : Int), L⟩ a c))
  have HC := hide fun (w1 : World) (hb : Below (w.alloc (.cells (suC ⟨(g : Int), (b : Int), (k : Int), (f : Int), (x : Int), L⟩ a c) 28)).heap.size (w.alloc (.cells (suC ⟨(g : Int), (b : Int), (k : Int), (f : Int), (x : Int), L⟩ a c) 28)) w1) => su_six (HB.out.keep hb)
  have FB := hide (four_bytes (w.alloc (.cells (suC ⟨(g : Int), (b : Int), (k : Int), (f : Int), (x : Int), L⟩ a c) 28)))
  clear hI ok
  rw [size_alloc] at FB
  unfold suv suC at *
  dsimp only at *
  go_enter Try.func23, Try.ntmps23
  obtain ⟨x0, x1, x2, x3, x4, x5⟩ := HC.out _ FB.out.b
  go_wp2_with fail
  generalize hVV : w.alloc (.cells #[.int .i64 (g : Int), .int .i64 (b : Int), .int .i64 (k : Int), .int .i64 (f : Int), .int .i64 (x : Int), .slice a L.length c] 28) = V at *
  have HVV := hide hVV
  clear hVV x0 x1 x2 x3 x4 x5
  refine (low_any V _ (fun _ => False) _ _ _ _ g 8 FB.out.refl' (fun _ h => h.elim) (numB_length _ _).symm (by decide) (by rw [numB_length]; omega)).mono ?_
  rintro y w0 ⟨a0, c0, rfl, hd⟩
  have O := hide (FB.out.next hd)
  clear hd
  simp only [numB_length, Nat.reduceAdd]
  obtain ⟨x0, x1, x2, x3, x4, x5⟩ := HC.out _ O.out.b
  go_wp2_with fail
  refine (low_any V _ (fun _ => False) _ _ _ _ b 4 O.out.refl' (fun _ h => h.elim) (by simp only [List.length_append, numB_length]) (by decide) (by simp only [List.length_append, numB_length]; omega)).mono ?_
  rintro y w1 ⟨a1, c1, rfl, hd⟩
  have O := hide (O.out.next hd)
  clear hd x0 x1 x2 x3 x4 x5
  simp only [List.length_append, numB_length, Nat.reduceAdd]
  obtain ⟨x0, x1, x2, x3, x4, x5⟩ := HC.out _ O.out.b
  go_wp2_with fail
  refine (low_any V _ (fun _ => False) _ _ _ _ k 1 O.out.refl' (fun _ h => h.elim) (by simp only [List.length_append, numB_length]) (by decide) (by simp only [List.length_append, numB_length]; omega)).mono ?_
  rintro y w2 ⟨a2, c2, rfl, hd⟩
  have O := hide (O.out.next hd)
  clear hd x0 x1 x2 x3 x4 x5
  simp only [List.length_append, numB_length, Nat.reduceAdd]
  obtain ⟨x0, x1, x2, x3, x4, x5⟩ := HC.out _ O.out.b
  go_wp2_with fail
  refine (low_any V _ (fun _ => False) _ _ _ _ f 4 O.out.refl' (fun _ h => h.elim) (by simp only [List.length_append, numB_length]) (by decide) (by simp only [List.length_append, numB_length]; omega)).mono ?_
  rintro y w3 ⟨a3, c3, rfl, hd⟩
  have O := hide (O.out.next hd)
  clear hd x0 x1 x2 x3 x4 x5
  simp only [List.length_append, numB_length, Nat.reduceAdd]
  obtain ⟨x0, x1, x2, x3, x4, x5⟩ := HC.out _ O.out.b
  go_wp2_with fail
  refine (low_any V _ (fun _ => False) _ _ _ _ x 4 O.out.refl' (fun _ h => h.elim) (by simp only [List.length_append, numB_length]) (by decide) (by simp only [List.length_append, numB_length]; omega)).mono ?_
  rintro y w4 ⟨a4, c4, rfl, hd⟩
  have O := hide (O.out.next hd)
  clear hd x0 x1 x2 x3 x4 x5
  simp only [List.length_append, numB_length, Nat.reduceAdd]
  obtain ⟨x0, x1, x2, x3, x4, x5⟩ := HC.out _ O.out.b
  go_wp2_with fail
  refine (low_any V _ (fun _ => False) _ _ _ _ L.length 1 O.out.refl' (fun _ h => h.elim) (by simp only [List.length_append, numB_length]) (by decide) (by simp only [List.length_append, numB_length]; omega)).mono ?_
  rintro y w5 ⟨a5, c5, rfl, hd⟩
  have O := hide (O.out.next hd)
  clear hd x0 x1 x2 x3 x4 x5
  simp only [List.length_append, numB_length, Nat.reduceAdd]
  rw [← HPZ.out] at O
  have HNB : Hid (∀ j, j < L.length → ∃ i1 i2 i3 i4 : Nat, L.getD j ro0 = ⟨(i1 : Int), (i2 : Int), (i3 : Int), (i4 : Int)⟩) := by
    intro j hj
    have := OK.out.r _ (getD_mem hj)
    generalize L.getD j ro0 = t at *
    obtain ⟨t1, t2, t3, t4⟩ := t
    dsimp only at this
    exact ⟨t1.toNat, t2.toNat, t3.toNat, t4.toNat, by rw [Int.toNat_of_nonneg (by omega), Int.toNat_of_nonneg (by omega), Int.toNat_of_nonneg (by omega), Int.toNat_of_nonneg (by omega)]⟩
  have HIV : Hid (∀ w1, Below V.heap.size V w1 → Js w1 a L) := fun w1 hb => HI.out.keep (bt HA.out hb)
  clear HPZ FB
  go_wp2
  go_loopw [3, 4] (fun o q wx => ∃ (j : Nat) (aj : Option Addr) (cj : Nat), j ≤ L.length ∧ q = .int .i64 j ∧ o = .slice aj (26 + 13 * j) cj ∧ Od V (fun _ => False) wx wx aj cj (LP j)) (fun _ q _ => L.length - (intOf q).toNat)
  case atStart => exact ⟨0, a5, c5, Nat.zero_le _, rfl, rfl, O.out⟩
  case round =>
    obtain ⟨j, aj, cj, hj, rfl, rfl, hO⟩ := hrel
    have O := hide hO
    clear hO
    have hlen := HPL.out j hj
    by_cases hlt : j < L.length
    · have hlti : (j : Int) < (L.length : Int) := by omega
      obtain ⟨i1, i2, i3, i4, ht⟩ := HNB.out j hlt
      have SN := hide (HPS.out j hlt)
      rw [ht] at SN
      simp only [Int.toNat_natCast] at SN
      have AT : Hid (∀ w1, Below V.heap.size V w1 → ∃ b1 o1, a = some ⟨b1, o1, none⟩ ∧ (w1.cell? ⟨b1, o1 + j * 4, none⟩ = some (.int .i64 (i1 : Int)) ∧ w1.cell? ⟨b1, o1 + j * 4 + 1, none⟩ = some (.int .i64 (i2 : Int)) ∧ w1.cell? ⟨b1, o1 + j * 4 + 2, none⟩ = some (.int .i64 (i3 : Int)) ∧ w1.cell? ⟨b1, o1 + j * 4 + 3, none⟩ = some (.int .i64 (i4 : Int)))) := by
        intro w1 hb
        obtain ⟨b1, o1, hab, hr⟩ := (HIV.out w1 hb).at hlt
        rw [ht] at hr
        exact ⟨b1, o1, hab, range4 hr⟩
      clear ht
      generalize LP j = l at *
      obtain ⟨b1, o1, rfl, _⟩ := AT.out _ O.out.b
      obtain ⟨x0, x1, x2, x3, x4, x5⟩ := HC.out _ O.out.b
      obtain ⟨bb, oo, hab, q0, q1, q2, q3⟩ := AT.out _ O.out.b
      cases hab
      go_wp2_with fail
      refine (low_any V _ (fun _ => False) _ _ _ _ i1 4 O.out.refl' (fun _ h => h.elim) hlen.symm (by decide) (by omega)).mono ?_
      rintro y z0 ⟨e0, f0, rfl, hd⟩
      have O := hide (O.out.next hd)
      clear hd x0 x1 x2 x3 x4 x5 q0 q1 q2 q3
      simp only [hlen]
      obtain ⟨x0, x1, x2, x3, x4, x5⟩ := HC.out _ O.out.b
      obtain ⟨bb, oo, hab, q0, q1, q2, q3⟩ := AT.out _ O.out.b
      cases hab
      go_wp2_with fail
      refine (low_any V _ (fun _ => False) _ _ _ _ i2 4 O.out.refl' (fun _ h => h.elim) (by simp only [List.length_append, numB_length, hlen]) (by decide) (by simp only [List.length_append, numB_length, hlen]; omega)).mono ?_
      rintro y z1 ⟨e1, f1, rfl, hd⟩
      have O := hide (O.out.next hd)
      clear hd x0 x1 x2 x3 x4 x5 q0 q1 q2 q3
      simp only [List.length_append, numB_length, hlen]
      obtain ⟨x0, x1, x2, x3, x4, x5⟩ := HC.out _ O.out.b
      obtain ⟨bb, oo, hab, q0, q1, q2, q3⟩ := AT.out _ O.out.b
      cases hab
      go_wp2_with fail
      refine (low_any V _ (fun _ => False) _ _ _ _ i3 1 O.out.refl' (fun _ h => h.elim) (by simp only [List.length_append, numB_length, hlen]) (by decide) (by simp only [List.length_append, numB_length, hlen]; omega)).mono ?_
      rintro y z2 ⟨e2, f2, rfl, hd⟩
      have O := hide (O.out.next hd)
      clear hd x0 x1 x2 x3 x4 x5 q0 q1 q2 q3
      simp only [List.length_append, numB_length, hlen]
      obtain ⟨x0, x1, x2, x3, x4, x5⟩ := HC.out _ O.out.b
      obtain ⟨bb, oo, hab, q0, q1, q2, q3⟩ := AT.out _ O.out.b
      cases hab
      go_wp2_with fail
      refine (low_any V _ (fun _ => False) _ _ _ _ i4 4 O.out.refl' (fun _ h => h.elim) (by simp only [List.length_append, numB_length, hlen]) (by decide) (by simp only [List.length_append, numB_length, hlen]; omega)).mono ?_
      rintro y z3 ⟨e3, f3, rfl, hd⟩
      have O := hide (O.out.next hd)
      clear hd x0 x1 x2 x3 x4 x5 q0 q1 q2 q3
      simp only [List.length_append, numB_length, hlen]
      rw [← SN.out] at O
      repeat (first | go_values | go_skip | go_guarded | go_step | go_upon)
      go_roundw
      case rel => exact ⟨j + 1, e3, f3, by omega, by go_num, by first | rfl | (congr 1; done) | (congr 1; omega), O.out⟩
      case measure => simp [intOf]; omega
    · obtain rfl : j = L.length := by omega
      obtain ⟨x0, x1, x2, x3, x4, x5⟩ := HC.out _ O.out.b
      rw [HPA.out] at O
      go_wp2
      clear x0 x1 x2 x3 x4 x5 hlen
      have hsl := HSL.out
      go_loopw [3] (fun o wx => ∃ (m : Nat) (aj : Option Addr) (cj : Nat), SB.length ≤ m ∧ m ≤ 508 ∧ o = .slice aj m cj ∧ Od V (fun _ => False) wx wx aj cj (SB ++ List.replicate (m - SB.length) 0)) (fun o _ => match o with | .slice _ m _ => 508 - m | _ => 0)
      case atStart => exact ⟨26 + 13 * L.length, aj, cj, by omega, by omega, rfl, by rw [hsl, Nat.sub_self]; simpa using O.out⟩
      case round =>
        obtain ⟨m, am, cm, hm1, hm2, rfl, hO⟩ := hrel
        have O := hide hO
        clear hO
        have hz : (SB ++ List.replicate (m - SB.length) 0).length = m := by rw [List.length_append, List.length_replicate]; omega
        by_cases hlt : m < 508
        · have hlti : (m : Int) < 508 := by omega
          have SN : Hid (SB ++ List.replicate (m - SB.length) 0 ++ [0] = SB ++ List.replicate (m + 1 - SB.length) 0) := by
            show _ = _
            rw [show m + 1 - SB.length = (m - SB.length) + 1 by omega, List.replicate_succ', List.append_assoc]
          generalize SB ++ List.replicate (m - SB.length) 0 = l at *
          go_wp2_with (at_builtin; refine wpList_ap1 rfl _ _ rfl am m cm l rfl hz.symm (O.out.r.keep ((Below.refl _ _).alloc (Nat.le_refl _) _)) ⟨wr.heap.size, 0, none⟩ 1 0 rfl ?c1 (by omega) ?_)
          try case c1 => simp
          intro g2 c2 w2 hR hN hg hlt2
          have O2 := hide ((O.out.keep (al wr _)).grow (fun _ h => h.elim) hR hN hg).refl'
          rw [SN.out] at O2
          clear hR hN hg
          repeat (first | go_values | go_skip | go_guarded | go_step | go_upon)
          go_roundw
          case rel => exact ⟨m + 1, _, c2, by omega, by omega, rfl, O2.out⟩
          case measure => simp; omega
        · obtain rfl : m = 508 := by omega
          have hpd : SB ++ List.replicate (508 - SB.length) 0 = padded SB := HPD.out.symm
          rw [hpd] at O hz
          have OF := hide (rOf_any am 508 cm (padded SB) wr (O.out.r.bs H8.out (by omega)) hz.symm)
          have hof := M.of_lt H8.out
          clear hpd
          generalize padded SB = PD at *
          generalize M.of PD = sm at *
          go_wp2_with fail
          refine OF.out.mono ?_
          rintro y w6 ⟨rfl, hww⟩
          obtain rfl := hww.symm
          clear hww
          have hcv : IntKind.i64.wrap (sm : Int) = (sm : Int) := by rw [IntKind.wrap_i64]; omega
          go_wp2_with fail
          refine (low_any V _ (fun _ => False) _ _ _ _ sm 4 O.out (fun _ h => h.elim) hz.symm (by decide) (by omega)).mono ?_
          rintro y w7 ⟨a7, c7, rfl, hd⟩
          have OW := hide (O.out.next hd).own
          rw [← HLY.out] at OW
          clear hd
          go_wp2
          go_ret
          exact ⟨a7, c7, rfl, Own.pre HA.out OW.out⟩
end Go.Proofs.Ytifhkfghjifecaa
