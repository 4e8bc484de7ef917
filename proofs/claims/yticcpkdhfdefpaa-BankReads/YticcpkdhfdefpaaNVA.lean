import Derived.Test.YticcpkdhfdefpaaNV
namespace Go.Proofs.Yticcpkdhfdefpaa
open Go.RowKit

set_option maxRecDepth 8000 in
set_option maxHeartbeats 1600000 in
theorem mDecode_args (w : World) (gen pages : Int) (a : Option Addr) (n c : Nat) (B : List (List Nat)) (hn : n = B.length) (hp : pages ≤ 9223372036854775807) (ha : deA gen pages B.length = false) :
    Calls Try.prog 18 #[.int .i64 gen, .int .i64 pages, .slice a n c] w (DeQ w gen pages B) := by
  have h1 : deE gen pages B = 1 := by unfold deE; rw [if_pos ha]
  have HD := hide (fun w' hb => deQ_err (w := w) (w' := w') (gen := gen) (pages := pages) (B := B) (by rw [h1]; decide) hb)
  rw [h1] at HD
  have IG := hide fun w1 => mGen_any w1 gen
  have IP := hide fun w1 => mPg_any w1 pages
  have BL := hide fun w1 => mBlocks_any w1 pages hp
  unfold deA at ha
  cases hg : isGen gen with
  | false =>
    rw [hg] at IG
    clear h1 ha hg hn
    go_enter Try.func18, Try.ntmps18
    go_wp2_with (go_at_call 30; refine (IG.out _).mono ?_; rintro y w1 ⟨rfl, hww⟩; obtain rfl := hww.symm)
    go_ret2
    exact HD.out _ (Below.refl _ _)
  | true =>
    rw [hg] at IG
    cases hpg : isPg pages with
    | false =>
      rw [hpg] at IP
      clear h1 ha hg hpg hn
      go_enter Try.func18, Try.ntmps18
      go_wp2_with (first | (go_at_call 30; refine (IG.out _).mono ?_; rintro y w1 ⟨rfl, hww⟩; obtain rfl := hww.symm) | (go_at_call 33; refine (IP.out _).mono ?_; rintro y w1 ⟨rfl, hww⟩; obtain rfl := hww.symm))
      go_ret2
      exact HD.out _ (Below.refl _ _)
    | true =>
      rw [hpg] at IP
      have hne : (((n : Nat) : Int) == ((nbl pages.toNat : Nat) : Int)) = false := by
        rw [hg, hpg] at ha
        rw [beqn, hn]
        simpa using ha
      clear h1 ha hg hpg hn
      generalize nbl pages.toNat = N at *
      go_enter Try.func18, Try.ntmps18
      go_wp2_with (first | (go_at_call 30; refine (IG.out _).mono ?_; rintro y w1 ⟨rfl, hww⟩; obtain rfl := hww.symm) | (go_at_call 33; refine (IP.out _).mono ?_; rintro y w1 ⟨rfl, hww⟩; obtain rfl := hww.symm) | (go_at_call 9; refine (BL.out _).mono ?_; rintro y w1 ⟨rfl, hww⟩; obtain rfl := hww.symm))
      go_ret2
      exact HD.out _ (Below.refl _ _)
set_option maxRecDepth 8000 in
set_option maxHeartbeats 6400000 in
theorem mDecode_go (w : World) (gen pages : Int) (a : Option Addr) (c : Nat) (T : List Br) (hB : Bl w a T) (ha : deA gen pages T.length = true) :
    Calls Try.prog 18 #[.int .i64 gen, .int .i64 pages, .slice a T.length c] w (DeQ w gen pages (T.map Br.l)) := by
  have hda : deE gen pages (T.map Br.l) = firstE (fun j => bkE gen pages (j : Int) ((T.map Br.l).getD j [])) T.length := by
    unfold deE; rw [List.length_map, if_neg (by rw [ha]; simp)]
  unfold deA at ha
  simp only [Bool.and_eq_true, decide_eq_true_eq] at ha
  obtain ⟨⟨hg, hpg⟩, hn⟩ := ha
  have hpp := isPg_iff.1 hpg
  have IG := hide fun w1 => mGen_any w1 gen
  have IP := hide fun w1 => mPg_any w1 pages
  have BL := hide fun w1 => mBlocks_any w1 pages (by omega)
  rw [hg] at IG
  rw [hpg] at IP
  rw [← hn] at BL
  have ht : T.length ≤ 274 := by rw [hn]; unfold nbl; omega
  have HDA := hide hda
  have HB := hide hB
  have HP := hide hpp.2
  clear hda hn hg hpg hpp hB
  go_enter Try.func18, Try.ntmps18
  go_wp2_with (first | (go_at_call 30; refine (IG.out _).mono ?_; rintro y w1 ⟨rfl, hww⟩; obtain rfl := hww.symm) | (go_at_call 33; refine (IP.out _).mono ?_; rintro y w1 ⟨rfl, hww⟩; obtain rfl := hww.symm) | (go_at_call 9; refine (BL.out _).mono ?_; rintro y w1 ⟨rfl, hww⟩; obtain rfl := hww.symm))
  go_loopw [8, 9] (fun o q wx => ∃ (j : Nat) (aj : Option Addr) (cj : Nat), j ≤ T.length ∧ q = .int .i64 j ∧ o = .slice aj (deTo gen pages (T.map Br.l) j).length cj ∧ IOwn w wx aj cj (deTo gen pages (T.map Br.l) j) ∧ firstE (fun j => bkE gen pages (j : Int) ((T.map Br.l).getD j [])) j = 0) (fun _ q _ => T.length - (intOf q).toNat)
  case atStart => exact ⟨0, none, 0, Nat.zero_le _, rfl, rfl, ⟨Ig.nil _, New.none _ _, Below.refl _ _⟩, rfl⟩
  case round =>
    obtain ⟨j, aj, cj, hj, rfl, rfl, hO, hF⟩ := hrel
    have O := hide hO
    have F := hide hF
    clear hO hF
    have hdl := deTo_length gen pages (T.map Br.l) j
    have DS := hide (deTo_succ gen pages (T.map Br.l) j)
    by_cases hlt : j < T.length
    · have hlti : (j : Int) < (T.length : Int) := by omega
      obtain ⟨b1, o1, rfl, cA⟩ := (HB.out.keep O.out.b).c j hlt
      have hr := HB.out.r _ (Br0_mem hlt)
      have FST : Hid (bkE gen pages (j : Int) (T.getD j Br0).l ≠ 0 → firstE (fun j => bkE gen pages (j : Int) ((T.map Br.l).getD j [])) T.length = bkE gen pages (j : Int) (T.getD j Br0).l) := by
        intro hk
        have h := firstE_stop (f := fun j => bkE gen pages (j : Int) ((T.map Br.l).getD j [])) (k := j) F.out (by show bkE gen pages (j : Int) ((T.map Br.l).getD j []) ≠ 0; rw [map_getD]; exact hk) T.length hlt
        rw [h]
        show bkE gen pages (j : Int) ((T.map Br.l).getD j []) = _
        rw [map_getD]
      have FN : Hid (bkE gen pages (j : Int) ((T.map Br.l).getD j []) = 0 → firstE (fun j => bkE gen pages (j : Int) ((T.map Br.l).getD j [])) (j + 1) = 0) := by
        intro h
        unfold firstE
        rw [if_neg (by rw [F.out]; simp)]
        exact h
      have BK := hide fun (w1 : World) (hb : Below w.heap.size w w1) => mBlock_any w1 gen pages (j : Int) (T.getD j Br0).a (T.getD j Br0).l.length (T.getD j Br0).c (T.getD j Br0).l (hr.1.keep hb) rfl hr.2 (by have := HP.out; omega)
      rw [map_getD] at DS FN
      unfold bv at cA
      generalize T.getD j Br0 = t at *
      have HPO := hide (fun h => bkC_pos (gen := gen) (pages := pages) (i := (j : Int)) (b := t.l) h)
      have hbl := @bkC_length gen pages (j : Int) t.l
      unfold BkQ at BK
      by_cases hE : bkE gen pages (j : Int) t.l = 0
      · have hpos := HPO.out hE
        have FN := hide (FN.out hE)
        rw [hE] at BK
        generalize bkC gen pages (j : Int) t.l = BC at *
        generalize hDT : deTo gen pages (T.map Br.l) j = DT at *
        go_wp2_with fail
        refine (BK.out _ O.out.b).mono ?_
        rintro y w2 ⟨a2, c2, rfl, hO2⟩
        have O2 := hide hO2
        clear hO2
        have DI := hide (show ∀ x y, aj = some x → a2 = some y → x.block ≠ y.block from fun x y hx hy e => by have h1 := O.out.r.lt hx; have h2 := new_at O2.out.n hy; omega)
        go_wp2
        go_loopw [8, 12] (fun o q wx => ∃ (s : Nat) (aq : Option Addr) (cs : Nat), s ≤ BC.length ∧ q = .int .i64 s ∧ o = .slice aq (DT.length + s) cs ∧ IOwn w wx aq cs (DT ++ BC.take s) ∧ Ig wx a2 c2 BC ∧ (∀ x y, aq = some x → a2 = some y → x.block ≠ y.block)) (fun _ q _ => BC.length - (intOf q).toNat)
        case atStart => exact ⟨0, aj, cj, Nat.zero_le _, rfl, rfl, by simpa using O.out.keep O2.out.b, O2.out.r, DI.out⟩
        case round =>
          obtain ⟨s, aq, cs, hs, rfl, rfl, hO3, hI3, hD3⟩ := hrel
          have O3 := hide hO3
          have I3 := hide hI3
          have D3 := hide hD3
          clear hO3 hI3 hD3
          have hls : (DT ++ BC.take s).length = DT.length + s := by rw [List.length_append, List.length_take]; omega
          by_cases hlt2 : s < BC.length
          · have hlti2 : (s : Int) < (BC.length : Int) := by omega
            obtain ⟨b2, o2, ha2, cB⟩ := I3.out.ir.at hlt2
            subst ha2
            have SN : Hid (DT ++ BC.take s ++ [BC.getD s 0] = DT ++ BC.take (s + 1)) := by
              show _ = _
              rw [List.append_assoc, take_snocI _ hlt2]
            generalize BC.getD s 0 = z at *
            generalize hL : DT ++ BC.take s = L at *
            generalize hm : DT.length + s = m at *
            go_wp2_with (at_builtin; refine wpList_apI rfl _ _ rfl aq m cs L ?r1 hls.symm (O3.out.r.keep (al _ _)) ⟨wr.heap.size, 0, none⟩ 1 z ?r2 ?r3 (by omega) ?_)
            try case r1 => rfl
            try case r2 => rfl
            try case r3 => simp
            intro g9 c9 w9 hR hN hg hlt9
            have O4 := hide (O3.out.step (al _ _) hR hN hg)
            rw [SN.out] at O4
            have I4 := hide ((I3.out.keep (al wr _)).but (S := fun k => aq.map Addr.block = some k) ((But.refl _ _).grown hg fun k hk _ => hk) fun x hx e => by
              obtain ⟨y, hy, e2⟩ := map_some e
              exact D3.out y x hy hx e2)
            have D4 := hide (show ∀ x y, (some ⟨g9, 0, none⟩ : Option Addr) = some x → some (⟨b2, o2, none⟩ : Addr) = some y → x.block ≠ y.block from fun x y hx hy => by
              rcases hN x hx with ⟨u, hu, e⟩ | h4
              · rw [← e]; exact D3.out u y hu hy
              · have h5 := I3.out.lt hy
                rw [size_alloc] at h4
                omega)
            clear hR hN hg
            go_wp2
            go_roundw
            case rel => exact ⟨s + 1, _, c9, by omega, by go_num, by rw [← hm, Nat.add_assoc], O4.out, I4.out, D4.out⟩
            case measure => simp [intOf]; omega
          · obtain rfl : s = BC.length := by omega
            rw [List.take_length, ← DS.out] at O3
            have HDL : Hid ((deTo gen pages (T.map Br.l) (j + 1)).length = DT.length + BC.length) := by
              show _ = _
              rw [DS.out, List.length_append]
            go_wp2
            go_roundw
            case rel => exact ⟨j + 1, _, cs, by omega, by go_num, by rw [HDL.out], O3.out, FN.out⟩
            case measure => simp [intOf]; omega
      · have hE' : (((bkE gen pages (j : Int) t.l : Nat) : Int) == 0) = false := by simpa using hE
        have HD := hide (fun w' hb => deQ_err (w := w) (w' := w') (gen := gen) (pages := pages) (B := T.map Br.l) (by rw [HDA.out, FST.out hE]; exact hE) hb)
        rw [HDA.out, FST.out hE] at HD
        generalize bkE gen pages (j : Int) t.l = E at *
        go_wp2_with fail
        refine (BK.out _ O.out.b).mono ?_
        rintro y w2 ⟨a2, c2, rfl, hO2⟩
        have O2 := hide hO2
        clear hO2
        go_wp2
        go_ret2
        exact HD.out _ (bt O.out.b O2.out.b)
    · obtain rfl : j = T.length := by omega
      go_wp2
      go_ret2
      have h0 : deE gen pages (T.map Br.l) = 0 := by rw [HDA.out]; exact F.out
      have h1 : deC gen pages (T.map Br.l) = deTo gen pages (T.map Br.l) T.length := by unfold deC; rw [if_pos h0, List.length_map]
      refine ⟨aj, cj, ?_, by rw [h1]; exact O.out⟩
      rw [h0, h1]
      rfl
theorem mDecode_any (w : World) (gen pages : Int) (a : Option Addr) (n c : Nat) (T : List Br) (hB : Bl w a T) (hn : n = T.length) (hp : pages ≤ 9223372036854775807) :
    Calls Try.prog 18 #[.int .i64 gen, .int .i64 pages, .slice a n c] w (DeQ w gen pages (T.map Br.l)) := by
  subst hn
  cases ha : deA gen pages T.length with
  | false => exact mDecode_args w gen pages a T.length c (T.map Br.l) (by rw [List.length_map]) hp (by rw [List.length_map]; exact ha)
  | true => exact mDecode_go w gen pages a c T hB ha
end Go.Proofs.Yticcpkdhfdefpaa
