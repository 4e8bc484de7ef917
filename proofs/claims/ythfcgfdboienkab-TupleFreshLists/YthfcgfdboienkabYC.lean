import Derived.Test.YthfcgfdboienkabYB
import Derived.Test.YthfcgfdboienkabXL
import Derived.Test.YthfcgfdboienkabXA
namespace Go.Proofs.Ythfcgfdboienkab
open Go.RowKit

theorem new_cells_r (X : World) (n : Nat) (hn : n = X.heap.size) (v : VV) (t : TypeId) : ∀ (j : Nat) (u : Value), v.rc.toList[j]? = some u → (X.alloc (.cells v.rc t)).cell? ((⟨n, 0, none⟩ : Addr).add j) = some u := by
  intro j u hu
  subst hn
  rw [Addr.add_mid, cell_of_row _ _ _ _ _ _ (heap_alloc_new _ _), Nat.zero_add, ← hu]
  simp
/-- what is known of the first value of what is left -/
structure FirstR (w : World) (b off cj : Nat) (rb : List Nat) : Prop where
  g : ∀ W, Below w.heap.size w W → Calls Try.prog 39 #[.slice (some ⟨b, off, none⟩) (vlen rb) cj] W fun e w' => e = .returned (.agg (vget (rb.take (vlen rb))).rc) ∧ Below W.heap.size W w'
  p : ∀ W, Calls Try.prog 35 #[.slice none 0 0, .agg (vget (rb.take (vlen rb))).rc] W (Gives W none (vget (rb.take (vlen rb))).bytes)
  q : ∀ W a3 c3, Below w.heap.size w W → Rw W a3 c3 (vget (rb.take (vlen rb))).bytes → Calls Try.prog 12 #[.slice a3 (vget (rb.take (vlen rb))).bytes.length c3, .slice (some ⟨b, off, none⟩) (vlen rb) cj] W fun e w' => e = .returned (.bool (decide ((vget (rb.take (vlen rb))).bytes = rb.take (vlen rb)))) ∧ Below W.heap.size W w'
theorem first_r (w : World) (b off cj : Nat) (rb : List Nat) (hB : Bs w (some ⟨b, off, none⟩) rb) (hl : rb.length ≤ 4096) (hcap : rb.length ≤ cj) (hv : vlen rb ≠ 0) (hvl : vlen rb ≤ rb.length) : FirstR w b off cj rb := by
  have hf : isFirst (rb.getD 0 0) = true := by rw [vlen_first rb]; simp [hv]
  have HP := vlen_parts rb hv
  have hth := take_head (l := rb) (k := vlen rb) (by omega)
  have htl : (rb.take (vlen rb)).length = vlen rb := by rw [List.length_take]; omega
  have hvok := vget_ok (rb.take (vlen rb)) (hB.take' _).1 (by omega) (by rw [hth.2, htl]; exact ⟨HP.1, HP.2.1, HP.2.2.1⟩) (by rw [hth.2]; exact hf)
  have hsm := bytes_small hvok.1 hvok.2.1
  refine ⟨fun W h => ?_, fun W => ?_, fun W a3 c3 h h3 => ?_⟩
  · exact dget_any W b off cj (vlen rb) (rb.take (vlen rb)) ((hB.take' _).keep h) (by omega) (by omega) (by omega) (by rw [hth.1]; exact hf) (by rw [hth.1, htl]; exact HP) htl.symm
  · have := dput_any W none 0 0 [] (vget (rb.take (vlen rb))) (Rw.nil W) hvok.1 rfl (by simp only [List.length_nil]; omega)
    rwa [List.nil_append] at this
  · exact EqBytes_any W a3 (some ⟨b, off, none⟩) _ _ c3 cj _ (rb.take (vlen rb)) (h3.bs (bytes_lt hvok.1) (by omega)) ((hB.take' _).keep h) rfl htl.symm
set_option maxHeartbeats 3200000 in
theorem dDecode_any (w : World) (a : Option Addr) (n cap : Nat) (l : List Nat) (hB : Bs w a l) (hcap : l.length ≤ cap) (hn : n = l.length) :
    Calls Try.prog 23 #[.slice a n cap] w fun e w' => ∃ a' cap', e = .returned (.tuple #[.slice a' (decR l).1.length cap', .int .i64 (decR l).2]) ∧ ROwn w w' a' cap' (decR l).1 ∧ (∀ v ∈ (decR l).1, v.ok) := by
  subst hn
  have HB := hide hB
  by_cases hbig : 4096 < l.length
  · have hbi : (4096 : Int) < (l.length : Int) := by omega
    rw [show decR l = ([], 4) by unfold decR; rw [if_pos hbig]]
    clear hB
    go_enter Try.func23, Try.ntmps23
    go_wp2
    refine bodyPost_ret (v := .tuple #[.slice none 0 0, .int .i64 4]) (by simp [results, Try.results23, go_sem]) rfl ?_
    exact ⟨none, 0, rfl, ROwn.nil w (Below.refl _ _), fun v hv => (List.not_mem_nil hv).elim⟩
  · have hbi : ¬ (4096 : Int) < (l.length : Int) := by omega
    have HST := hide (decA_start l (by omega))
    clear hB
    go_enter Try.func23, Try.ntmps23
    go_wp2
    go_loopw [0, 4] (fun v x wx => ∃ (rb : List Nat) (aj : Option Addr) (cj : Nat) (acc : List VV) (al : Option Addr) (cl : Nat), v = .slice aj rb.length cj ∧ x = .slice al acc.length cl ∧ (ROwn w wx al cl acc ∧ (∀ v ∈ acc, v.ok) ∧ Bs w aj rb ∧ rb.length ≤ cj ∧ acc.length + rb.length ≤ 4096 ∧ decA acc rb = decA [] l)) (fun v _ _ => lenV v)
    case atStart => exact ⟨l, a, cap, [], none, 0, rfl, rfl, ROwn.nil w (Below.refl _ _), fun v hv => (List.not_mem_nil hv).elim, HB.out, hcap, by simp; omega, rfl⟩
    case round =>
      obtain ⟨rb, aj, cj, acc, al, cl, rfl, rfl, hG⟩ := hrel
      have HG := hide hG
      clear hG
      by_cases h0 : rb = []
      · subst h0
        have HE : Hid (decA [] l = (acc, 0)) := by rw [← HG.out.2.2.2.2.2, decA_nil]; exact rfl
        go_wp2
        refine bodyPost_ret (v := .tuple #[.slice al acc.length cl, .int .i64 0]) (by simp [results, Try.results23, go_sem]) rfl ?_
        rw [HST.out, HE.out]
        exact ⟨al, cl, rfl, HG.out.1, HG.out.2.1⟩
      · have hp : 0 < rb.length := List.length_pos_iff.2 h0
        have hpi : (0 : Int) < (rb.length : Int) := by omega
        have hr4 : rb.length ≤ 4096 := by have := HG.out.2.2.2.2.1; omega
        have hcj : rb.length ≤ cj := HG.out.2.2.2.1
        obtain ⟨b, off, rfl, hc⟩ := byte_at HG.out.2.2.1 (Below.refl _ _) hp
        have LN := hide (dlength_any wr b off cj rb.length rb (HG.out.2.2.1.keep HG.out.1.b) hr4 hp rfl)
        have HBAD := hide (fun h => decA_bad (acc := acc) h0 h)
        have HGOOD := hide (fun h => decA_good (acc := acc) h0 h)
        have HRK := hide (fun h => readR_ok (b := rb) HG.out.2.2.1.1 hr4 h)
        clear hc
        by_cases hv0 : vlen rb = 0
        · have HE2 : Hid (decA [] l = ([], 5)) := by
            have e : readR rb = (VV.zero, 0, 5) := by unfold readR; rw [if_pos hv0]
            have := HBAD.out (by rw [e]; decide)
            rw [← HG.out.2.2.2.2.2]; show _ = _; rw [this, e]
          rw [hv0] at LN
          clear HBAD HGOOD HRK
          go_wp2_with fail
          refine LN.out.mono ?_
          rintro e w1 ⟨rfl, rfl⟩
          go_wp2
          refine bodyPost_ret (v := .tuple #[.slice none 0 0, .int .i64 5]) (by simp [results, Try.results23, go_sem]) rfl ?_
          rw [HST.out, HE2.out]
          exact ⟨none, 0, rfl, ROwn.nil w HG.out.1.b, fun v hv => (List.not_mem_nil hv).elim⟩
        · have hvf : (((vlen rb : Nat) : Int) == 0) = false := eqf (by omega)
          by_cases hvl : rb.length < vlen rb
          · have HE2 : Hid (decA [] l = ([], 2)) := by
              have e : readR rb = (VV.zero, 0, 2) := by unfold readR; rw [if_neg hv0, if_pos hvl]
              have := HBAD.out (by rw [e]; decide)
              rw [← HG.out.2.2.2.2.2]; show _ = _; rw [this, e]
            have hvi : (rb.length : Int) < ((vlen rb : Nat) : Int) := by omega
            clear HBAD HGOOD HRK
            generalize vlen rb = q at *
            go_wp2_with fail
            refine LN.out.mono ?_
            rintro e w1 ⟨rfl, rfl⟩
            go_wp2
            refine bodyPost_ret (v := .tuple #[.slice none 0 0, .int .i64 2]) (by simp [results, Try.results23, go_sem]) rfl ?_
            rw [HST.out, HE2.out]
            exact ⟨none, 0, rfl, ROwn.nil w HG.out.1.b, fun v hv => (List.not_mem_nil hv).elim⟩
          · have hvi : ¬ (rb.length : Int) < ((vlen rb : Nat) : Int) := by omega
            have hvi2 : ((vlen rb : Nat) : Int) ≤ (cj : Int) := by omega
            have hvi3 : ((vlen rb : Nat) : Int) ≤ (rb.length : Int) := by omega
            have hvi4 : (0 : Int) ≤ ((vlen rb : Nat) : Int) := by omega
            have FR := first_r wr b off cj rb (HG.out.2.2.1.keep HG.out.1.b) hr4 hcj hv0 (by omega)
            have F1 := hide FR.g
            have F2 := hide FR.p
            have F3 := hide FR.q
            clear FR
            by_cases hq : (vget (rb.take (vlen rb))).bytes = rb.take (vlen rb)
            · have e : readR rb = (vget (rb.take (vlen rb)), vlen rb, 0) := by unfold readR; rw [if_neg hv0, if_neg hvl, if_neg (by simp [hq])]
              have HDA := hide (HGOOD.out (by rw [e]))
              have HOK := hide (HRK.out (by rw [e]))
              rw [e] at HDA HOK
              rw [decide_eq_true hq] at F3
              clear hq e HBAD HGOOD HRK
              generalize vget (rb.take (vlen rb)) = v at *
              generalize v.bytes = Z at *
              generalize vlen rb = q at *
              go_wp2_with fail
              refine LN.out.mono ?_
              rintro e w1 ⟨rfl, rfl⟩
              go_wp2_with fail
              refine (F1.out _ (Below.refl _ _)).mono ?_
              rintro e w2 ⟨rfl, hb2⟩
              have B2 := hide hb2
              have P2 := hide (F2.out (w2.alloc (.cells v.rc 52)))
              clear hb2 F1 F2 LN
              unfold VV.rc at *
              go_wp2_with fail
              refine P2.out.mono ?_
              rintro e w3 ⟨a3, c3, rfl, h3⟩
              have b3 := h3.below
              have M3 := hide ((b3.block w2.heap.size (by rw [size_alloc]; omega)).trans (heap_alloc_new _ _))
              have B3 := hide (bt (bt B2.out (al_ _ _)) b3)
              have EQ := hide (F3.out w3 a3 c3 B3.out h3.r)
              clear h3 b3 F3 P2 B2
              generalize w2.heap.size = gv at *
              go_wp2_with fail
              refine EQ.out.mono ?_
              rintro e w4 ⟨rfl, hb4⟩
              have M4 := hide ((hb4.block gv (Array.getElem?_eq_some_iff.1 M3.out).1).trans M3.out)
              have O4 := hide (HG.out.1.keep (bt B3.out hb4))
              clear hb4 EQ M3 B3
              go_wp2_with (first | (refine wpList_load_row rfl 52 _ rfl gv rfl 52 _ (0, 0) _ M4.out Try.underlying52 rfl sizeV ?_) | (at_builtin; refine wpList_apR rfl _ _ rfl al acc.length cl acc rfl rfl (O4.out.r.keep (al_ _ _)) ⟨w4.heap.size, 0, none⟩ 1 v rfl ?c1 (by have := HG.out.2.2.2.2.1; omega) ?_))
              case c1 => exact new_cells_r _ _ rfl v 52
              intro g3 cap3 w5 hR hN hg
              have O5 := hide (O4.out.step (al_ _ _) hR hN hg)
              clear hR hN hg
              have HL : Hid ((rb.drop q).length = rb.length - q) := List.length_drop
              have HL2 : Hid ((acc ++ [v]).length = acc.length + 1) := by show _ = _; simp
              have HK : Hid (∀ u ∈ acc ++ [v], u.ok) := fun u hu => by
                rcases List.mem_append.1 hu with h | h
                · exact HG.out.2.1 u h
                · rw [List.mem_singleton.1 h]; exact HOK.out
              by_cases hcq : cj = q
              · subst hcq
                have HD : Hid (rb.drop cj = []) := List.drop_of_length_le hcj
                go_wp2
                go_roundw
                case rel => exact ⟨rb.drop cj, some ⟨b, off, none⟩, 0, acc ++ [v], some ⟨g3, 0, none⟩, cap3, by rw [HD.out]; first | done | rfl | simp, by rw [HL2.out], O5.out, HK.out, by rw [HD.out]; exact Bs.empty _ _, by rw [HD.out]; exact Nat.le_refl _, by rw [HL2.out, HL.out]; have := HG.out.2.2.2.2.1; omega, by rw [← HDA.out]; exact HG.out.2.2.2.2.2⟩
                case measure => simp [lenV]; omega
              · go_wp2
                go_roundw
                case rel => exact ⟨rb.drop q, some ⟨b, off + q, none⟩, cj - q, acc ++ [v], some ⟨g3, 0, none⟩, cap3, by rw [HL.out], by rw [HL2.out], O5.out, HK.out, HG.out.2.2.1.drop' q, by rw [HL.out]; have := HG.out.2.2.2.1; omega, by rw [HL2.out, HL.out]; have := HG.out.2.2.2.2.1; omega, by rw [← HDA.out]; exact HG.out.2.2.2.2.2⟩
                case measure => simp [lenV]; omega
            · have e : readR rb = (VV.zero, 0, 5) := by unfold readR; rw [if_neg hv0, if_neg hvl, if_pos hq]
              have HE2 : Hid (decA [] l = ([], 5)) := by
                have := HBAD.out (by rw [e]; decide)
                rw [← HG.out.2.2.2.2.2]; show _ = _; rw [this, e]
              rw [decide_eq_false hq] at F3
              clear hq e HBAD HGOOD HRK
              generalize vget (rb.take (vlen rb)) = v at *
              generalize v.bytes = Z at *
              generalize vlen rb = q at *
              go_wp2_with fail
              refine LN.out.mono ?_
              rintro e w1 ⟨rfl, rfl⟩
              go_wp2_with fail
              refine (F1.out _ (Below.refl _ _)).mono ?_
              rintro e w2 ⟨rfl, hb2⟩
              have B2 := hide hb2
              have P2 := hide (F2.out (w2.alloc (.cells v.rc 52)))
              clear hb2 F1 F2 LN
              unfold VV.rc at *
              go_wp2_with fail
              refine P2.out.mono ?_
              rintro e w3 ⟨a3, c3, rfl, h3⟩
              have b3 := h3.below
              have M3 := hide ((b3.block w2.heap.size (by rw [size_alloc]; omega)).trans (heap_alloc_new _ _))
              have B3 := hide (bt (bt B2.out (al_ _ _)) b3)
              have EQ := hide (F3.out w3 a3 c3 B3.out h3.r)
              clear h3 b3 F3 P2 B2
              generalize w2.heap.size = gv at *
              go_wp2_with fail
              refine EQ.out.mono ?_
              rintro e w4 ⟨rfl, hb4⟩
              have M4 := hide ((hb4.block gv (Array.getElem?_eq_some_iff.1 M3.out).1).trans M3.out)
              have O4 := hide (HG.out.1.keep (bt B3.out hb4))
              clear hb4 EQ M3 B3
              go_wp2
              refine bodyPost_ret (v := .tuple #[.slice none 0 0, .int .i64 5]) (by simp [results, Try.results23, go_sem]) rfl ?_
              rw [HST.out, HE2.out]
              exact ⟨none, 0, rfl, ROwn.nil w O4.out.b, fun v hv => (List.not_mem_nil hv).elim⟩
end Go.Proofs.Ythfcgfdboienkab
