import Derived.Test.YtdfhalhllmnnbaaEAB
namespace Go.Proofs.Ytdfhalhllmnnbaa
set_option linter.unusedVariables false
open Go.RowKit

/-! ### the document's Pages; PoolMakes -/
def yp (P : Po) (z : Int) (k : Nat) : List Int := ((List.range k).filter fun (i : Nat) => decide (((P.state (((i : Nat) : Int) + 1) : Nat) : Int) = z)).map fun (i : Nat) => ((i : Nat) : Int) + 1
theorem yp_succ (P : Po) (z : Int) (k : Nat) : yp P z (k + 1) = yp P z k ++ (if ((P.state ((k : Int) + 1) : Nat) : Int) = z then [(k : Int) + 1] else []) := by
  unfold yp
  rw [List.range_succ, List.filter_append, List.map_append]
  congr 1
  by_cases h : ((P.state ((k : Int) + 1) : Nat) : Int) = z
  · rw [if_pos h]; simp [h]
  · rw [if_neg h]; simp [h]
theorem yp_len (P : Po) (z : Int) (k : Nat) : (yp P z k).length ≤ k := by
  unfold yp
  rw [List.length_map]
  exact Nat.le_trans (List.length_filter_le _ _) (by simp)
theorem yp_pages (P : Po) (z : Int) : yp P z P.pg.length = P.pages z := by
  have hs : ∀ i, i < P.pg.length → P.state ((i : Int) + 1) = stt (P.pg.getD i Pg.zero) := fun i hi => by
    unfold Po.state
    rw [if_pos (Po.has_iff.2 ⟨by omega, by omega⟩), show ((i : Int) + 1 - 1).toNat = i by omega]
  unfold Po.pages yp
  by_cases h : 1 ≤ z ∧ z ≤ 4
  · rw [if_pos h]
    unfold pagesOf
    congr 1
    refine List.filter_congr fun i hi => ?_
    rw [hs i (List.mem_range.1 hi)]
    congr 1
    apply propext
    constructor
    · intro e; omega
    · intro e; omega
  · rw [if_neg h]
    rw [List.filter_eq_nil_iff.2]
    · rfl
    · intro i hi
      rw [hs i (List.mem_range.1 hi)]
      have := stt_pos (P.pg.getD i Pg.zero)
      simp only [decide_eq_true_eq]
      omega
set_option maxHeartbeats 4000000 in
theorem yPages_any (w : World) (q : Nat) (r : Int) (C : List Int) (cb lb : Nat) (h : Rp w q r C (lasOf C) cb lb) (hl : C.length ≤ 65536) (z : Int) : Calls Try.prog 37 #[.pointer (some ⟨q, 0, none⟩), .int .i64 z] w fun e w' => ∃ a' c', e = .returned (.slice a' ((Po.start r C).pages z).length c') ∧ IOwn w w' a' c' ((Po.start r C).pages z) := by
  rw [← yp_pages, start_len]
  have SA := hide fun (W : World) (hb : Below w.heap.size w W) (x : Int) => yState_any W q r C cb lb (h.keep hb) hl x
  have CE := hide fun (W : World) (hb : Below w.heap.size w W) => (h.keep hb).cell.2.1
  generalize Po.start r C = P at *
  generalize C.length = n at *
  have O0 := hide (show IOwn w (w.alloc (.cells #[] 3)) (some ⟨w.heap.size, 0, none⟩) 0 (yp P z 0) from ⟨Ig.mk (cur := #[]) (World.alloc_heap_new w _) (by simp [yp]) (by unfold maxLen; omega) rfl (by simp [yp, vi]), fun x hx => .inr (by cases hx; exact Nat.le_refl _), al _ _⟩)
  clear h
  go_enter Try.func37, Try.ntmps37
  go_wp2_with fail
  go_loopw [5, 6] (fun s i wr => ∃ (j : Nat) (a' : Option Addr) (c' : Nat), j ≤ n ∧ i = .int .i64 ((j : Int) + 1) ∧ s = .slice a' (yp P z j).length c' ∧ IOwn w wr a' c' (yp P z j)) (fun _ i _ => n - (intOf i - 1).toNat)
  case atStart => exact ⟨0, _, 0, Nat.zero_le _, rfl, rfl, O0.out⟩
  case round =>
    clear O0
    obtain ⟨j, a', c', hj, rfl, rfl, hO⟩ := hrel
    have O := hide hO
    clear hO
    have c1 := CE.out _ O.out.b
    by_cases hlt : j < n
    · have d1 : decide ((j : Int) + 1 ≤ (n : Int)) = true := decide_eq_true (by omega)
      have hle : (j : Int) + 1 ≤ (n : Int) := by omega
      have S1 := hide (SA.out _ O.out.b ((j : Int) + 1))
      have SN := hide (yp_succ P z j)
      have s1 : IntKind.i64.wrap ((j : Int) + 1 + 1) = (j : Int) + 1 + 1 := wrapI (by omega) (by omega)
      have s2 : wrap64 ((j : Int) + 1 + 1) = (j : Int) + 1 + 1 := by unfold wrap64; omega
      have yl := yp_len P z j
      obtain ⟨L, hL⟩ : ∃ L, yp P z j = L := ⟨_, rfl⟩
      rw [hL] at O SN yl ⊢
      obtain ⟨m, hm⟩ : ∃ m, L.length = m := ⟨_, rfl⟩
      have HM := hide hm
      rw [hm] at yl ⊢
      clear hL hm
      generalize P.state ((j : Int) + 1) = s at *
      by_cases hs : (s : Int) = z
      · subst hs
        rw [if_pos rfl] at SN
        have e0 : ((s : Int) == (s : Int)) = true := by simp
        have aw := al wr (.cells #[.int .i64 ((j : Int) + 1)] 3)
        have nc := cell_alloc_new wr (.int .i64 ((j : Int) + 1)) 3
        have R1 := hide (O.out.keep aw).r
        have HAW := hide aw
        clear aw
        go_wp2_with fail
        refine S1.out.mono ?_
        rintro _ wq ⟨rfl, hwq⟩
        obtain rfl := hwq.symm
        go_wp2_with (refine wpList_apI rfl _ _ rfl a' m c' L (by simp [Act.eval]) HM.out.symm R1.out ⟨wr.heap.size, 0, none⟩ 1 ((j : Int) + 1) (by simp [Act.eval]) nc (by rw [HM.out]; omega) ?_; intro g c2 w2 hR hN hg hgl; have O2 := hide (O.out.step HAW.out hR hN hg); clear hR hN hg hgl)
        go_roundw
        case rel => exact ⟨j + 1, _, c2, by omega, by go_num, by rw [SN.out, List.length_append, HM.out]; rfl, by rw [SN.out]; exact O2.out⟩
        case measure => simp [intOf]; omega
      · rw [if_neg hs, List.append_nil] at SN
        have e0 : ((s : Int) == z) = false := by simp [hs]
        go_wp2_with fail
        refine S1.out.mono ?_
        rintro _ wq ⟨rfl, hwq⟩
        obtain rfl := hwq.symm
        go_wp2
        go_roundw
        case rel => exact ⟨j + 1, a', c', by omega, by go_num, by rw [SN.out, HM.out], by rw [SN.out]; exact O.out⟩
        case measure => simp [intOf]; omega
    · obtain rfl : j = n := by omega
      have d1 : decide ((j : Int) + 1 ≤ (j : Int)) = false := decide_eq_false (by omega)
      obtain ⟨m, hm⟩ : ∃ m, (yp P z j).length = m := ⟨_, rfl⟩
      have HM := hide hm
      rw [hm]
      clear hm
      go_wp2
      go_ret
      exact ⟨a', c', by rw [HM.out]; rfl, O.out⟩
end Go.Proofs.Ytdfhalhllmnnbaa
