import Derived.Test.YtceeeofkigkpkaaGreatEY
namespace Go.Proofs.YtceeeofkigkpkaaGreat
set_option linter.unusedVariables false
open Go.RowKit

/-! ### what the document's pool tells -/
theorem start_pg (r : Int) (C : List Int) : (Po.start r C).pg = pgOf C := rfl
theorem start_len (r : Int) (C : List Int) : (Po.start r C).pg.length = C.length := pgOf_length C
theorem start_counts (r : Int) (C : List Int) : (Po.start r C).counts = C := by
  show (C.map _).map Prod.fst = C
  rw [List.map_map]
  exact List.map_id' C
theorem pgOf_get (C : List Int) {i : Nat} (h : i < C.length) : (pgOf C).getD i Pg.zero = (C.getD i 0, decide (0 < C.getD i 0)) := by
  unfold pgOf; simp [h]
theorem lasOf_get (C : List Int) {i : Nat} (h : i < C.length) : (lasOf C).getD i false = decide (0 < C.getD i 0) := by
  unfold lasOf; simp [h]
set_option maxHeartbeats 1000000 in
theorem yLen_any (w : World) (q : Nat) (r : Int) (C : List Int) (B : List Bool) (cb lb : Nat) (h : Rp w q r C B cb lb) : Calls Tryz.prog 43 #[.pointer (some ⟨q, 0, none⟩)] w fun e w' => e = .returned (.int .i64 ((C.length : Nat) : Int)) ∧ w' = w := by
  obtain ⟨c0, c1, c2, c3, c4⟩ := h.cell
  clear h
  generalize C.length = n at *
  go_enter Tryz.func43, Tryz.ntmps43
  go_wp2
  go_ret
  exact ⟨rfl, rfl⟩
set_option maxHeartbeats 1000000 in
theorem yRefs_any (w : World) (q : Nat) (r : Int) (C : List Int) (B : List Bool) (cb lb : Nat) (h : Rp w q r C B cb lb) : Calls Tryz.prog 44 #[.pointer (some ⟨q, 0, none⟩)] w fun e w' => e = .returned (.int .i64 r) ∧ w' = w := by
  obtain ⟨c0, c1, c2, c3, c4⟩ := h.cell
  clear h
  go_enter Tryz.func44, Tryz.ntmps44
  go_wp2
  go_ret
  exact ⟨rfl, rfl⟩
set_option maxHeartbeats 1000000 in
theorem yMark_any (w : World) (q : Nat) (r : Int) (C : List Int) (B : List Bool) (cb lb : Nat) (h : Rp w q r C B cb lb) : Calls Tryz.prog 40 #[.pointer (some ⟨q, 0, none⟩)] w fun e w' => e = .returned (.int .i64 0) ∧ w' = w := by
  obtain ⟨c0, c1, c2, c3, c4⟩ := h.cell
  clear h
  go_enter Tryz.func40, Tryz.ntmps40
  go_wp2
  go_ret
  exact ⟨rfl, rfl⟩
theorem make_int0 (n : Nat) (hc : n ≤ 65536) (w : World) : (Instr.makeSlice 22 (.int .i64 0) (.int .i64 (n : Int))).run Tryz.prog w = .ok (.slice (some ⟨w.heap.size, 0, none⟩) 0 n) (w.alloc (.cells (vi (List.replicate n 0)).toArray 3)) := by
  obtain ⟨i0, hi, hz0, hz1, hz2⟩ := info_parts infoI64
  have hr := run_make (P := Tryz.prog) w 22 3 i0 (.int .i64 0) Tryz.underlying22 hi hz0 .i64 .i64 (0 : Nat) n (by omega) (by omega) (by rw [hz2]; omega) (by omega)
  simp only [Int.toNat_natCast, hz1, Nat.mul_one] at hr
  have e : madeCells (Value.int .i64 0).cells n = (vi (List.replicate n 0)).toArray := made_ints n
  rw [e] at hr
  exact hr
set_option maxHeartbeats 2000000 in
theorem CopyInts_any (w : World) (a : Option Addr) (n cap : Nat) (l : List Int) (hI : Ir w a l) (hn : n = l.length) (hl : l.length ≤ 65536) :
    Calls Tryz.prog 56 #[.slice a n cap] w fun e w' => ∃ a' c', e = .returned (.slice a' n c') ∧ IOwn w w' a' c' l := by
  have HI := hide hI
  have HN := hide hn
  rw [← hn] at hl
  have hmk := make_int0 n hl w
  have O0 := hide (show IOwn w (w.alloc (.cells (vi (List.replicate n 0)).toArray 3)) (some ⟨w.heap.size, 0, none⟩) n (l.take 0) from ⟨Ig.mk (World.alloc_heap_new w _) (by simp) (by unfold maxLen; omega) (by simp [vi]) (by simp [vi]), fun x hx => .inr (by cases hx; exact Nat.le_refl _), al _ _⟩)
  clear hI hn
  go_enter Tryz.func56, Tryz.ntmps56
  go_wp2_with fail
  go_loopw [3, 4] (fun s i wr => ∃ (j : Nat) (a' : Option Addr) (c' : Nat), j ≤ n ∧ i = .int .i64 (j : Int) ∧ s = .slice a' j c' ∧ IOwn w wr a' c' (l.take j)) (fun _ i _ => n - (intOf i).toNat)
  case atStart => exact ⟨0, _, n, Nat.zero_le _, rfl, rfl, O0.out⟩
  case round =>
    clear O0
    obtain ⟨j, a', c', hj, rfl, rfl, hO⟩ := hrel
    have O := hide hO
    clear hO
    by_cases hlt : j < n
    · have hjl : j < l.length := by rw [← HN.out]; exact hlt
      have hji : (j : Int) < (n : Int) := by omega
      obtain ⟨b1, o1, rfl, cA⟩ := (HI.out.keep O.out.b).at hjl
      have tl : (l.take j).length = j := by rw [List.length_take, ← HN.out]; omega
      have SN := hide (take_next l 0 hjl)
      obtain ⟨x, hx⟩ : ∃ x, l.getD j 0 = x := ⟨_, rfl⟩
      rw [hx] at cA SN
      have aw := al wr (.cells #[.int .i64 x] 3)
      have nc := cell_alloc_new wr (.int .i64 x) 3
      have O1 := hide (O.out.keep aw)
      have R1 := hide O1.out.r
      have HAW := hide aw
      clear hx aw
      go_wp2_with (refine wpList_apI rfl _ _ rfl a' j c' (l.take j) (by simp [Act.eval]) tl.symm R1.out ⟨wr.heap.size, 0, none⟩ 1 x (by simp [Act.eval]) nc (by rw [tl]; omega) ?_; intro g c2 w2 hR hN hg hgl; have O2 := hide (O.out.step HAW.out hR hN hg); clear hR hN hg hgl)
      go_roundw
      case rel => exact ⟨j + 1, _, c2, by omega, by go_num, rfl, by rw [SN.out]; exact O2.out⟩
      case measure => simp [intOf]; omega
    · obtain rfl : j = n := by omega
      go_wp2
      go_ret
      exact ⟨a', c', rfl, by have o := O.out; rwa [HN.out, List.take_length] at o⟩
theorem Rp.ir {w : World} {q : Nat} {r : Int} {C : List Int} {B : List Bool} {cb lb : Nat} (h : Rp w q r C B cb lb) : Ir w (some ⟨cb, 0, none⟩) C := .inr ⟨cb, 0, rfl, fun i hi => by rw [Nat.zero_add]; exact (h.cAt hi).1⟩
set_option maxHeartbeats 1000000 in
theorem yCounts_any (w : World) (q : Nat) (r : Int) (C : List Int) (B : List Bool) (cb lb : Nat) (h : Rp w q r C B cb lb) (hl : C.length ≤ 65536) : Calls Tryz.prog 39 #[.pointer (some ⟨q, 0, none⟩)] w fun e w' => ∃ a' c', e = .returned (.slice a' C.length c') ∧ IOwn w w' a' c' C := by
  obtain ⟨c0, c1, c2, c3, c4⟩ := h.cell
  have CP := hide (CopyInts_any w (some ⟨cb, 0, none⟩) C.length C.length C h.ir rfl hl)
  clear h hl
  generalize C.length = n at *
  go_enter Tryz.func39, Tryz.ntmps39
  go_wp2_with fail
  refine CP.out.mono ?_
  rintro _ w1 ⟨a', c', rfl, hO⟩
  have O := hide hO
  clear hO
  go_wp2
  go_ret
  exact ⟨a', c', rfl, O.out⟩
set_option maxHeartbeats 2000000 in
theorem yState_any (w : World) (q : Nat) (r : Int) (C : List Int) (cb lb : Nat) (h : Rp w q r C (lasOf C) cb lb) (hl : C.length ≤ 65536) (z : Int) : Calls Tryz.prog 36 #[.pointer (some ⟨q, 0, none⟩), .int .i64 z] w fun e w' => e = .returned (.int .i64 (((Po.start r C).state z : Nat) : Int)) ∧ w' = w := by
  obtain ⟨c0, c1, c2, c3, c4⟩ := h.cell
  by_cases h1 : z < 1
  · have d1 : decide (z < 1) = true := decide_eq_true h1
    have e : (Po.start r C).state z = 0 := by
      unfold Po.state
      rw [if_neg (fun h => by have := (Po.has_iff.1 h).1; omega)]
    rw [e]
    clear h e
    generalize C.length = n at *
    go_enter Tryz.func36, Tryz.ntmps36
    go_wp2
    go_ret
    exact ⟨rfl, rfl⟩
  · have d1 : decide (z < 1) = false := decide_eq_false h1
    by_cases h2 : (C.length : Int) < z
    · have d2 : decide ((C.length : Int) < z) = true := decide_eq_true h2
      have e : (Po.start r C).state z = 0 := by
        unfold Po.state
        rw [if_neg (fun h => by have := (Po.has_iff.1 h).2; rw [start_len] at this; omega)]
      rw [e]
      clear h e
      generalize C.length = n at *
      go_enter Tryz.func36, Tryz.ntmps36
      go_wp2
      go_ret
      exact ⟨rfl, rfl⟩
    · have d2 : decide ((C.length : Int) < z) = false := decide_eq_false h2
      obtain ⟨i, rfl⟩ : ∃ i : Nat, z = (i : Int) + 1 := ⟨(z - 1).toNat, by omega⟩
      have hi : i < C.length := by omega
      have e : (Po.start r C).state ((i : Int) + 1) = stt (C.getD i 0, decide (0 < C.getD i 0)) := by
        unfold Po.state
        rw [if_pos (Po.has_iff.2 ⟨by omega, by rw [start_len]; omega⟩), show ((i : Int) + 1 - 1).toNat = i by omega, start_pg, pgOf_get C hi]
      rw [e]
      have m1 := (h.cAt hi).1
      have m2 := (h.lAt hi).1
      rw [lasOf_get C hi] at m2
      generalize C.getD i 0 = c at *
      have s1 : IntKind.i64.wrap (i : Int) = (i : Int) := wrapI (by omega) (by omega)
      have s2 : wrap64 (i : Int) = (i : Int) := by unfold wrap64; omega
      have hiI : (i : Int) < (C.length : Int) := by omega
      clear h e
      generalize C.length = n at *
      by_cases hc : c = 0
      · subst hc
        have e0 : decide ((0 : Int) < 0) = false := by decide
        rw [e0] at m2 ⊢
        go_enter Tryz.func36, Tryz.ntmps36
        go_wp2
        go_ret
        exact ⟨rfl, rfl⟩
      · have e0 : (c == 0) = false := by simp [hc]
        cases hd : decide (0 < c) with
        | true =>
          rw [hd] at m2
          have e1 : stt (c, true) = 4 := by unfold stt; rw [if_neg hc]; rfl
          rw [e1]
          go_enter Tryz.func36, Tryz.ntmps36
          go_wp2
          go_ret
          exact ⟨rfl, rfl⟩
        | false =>
          rw [hd] at m2
          have e1 : stt (c, false) = 3 := by unfold stt; rw [if_neg hc]; rfl
          rw [e1]
          go_enter Tryz.func36, Tryz.ntmps36
          go_wp2
          go_ret
          exact ⟨rfl, rfl⟩
end Go.Proofs.YtceeeofkigkpkaaGreat

namespace Go.Proofs.YtceeeofkigkpkaaGreat
set_option linter.unusedVariables false
open Go.RowKit

/-! ### the document's Pages; PoolMakes -/
def yp (P : Po) (z : Int) (k : Nat) : List Int := ((List.range k).filter fun (i : Nat) => decide (((P.state (((i : Nat) : Int) + 1) : Nat) : Int) = z)).map fun (i : Nat) => ((i : Nat) : Int) + 1
theorem yp_succ (P : Po) (z : Int) (k : Nat) : yp P z (k + 1) = yp P z k ++ (if ((P.state ((k : Int) + 1) : Nat) : Int) = z then [(k : Int) + 1] else []) := by
  unfold yp
  rw [List.range_succ, List.filter_append, List.map_append]
  congr 1
  by_cases h : ((P.state ((k : Int) + 1) : Nat) : Int) = z
  · rw [if_pos h]; simp [h]
  · rw [if_neg h]; simp [h]
theorem yp_len (P : Po) (z : Int) (k : Nat) : (yp P z k).length ≤ k := by
  unfold yp
  rw [List.length_map]
  exact Nat.le_trans (List.length_filter_le _ _) (by simp)
theorem yp_pages (P : Po) (z : Int) : yp P z P.pg.length = P.pages z := by
  have hs : ∀ i, i < P.pg.length → P.state ((i : Int) + 1) = stt (P.pg.getD i Pg.zero) := fun i hi => by
    unfold Po.state
    rw [if_pos (Po.has_iff.2 ⟨by omega, by omega⟩), show ((i : Int) + 1 - 1).toNat = i by omega]
  unfold Po.pages yp
  by_cases h : 1 ≤ z ∧ z ≤ 4
  · rw [if_pos h]
    unfold pagesOf
    congr 1
    refine List.filter_congr fun i hi => ?_
    rw [hs i (List.mem_range.1 hi)]
    congr 1
    apply propext
    constructor
    · intro e; omega
    · intro e; omega
  · rw [if_neg h]
    rw [List.filter_eq_nil_iff.2]
    · rfl
    · intro i hi
      rw [hs i (List.mem_range.1 hi)]
      have := stt_pos (P.pg.getD i Pg.zero)
      simp only [decide_eq_true_eq]
      omega
set_option maxHeartbeats 4000000 in
theorem yPages_any (w : World) (q : Nat) (r : Int) (C : List Int) (cb lb : Nat) (h : Rp w q r C (lasOf C) cb lb) (hl : C.length ≤ 65536) (z : Int) : Calls Tryz.prog 38 #[.pointer (some ⟨q, 0, none⟩), .int .i64 z] w fun e w' => ∃ a' c', e = .returned (.slice a' ((Po.start r C).pages z).length c') ∧ IOwn w w' a' c' ((Po.start r C).pages z) := by
  rw [← yp_pages, start_len]
  have SA := hide fun (W : World) (hb : Below w.heap.size w W) (x : Int) => yState_any W q r C cb lb (h.keep hb) hl x
  have CE := hide fun (W : World) (hb : Below w.heap.size w W) => (h.keep hb).cell.2.1
  generalize Po.start r C = P at *
  generalize C.length = n at *
  have O0 := hide (show IOwn w (w.alloc (.cells #[] 3)) (some ⟨w.heap.size, 0, none⟩) 0 (yp P z 0) from ⟨Ig.mk (cur := #[]) (World.alloc_heap_new w _) (by simp [yp]) (by unfold maxLen; omega) rfl (by simp [yp, vi]), fun x hx => .inr (by cases hx; exact Nat.le_refl _), al _ _⟩)
  clear h
  go_enter Tryz.func38, Tryz.ntmps38
  go_wp2_with fail
  go_loopw [5, 6] (fun s i wr => ∃ (j : Nat) (a' : Option Addr) (c' : Nat), j ≤ n ∧ i = .int .i64 ((j : Int) + 1) ∧ s = .slice a' (yp P z j).length c' ∧ IOwn w wr a' c' (yp P z j)) (fun _ i _ => n - (intOf i - 1).toNat)
  case atStart => exact ⟨0, _, 0, Nat.zero_le _, rfl, rfl, O0.out⟩
  case round =>
    clear O0
    obtain ⟨j, a', c', hj, rfl, rfl, hO⟩ := hrel
    have O := hide hO
    clear hO
    have c1 := CE.out _ O.out.b
    by_cases hlt : j < n
    · have d1 : decide ((j : Int) + 1 ≤ (n : Int)) = true := decide_eq_true (by omega)
      have hle : (j : Int) + 1 ≤ (n : Int) := by omega
      have S1 := hide (SA.out _ O.out.b ((j : Int) + 1))
      have SN := hide (yp_succ P z j)
      have s1 : IntKind.i64.wrap ((j : Int) + 1 + 1) = (j : Int) + 1 + 1 := wrapI (by omega) (by omega)
      have s2 : wrap64 ((j : Int) + 1 + 1) = (j : Int) + 1 + 1 := by unfold wrap64; omega
      have yl := yp_len P z j
      obtain ⟨L, hL⟩ : ∃ L, yp P z j = L := ⟨_, rfl⟩
      rw [hL] at O SN yl ⊢
      obtain ⟨m, hm⟩ : ∃ m, L.length = m := ⟨_, rfl⟩
      have HM := hide hm
      rw [hm] at yl ⊢
      clear hL hm
      generalize P.state ((j : Int) + 1) = s at *
      by_cases hs : (s : Int) = z
      · subst hs
        rw [if_pos rfl] at SN
        have e0 : ((s : Int) == (s : Int)) = true := by simp
        have aw := al wr (.cells #[.int .i64 ((j : Int) + 1)] 3)
        have nc := cell_alloc_new wr (.int .i64 ((j : Int) + 1)) 3
        have R1 := hide (O.out.keep aw).r
        have HAW := hide aw
        clear aw
        go_wp2_with fail
        refine S1.out.mono ?_
        rintro _ wq ⟨rfl, hwq⟩
        obtain rfl := hwq.symm
        go_wp2_with (refine wpList_apI rfl _ _ rfl a' m c' L (by simp [Act.eval]) HM.out.symm R1.out ⟨wr.heap.size, 0, none⟩ 1 ((j : Int) + 1) (by simp [Act.eval]) nc (by rw [HM.out]; omega) ?_; intro g c2 w2 hR hN hg hgl; have O2 := hide (O.out.step HAW.out hR hN hg); clear hR hN hg hgl)
        go_roundw
        case rel => exact ⟨j + 1, _, c2, by omega, by go_num, by rw [SN.out, List.length_append, HM.out]; rfl, by rw [SN.out]; exact O2.out⟩
        case measure => simp [intOf]; omega
      · rw [if_neg hs, List.append_nil] at SN
        have e0 : ((s : Int) == z) = false := by simp [hs]
        go_wp2_with fail
        refine S1.out.mono ?_
        rintro _ wq ⟨rfl, hwq⟩
        obtain rfl := hwq.symm
        go_wp2
        go_roundw
        case rel => exact ⟨j + 1, a', c', by omega, by go_num, by rw [SN.out, HM.out], by rw [SN.out]; exact O.out⟩
        case measure => simp [intOf]; omega
    · obtain rfl : j = n := by omega
      have d1 : decide ((j : Int) + 1 ≤ (j : Int)) = false := decide_eq_false (by omega)
      obtain ⟨m, hm⟩ : ∃ m, (yp P z j).length = m := ⟨_, rfl⟩
      have HM := hide hm
      rw [hm]
      clear hm
      go_wp2
      go_ret
      exact ⟨a', c', by rw [HM.out]; rfl, O.out⟩
end Go.Proofs.YtceeeofkigkpkaaGreat

namespace Go.Proofs.YtceeeofkigkpkaaGreat
set_option linter.unusedVariables false
open Go.RowKit

/-! ### PoolMakes -/
theorem start_rf (r : Int) (C : List Int) : (Po.start r C).rf = r := rfl
theorem wl_all (xs : List Int) : wl xs (-1) = xs := by unfold wl; rw [if_pos (by decide)]
theorem count_out {P : Po} {z : Int} (h : z < 1 ∨ (P.pg.length : Int) < z) : P.count z = 0 := by
  unfold Po.count; rw [if_neg (fun e => by have := Po.has_iff.1 e; omega)]
theorem state_out {P : Po} {z : Int} (h : z < 1 ∨ (P.pg.length : Int) < z) : P.state z = 0 := by
  unfold Po.state; rw [if_neg (fun e => by have := Po.has_iff.1 e; omega)]
set_option maxHeartbeats 8000000 in
set_option maxRecDepth 8000 in
theorem likely_any (w : World) (b q : Nat) (r : Int) (C : List Int) (col : Nat → Nat) (cb lb : Nat) (hP : Pl w b (Po.start r C) col) (hR : Rp w q r C (lasOf C) cb lb) :
    Calls Tryz.prog 11 #[.pointer (some ⟨b, 0, none⟩), .pointer (some ⟨q, 0, none⟩)] w fun e w' => e = .returned (.bool true) ∧ Below w.heap.size w w' := by
  have hl : C.length ≤ 65536 := by have := hP.ok.l2; rwa [start_len] at this
  have LP := hide fun (W : World) (hb : Below w.heap.size w W) => Len_pl W b _ col (hP.keep hb)
  have RP := hide fun (W : World) (hb : Below w.heap.size w W) => Refs_pl W b _ col (hP.keep hb)
  have MP := hide fun (W : World) (hb : Below w.heap.size w W) => Mark_pl W b _ col (hP.keep hb) (by rw [start_mark]; omega)
  have CP := hide fun (W : World) (hb : Below w.heap.size w W) => Counts_any W b _ col (hP.keep hb)
  have TP := hide fun (W : World) (hb : Below w.heap.size w W) (z : Int) => Tally_any W b _ col (hP.keep hb) z
  have WP := hide fun (W : World) (hb : Below w.heap.size w W) (z : Int) => walked_any W b _ col (hP.keep hb) z (-1)
  have C0 := hide fun (W : World) (hb : Below w.heap.size w W) => Count_pl W b _ col (hP.keep hb) 0
  have S0 := hide fun (W : World) (hb : Below w.heap.size w W) => State_pl W b _ col (hP.keep hb) 0
  have C1 := hide fun (W : World) (hb : Below w.heap.size w W) => Count_pl W b _ col (hP.keep hb) ((C.length : Int) + 1)
  have S1 := hide fun (W : World) (hb : Below w.heap.size w W) => State_pl W b _ col (hP.keep hb) ((C.length : Int) + 1)
  have LR := hide fun (W : World) (hb : Below w.heap.size w W) => yLen_any W q r C _ cb lb (hR.keep hb)
  have RR := hide fun (W : World) (hb : Below w.heap.size w W) => yRefs_any W q r C _ cb lb (hR.keep hb)
  have MR := hide fun (W : World) (hb : Below w.heap.size w W) => yMark_any W q r C _ cb lb (hR.keep hb)
  have CR := hide fun (W : World) (hb : Below w.heap.size w W) => yCounts_any W q r C _ cb lb (hR.keep hb) hl
  have PR := hide fun (W : World) (hb : Below w.heap.size w W) (z : Int) => yPages_any W q r C cb lb (hR.keep hb) hl z
  have PL := hide fun (z : Int) => Po.pages_len hP.ok z
  rw [start_len] at LP
  rw [start_rf] at RP
  rw [start_mark] at MP
  simp only [start_counts] at CP
  simp only [wl_all] at WP
  rw [count_out (.inl (by decide))] at C0
  rw [state_out (.inl (by decide))] at S0
  rw [count_out (.inr (by rw [start_len]; omega))] at C1
  rw [state_out (.inr (by rw [start_len]; omega))] at S1
  generalize Po.pages (Po.start r C) = pg at *
  have HC := hide (show C.length = C.length from rfl)
  obtain ⟨n, hn⟩ : ∃ n, C.length = n := ⟨_, rfl⟩
  have HN := hide hn
  rw [hn] at LP C1 S1 LR hl
  clear hP hR hn HC
  have e1 : ((n : Int) != (n : Int)) = false := by simp
  have e2 : (r != r) = false := by simp
  have B0 := hide (show Below w.heap.size w w from Below.refl _ _)
  go_enter Tryz.func11, Tryz.ntmps11
  go_wp2_with fail
  refine (LP.out _ B0.out).mono ?_
  rintro _ wq ⟨rfl, hwq⟩
  obtain rfl := hwq.symm
  go_wp2_with fail
  refine (LR.out _ B0.out).mono ?_
  rintro _ wq ⟨rfl, hwq⟩
  obtain rfl := hwq.symm
  go_wp2_with fail
  refine (RP.out _ B0.out).mono ?_
  rintro _ wq ⟨rfl, hwq⟩
  obtain rfl := hwq.symm
  go_wp2_with fail
  refine (RR.out _ B0.out).mono ?_
  rintro _ wq ⟨rfl, hwq⟩
  obtain rfl := hwq.symm
  go_wp2_with fail
  refine (MP.out _ B0.out).mono ?_
  rintro _ w1 ⟨rfl, hb⟩
  have B1 := hide (bt B0.out hb)
  clear hb
  go_wp2_with fail
  refine (MR.out _ B1.out).mono ?_
  rintro _ wq ⟨rfl, hwq⟩
  obtain rfl := hwq.symm
  go_wp2_with fail
  refine (CP.out _ B1.out).mono ?_
  rintro _ w2 ⟨a2, d2, rfl, hI⟩
  have R2 := hide hI.r
  have B2 := hide (bt B1.out hI.b)
  clear hI
  rw [HN.out]
  go_wp2_with fail
  refine (CR.out _ B2.out).mono ?_
  rintro _ w3 ⟨a3, d3, rfl, hI⟩
  have R3 := hide (R2.out.keep hI.b)
  have I3 := hide hI.r
  have B3 := hide (bt B2.out hI.b)
  clear hI R2
  rw [HN.out]
  have EQ := hide (EqInts_same w3 a2 a3 n n d2 d3 C R3.out.ir I3.out.ir HN.out.symm HN.out.symm (by rw [HN.out]; omega))
  go_wp2_with fail
  refine EQ.out.mono ?_
  rintro _ w4 ⟨rfl, hb⟩
  have B4 := hide (bt B3.out hb)
  clear hb EQ R3 I3 B0 B1 B2 B3
  go_wp2_with fail
  go_loopw [5, 6] (fun i s wr => ∃ (j : Nat), j ≤ 6 ∧ i = .int .i64 (j : Int) ∧ Below w.heap.size w wr) (fun i _ _ => 6 - (intOf i).toNat)
  case atStart => exact ⟨0, Nat.zero_le _, rfl, B4.out⟩
  case round =>
    clear B4
    obtain ⟨j, hj, rfl, hb⟩ := hrel
    have B := hide hb
    clear hb
    by_cases hlt : j < 6
    · have d1 : decide ((j : Int) ≤ 5) = true := decide_eq_true (by omega)
      have hle : (j : Int) ≤ 5 := by omega
      have TP' := hide fun (W : World) (hb : Below w.heap.size w W) => TP.out W hb (j : Int)
      have WP' := hide fun (W : World) (hb : Below w.heap.size w W) => WP.out W hb (j : Int)
      have PR' := hide (PR.out _ B.out (j : Int))
      have hpl := PL.out (j : Int)
      generalize pg (j : Int) = L at *
      obtain ⟨m, hm⟩ : ∃ m, L.length = m := ⟨_, rfl⟩
      have HM := hide hm
      rw [hm] at hpl TP'
      clear hm
      go_wp2_with fail
      refine PR'.out.mono ?_
      rintro _ w5 ⟨a5, d5, rfl, hI⟩
      have R5 := hide hI.r
      have B5 := hide (bt B.out hI.b)
      clear hI PR'
      rw [HM.out]
      go_wp2_with fail
      refine (TP'.out _ B5.out).mono ?_
      rintro _ w6 ⟨rfl, hb⟩
      have R6 := hide (R5.out.keep hb)
      have B6 := hide (bt B5.out hb)
      clear hb R5 TP'
      have e3 : ((m : Int) != (m : Int)) = false := by simp
      go_wp2_with fail
      refine (WP'.out _ B6.out).mono ?_
      rintro _ w7 ⟨a7, d7, rfl, hI⟩
      have R7 := hide (R6.out.keep hI.b)
      have I7 := hide hI.r
      have B7 := hide (bt B6.out hI.b)
      clear hI R6 WP'
      rw [HM.out]
      have EQ := hide (EqInts_same w7 a7 a5 m m d7 d5 L I7.out.ir R7.out.ir HM.out.symm HM.out.symm (by rw [HM.out]; omega))
      go_wp2_with fail
      refine EQ.out.mono ?_
      rintro _ w8 ⟨rfl, hb⟩
      have B8 := hide (bt B7.out hb)
      clear hb EQ R7 I7 B5 B6 B7
      go_wp2
      go_roundw
      case rel => exact ⟨j + 1, by omega, by go_num, B8.out⟩
      case measure => simp [intOf]; omega
    · obtain rfl : j = 6 := by omega
      have s1 : IntKind.i64.wrap ((n : Int) + 1) = (n : Int) + 1 := wrapI (by omega) (by omega)
      have s2 : wrap64 ((n : Int) + 1) = (n : Int) + 1 := by unfold wrap64; omega
      go_wp2_with fail
      refine (C0.out _ B.out).mono ?_
      rintro _ wq ⟨rfl, hwq⟩
      obtain rfl := hwq.symm
      go_wp2_with fail
      refine (S0.out _ B.out).mono ?_
      rintro _ w5 ⟨rfl, hb⟩
      have B5 := hide (bt B.out hb)
      clear hb
      go_wp2_with fail
      refine (LR.out _ B5.out).mono ?_
      rintro _ wq ⟨rfl, hwq⟩
      obtain rfl := hwq.symm
      go_wp2_with fail
      refine (C1.out _ B5.out).mono ?_
      rintro _ wq ⟨rfl, hwq⟩
      obtain rfl := hwq.symm
      go_wp2_with fail
      refine (LR.out _ B5.out).mono ?_
      rintro _ wq ⟨rfl, hwq⟩
      obtain rfl := hwq.symm
      go_wp2_with fail
      refine (S1.out _ B5.out).mono ?_
      rintro _ w6 ⟨rfl, hb⟩
      have B6 := hide (bt B5.out hb)
      clear hb
      go_wp2
      go_ret
      exact ⟨rfl, B6.out⟩
end Go.Proofs.YtceeeofkigkpkaaGreat
