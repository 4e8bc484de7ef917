import Derived.Test.YtkhdbeambmfdfaaP2
import Derived.BigRegion
namespace Go.Proofs.Ytkhdbeambmfdfaa
open Go.RowKit

/-- the forty marks -/
def marks : List Nat := (List.range 40).map fun k => 160 + k
theorem marks_len : marks.length = 40 := rfl
theorem marks_get (k : Nat) (h : k < 40) : marks.getD k 0 = 160 + k := by simp [marks, h]
theorem marks_lt : ∀ x ∈ marks, x < 256 := by decide

/-- a block whose first cells are the bytes of c -/
def OwnB (w : World) (g : Nat) (c : List Nat) : Prop := ∃ cur, w.heap[g]? = some (.cells cur 5 (0, 0)) ∧ ∀ i, i < c.length → cur[i]? = some (.int .u8 ((c.getD i 0 : Nat) : Int))
theorem OwnB.cell {w : World} {g : Nat} {c : List Nat} (h : OwnB w g c) {i : Nat} (hi : i < c.length) : w.cell? ⟨g, i, none⟩ = some (.int .u8 ((c.getD i 0 : Nat) : Int)) := by
  obtain ⟨cur, hg, hc⟩ := h
  rw [cell_of_row _ _ _ _ _ _ hg, hc i hi]
theorem OwnB.frozen {w : World} {g : Nat} {c : List Nat} (h : OwnB w g c) (i : Nat) : w.frozen? ⟨g, i, none⟩ = false := by
  obtain ⟨cur, hg, hc⟩ := h
  exact frozen_of_row w g i _ _ hg
theorem OwnB.lt {w : World} {g : Nat} {c : List Nat} (h : OwnB w g c) : g < w.heap.size := by
  obtain ⟨cur, hg, hc⟩ := h
  exact (Array.getElem?_eq_some_iff.1 hg).1
theorem OwnB.set {w : World} {g : Nat} {c : List Nat} (h : OwnB w g c) {i : Nat} (hi : i < c.length) (v : Nat) : OwnB (w.setCell ⟨g, i, none⟩ (.int .u8 (v : Int))) g (c.set i v) := by
  obtain ⟨cur, hg, hc⟩ := h
  refine ⟨_, heap_setCell_same w g i _ _ _ hg, ?_⟩
  intro j hj
  rw [List.length_set] at hj
  have hsz : i < cur.size := by
    have := hc i hi
    exact (Array.getElem?_eq_some_iff.1 this).1
  rw [Array.getElem?_setIfInBounds]
  by_cases e : i = j
  · subst e; simp [hsz, hi]
  · simp [e, hc j hj]
theorem OwnB.other {w : World} {g : Nat} {c : List Nat} (h : OwnB w g c) (a : Addr) (v : Value) (hne : g ≠ a.block) : OwnB (w.setCell a v) g c := by
  obtain ⟨cur, hg, hc⟩ := h
  exact ⟨cur, (heap_setCell_other w a g v hne).trans hg, hc⟩
theorem OwnB.keep {w w' : World} {g : Nat} {c : List Nat} (h : OwnB w g c) (hb : Below w.heap.size w w') : OwnB w' g c := by
  have hl := h.lt
  obtain ⟨cur, hg, hc⟩ := h
  exact ⟨cur, (hb.block g hl).trans hg, hc⟩
theorem OwnB.front {w : World} {g : Nat} {c d : List Nat} (h : OwnB w g (c ++ d)) : OwnB w g c := by
  obtain ⟨cur, hg, hc⟩ := h
  refine ⟨cur, hg, fun i hi => ?_⟩
  rw [hc i (by rw [List.length_append]; omega)]
  congr 3
  simp [List.getD, List.getElem?_append_left hi]
theorem OwnB.bs {w : World} {g : Nat} {c : List Nat} (h : OwnB w g c) (hl : ∀ x ∈ c, x < 256) (hlen : c.length ≤ 9223372036854775807) : Bs w (some ⟨g, 0, none⟩) c :=
  ⟨hl, hlen, .inr ⟨g, 0, rfl, fun i hi => by rw [Nat.zero_add]; exact h.cell hi⟩⟩
theorem ownB_row {w : World} {g : Nat} {c : List Nat} {cur : Array Value} (hg : w.heap[g]? = some (.cells cur 5 (0, 0))) (h : cur.toList.take c.length = vb c) : OwnB w g c := by
  refine ⟨cur, hg, fun i hi => ?_⟩
  have e1 : (cur.toList.take c.length)[i]? = (vb c)[i]? := by rw [h]
  rw [List.getElem?_take, if_pos (by omega)] at e1
  have e2 : (vb c)[i]? = some (.int .u8 ((c.getD i 0 : Nat) : Int)) := by simp [vb, hi]
  rw [← e2, ← e1]
  simp

set_option maxRecDepth 100000 in
set_option maxHeartbeats 1600000 in
theorem roomy_any (aa : Option Addr) (n capa : Nat) (l : List Nat) (w : World) (ha : Bs w aa l) (hn : n = l.length) (hlen : l.length + 40 ≤ 140737488355328) :
    Calls Try.prog 10 #[.slice aa n capa] w fun e w' => ∃ g cap, e = .returned (.slice (some ⟨g, 0, none⟩) l.length cap) ∧ l.length + 40 ≤ cap ∧ cap ≤ maxLen ∧ w.heap.size ≤ g ∧ OwnB w' g (l ++ marks) ∧ Below w.heap.size w w' := by
  subst hn
  obtain ⟨i0, hi, hz0, hz1, hz2⟩ := info_parts infoU8
  go_enter Try.func10, Try.ntmps10
  go_wp2_with fail
  refine (joined_row aa l.length capa l w ha rfl (by omega)).mono ?_
  rintro e w1 ⟨g0, cap0, cur0, rfl, hg0, hh0, hn0, hm0, hs0, ht0, hb1⟩
  have how : w1.ownsRow w.heap.size 5 1 (.slice (some ⟨g0, 0, none⟩) l.length cap0) l.length (vb l) := ⟨by rw [vb_length, Nat.mul_one], .inr ⟨g0, cap0, cur0, rfl, hg0, hh0, hn0, hm0, by omega, by rw [Nat.mul_one]; exact ht0⟩⟩
  clear hg0 hh0 hn0 hm0 hs0 ht0
  go_wp2
  go_loopw [3, 4] (fun v i wx => ∃ k : Nat, k ≤ 40 ∧ i = .int .i64 k ∧ wx.ownsRow w.heap.size 5 1 v (l.length + k) (vb l ++ vb (marks.take k)) ∧ Below w.heap.size w wx) (fun _ i _ => 40 - (intOf i).toNat)
  case atStart => exact ⟨0, Nat.zero_le _, rfl, by rw [Nat.add_zero, List.take_zero, show vb [] = [] from rfl, List.append_nil]; exact how, hb1⟩
  case round =>
    clear how hb1
    obtain ⟨k, hk, rfl, hown, hbel⟩ := hrel
    by_cases hlt : k < 40
    · have HS : Hid (vb (marks.take k) ++ [.int .u8 ((160 + k : Nat) : Int)] = vb (marks.take (k + 1))) := by
        have h := vb_snoc marks (k := k) hlt
        rw [marks_get k hlt] at h
        exact h
      have hw8 : IntKind.u8.wrap (160 + (k : Int)) = ((160 + k : Nat) : Int) := by rw [IntKind.wrap_u8']; omega
      generalize hx : 160 + k = x at HS hw8
      clear hx
      go_wp2_with (at_builtin; refine wpList_append_own _ rfl _ _ 25 rfl w.heap.size 5 i0 (.int .u8 0) 1 1 Try.underlying25 hi hz0 hz1 hz2 rfl (by decide) _ _ _ rfl (hown.alloc _) ⟨wr.heap.size, 0, none⟩ 1 1 [.int .u8 ((x : Nat) : Int)] rfl rfl ?c1 ?c2 ?c3 ?c4 ?c5 ?_)
      try case c1 =>
        intro j u hj
        match j, hj with
        | 0, hj => simp at hj; subst hj; simp [Addr.add]
      case c2 => first | rfl | (intro u hu; simp at hu; subst hu; rfl)
      case c3 => unfold maxLen; omega
      case c4 => omega
      case c5 => have := hbel.size; simp; omega
      intro v' w1 hown1 hgrow _
      have hbel1 := Below.own hbel hown hgrow hbel.size
      have hown2 : w1.ownsRow w.heap.size 5 1 v' (l.length + (k + 1)) (vb l ++ vb (marks.take (k + 1))) := by rw [HS.out] at hown1; rw [← Nat.add_assoc]; exact hown1
      clear hown1 hgrow hown hbel
      go_wp2
      go_roundw
      case rel => exact ⟨k + 1, by omega, by go_num, hown2, hbel1⟩
      case measure => simp [intOf]; omega
    · obtain rfl : k = 40 := by omega
      rw [show marks.take 40 = marks from rfl, ← vb_append] at hown
      obtain ⟨h1, h2⟩ := hown
      rcases h2 with ⟨_, h3⟩ | ⟨g, cap, cur, rfl, hg, hh, hn, hm, hs, ht⟩
      · omega
      · have hO : OwnB wr g (l ++ marks) := ownB_row hh (by rw [List.length_append, marks_len]; rw [Nat.mul_one] at ht; exact ht)
        have hI1 : (l.length : Int) ≤ (cap : Int) := by omega
        have hI2 : (cap : Int) ≤ 9223372036854775807 := by unfold maxLen at hm; omega
        go_wp2
        go_ret
        exact ⟨g, cap, rfl, hn, hm, hg, hO, hbel⟩
theorem getD_front (a b : List Nat) {i : Nat} (h : i < a.length) : (a ++ b).getD i 0 = a.getD i 0 := by simp [List.getD, List.getElem?_append_left h]
theorem getD_back (a b : List Nat) (i : Nat) : (a ++ b).getD (a.length + i) 0 = b.getD i 0 := by
  unfold List.getD
  rw [List.getElem?_append_right (by omega)]
  simp

set_option maxRecDepth 100000 in
set_option maxHeartbeats 1600000 in
theorem untouched_S (g cap : Nat) (b off : Nat) (l : List Nat) (capb : Nat) (w : World) (hO : OwnB w g (l ++ marks)) (hcap : l.length + 40 ≤ cap) (hm : cap ≤ maxLen) (hc : ∀ i, i < l.length → w.cell? ⟨b, off + i, none⟩ = some (.int .u8 ((l.getD i 0 : Nat) : Int))) :
    Calls Try.prog 13 #[.slice (some ⟨g, 0, none⟩) l.length cap, .slice (some ⟨b, off, none⟩) l.length capb] w fun e w' => e = .returned (.bool true) ∧ Below w.heap.size w w' := by
  have hI1 : (l.length : Int) + 40 ≤ (cap : Int) := by omega
  have hI2 : (cap : Int) ≤ 9223372036854775807 := by unfold maxLen at hm; omega
  go_enter Try.func13, Try.ntmps13
  go_wp2
  go_loopw [6] (fun i wx => ∃ k : Nat, k ≤ l.length ∧ i = .int .i64 k ∧ Below w.heap.size w wx ∧ ∀ p : Addr, p.block < w.heap.size → wx.cell? p = w.cell? p) (fun i _ => l.length - (intOf i).toNat)
  case atStart => exact ⟨0, Nat.zero_le _, rfl, Below.refl _ _, fun _ _ => rfl⟩
  case round =>
    obtain ⟨k, hk, rfl, hbel, hcell⟩ := hrel
    by_cases hlt : k < l.length
    · have hc1 := hc k hlt
      have hO1 := hO.cell (i := k) (by rw [List.length_append]; omega)
      rw [getD_front l marks hlt] at hO1
      have hB2 := hbel
      have hc2 : wr.cell? ⟨b, off + k, none⟩ = some (.int .u8 ((l.getD k 0 : Nat) : Int)) := (hcell _ (block_lt_of_cell hc1)).trans hc1
      have hO2 : wr.cell? ⟨g, k, none⟩ = some (.int .u8 ((l.getD k 0 : Nat) : Int)) := (hcell _ hO.lt).trans hO1
      have hI1 : (k : Int) < (l.length : Int) + 40 := by omega
      have Hcell := hide hcell
      clear hc1 hO1 hcell
      generalize l.getD k 0 = x at hc2 hO2
      go_wp2_with fail
      go_region
      all_goals go_wp2
      all_goals go_roundw
      case rel => exact ⟨k + 1, by omega, by go_num, hB2.drew, fun p hp => Hcell.out p hp⟩
      case measure => simp [intOf]; omega
    · obtain rfl : k = l.length := by omega
      clear hk hlt
      go_wp2
      go_loopw [7] (fun i wx => ∃ k : Nat, k ≤ 40 ∧ i = .int .i64 k ∧ Below w.heap.size w wx ∧ ∀ p : Addr, p.block < w.heap.size → wx.cell? p = w.cell? p) (fun i _ => 40 - (intOf i).toNat)
      case atStart => exact ⟨0, Nat.zero_le _, rfl, hbel, hcell⟩
      case round =>
        clear hbel hcell
        obtain ⟨k, hk, rfl, hbel, hcell⟩ := hrel
        by_cases hlt : k < 40
        · have hO1 := hO.cell (i := l.length + k) (by rw [List.length_append, marks_len]; omega)
          rw [getD_back l marks k, marks_get k hlt] at hO1
          have hO2 : wr.cell? ⟨g, l.length + k, none⟩ = some (.int .u8 ((160 + k : Nat) : Int)) := (hcell _ hO.lt).trans hO1
          have hw8 : IntKind.u8.wrap (160 + (k : Int)) = ((160 + k : Nat) : Int) := by rw [IntKind.wrap_u8']; omega
          have Hcell := hide hcell
          clear hO1 hcell
          generalize 160 + k = x at hO2 hw8
          go_wp2
          go_roundw
          case rel => exact ⟨k + 1, by omega, by go_num, hbel, Hcell.out⟩
          case measure => simp [intOf]; omega
        · obtain rfl : k = 40 := by omega
          go_wp2
          go_ret
          exact ⟨rfl, hbel⟩

set_option maxRecDepth 100000 in
set_option maxHeartbeats 1600000 in
theorem untouched_E (g cap : Nat) (ab : Option Addr) (capb : Nat) (w : World) (hO : OwnB w g ([] ++ marks)) (hcap : 0 + 40 ≤ cap) (hm : cap ≤ maxLen) :
    Calls Try.prog 13 #[.slice (some ⟨g, 0, none⟩) 0 cap, .slice ab 0 capb] w fun e w' => e = .returned (.bool true) ∧ Below w.heap.size w w' := by
  have hI1 : (0 : Int) + 40 ≤ (cap : Int) := by omega
  have hI2 : (cap : Int) ≤ 9223372036854775807 := by unfold maxLen at hm; omega
  go_enter Try.func13, Try.ntmps13
  go_wp2
  go_loopw [6] (fun i wx => ∃ k : Nat, k ≤ 0 ∧ i = .int .i64 k ∧ Below w.heap.size w wx ∧ ∀ p : Addr, p.block < w.heap.size → wx.cell? p = w.cell? p) (fun i _ => 0 - (intOf i).toNat)
  case atStart => exact ⟨0, Nat.zero_le _, rfl, Below.refl _ _, fun _ _ => rfl⟩
  case round =>
    obtain ⟨k, hk, rfl, hbel, hcell⟩ := hrel
    by_cases hlt : k < 0
    · exact absurd hlt (Nat.not_lt_zero _)
    · obtain rfl : k = 0 := by omega
      clear hk hlt
      rw [show ((0 : Nat) : Int) = 0 from rfl]
      go_wp2
      go_loopw [7] (fun i wx => ∃ k : Nat, k ≤ 40 ∧ i = .int .i64 k ∧ Below w.heap.size w wx ∧ ∀ p : Addr, p.block < w.heap.size → wx.cell? p = w.cell? p) (fun i _ => 40 - (intOf i).toNat)
      case atStart => exact ⟨0, Nat.zero_le _, rfl, hbel, hcell⟩
      case round =>
        clear hbel hcell
        obtain ⟨k, hk, rfl, hbel, hcell⟩ := hrel
        by_cases hlt : k < 40
        · have hO1 := hO.cell (i := 0 + k) (by rw [List.length_append, marks_len]; simp; omega)
          rw [show ([] ++ marks : List Nat) = marks from rfl, Nat.zero_add, marks_get k hlt] at hO1
          have hO2 : wr.cell? ⟨g, k, none⟩ = some (.int .u8 ((160 + k : Nat) : Int)) := (hcell _ hO.lt).trans hO1
          have hw8 : IntKind.u8.wrap (160 + (k : Int)) = ((160 + k : Nat) : Int) := by rw [IntKind.wrap_u8']; omega
          have Hcell := hide hcell
          clear hO1 hcell
          generalize 160 + k = x at hO2 hw8
          go_wp2
          go_roundw
          case rel => exact ⟨k + 1, by omega, by go_num, hbel, Hcell.out⟩
          case measure => simp [intOf]; omega
        · obtain rfl : k = 40 := by omega
          go_wp2
          go_ret
          exact ⟨rfl, hbel⟩

theorem untouched_any (g cap : Nat) (ab : Option Addr) (n m capb : Nat) (l : List Nat) (w : World) (hO : OwnB w g (l ++ marks)) (hcap : l.length + 40 ≤ cap) (hm : cap ≤ maxLen) (hB : Bs w ab l) (hn : n = l.length) (hm' : m = l.length) :
    Calls Try.prog 13 #[.slice (some ⟨g, 0, none⟩) n cap, .slice ab m capb] w fun e w' => e = .returned (.bool true) ∧ Below w.heap.size w w' := by
  subst hn hm'
  rcases hB.2.2 with rfl | ⟨b, off, rfl, hc⟩
  · exact untouched_E g cap ab capb w hO hcap hm
  · exact untouched_S g cap b off l capb w hO hcap hm hc
end Go.Proofs.Ytkhdbeambmfdfaa
