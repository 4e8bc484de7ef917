import Derived.Test.YtkhdbeambmfdfaaQ
namespace Go.Proofs.Ytkhdbeambmfdfaa
open Go.RowKit

set_option maxHeartbeats 1600000 in
set_option maxRecDepth 100000 in
theorem joinedN_SS (ba oa : Nat) (la : List Nat) (bb ob : Nat) (lb : List Nat) (capa capb : Nat) (w : World) (hca : ∀ i, i < la.length → w.cell? ⟨ba, oa + i, none⟩ = some (.int .u8 ((la.getD i 0 : Nat) : Int))) (hcb : ∀ i, i < lb.length → w.cell? ⟨bb, ob + i, none⟩ = some (.int .u8 ((lb.getD i 0 : Nat) : Int))) (hlen : la.length + lb.length ≤ 140737488355328) :
    Calls Try.prog 14 #[.slice (some ⟨ba, oa, none⟩) la.length capa, .slice (some ⟨bb, ob, none⟩) lb.length capb] w fun e w' => ∃ v, e = .returned v ∧ v ≠ .slice none 0 0 ∧ Owns w.heap.size w' v (la ++ lb) ∧ Below w.heap.size w w' := by
  obtain ⟨i0, hi, hz0, hz1, hz2⟩ := info_parts infoU8
  go_enter Try.func14, Try.ntmps14
  go_wp2
  go_loopw [5, 6] (fun v i wx => ∃ k : Nat, k ≤ la.length ∧ i = .int .i64 k ∧ wx.ownsRow w.heap.size 5 1 v k (vb (la.take k)) ∧ Below w.heap.size w wx ∧ v ≠ .slice none 0 0) (fun _ i _ => la.length - (intOf i).toNat)
  case atStart => exact ⟨0, Nat.zero_le _, rfl, ⟨rfl, .inr ⟨w.heap.size, 0, #[], rfl, Nat.le_refl _, heap_alloc_new _ _, Nat.le_refl _, Nat.zero_le _, rfl, rfl⟩⟩, (Below.refl _ _).alloc (Nat.le_refl _) _, by simp⟩
  case round =>
    obtain ⟨k, hk, rfl, hown, hbel, hnn⟩ := hrel
    by_cases hlt : k < la.length
    · have hold := hca k hlt
      have hc0 : wr.cell? ⟨ba, oa + k, none⟩ = some (.int .u8 ((la.getD k 0 : Nat) : Int)) := (hbel.cell (p := ⟨ba, oa + k, none⟩) (block_lt_of_cell hold)).trans hold
      have HS : Hid (vb (la.take k) ++ [.int .u8 ((la.getD k 0 : Nat) : Int)] = vb (la.take (k + 1))) := vb_snoc la hlt
      clear hold
      generalize la.getD k 0 = x at hc0 HS
      go_wp2_with (at_builtin; refine wpList_append_own _ rfl _ _ 25 rfl w.heap.size 5 i0 (.int .u8 0) 1 1 Try.underlying25 hi hz0 hz1 hz2 rfl (by decide) _ _ _ rfl (hown.alloc _) ⟨wr.heap.size, 0, none⟩ 1 1 [.int .u8 ((x : Nat) : Int)] rfl rfl ?c1 ?c2 ?c3 ?c4 ?c5 ?_)
      try case c1 =>
        intro j u hj
        match j, hj with
        | 0, hj => simp at hj; subst hj; simp [Addr.add]
      case c2 => first | rfl | (intro u hu; simp at hu; subst hu; rfl)
      case c3 => unfold maxLen; omega
      case c4 => omega
      case c5 => have := hbel.size; simp; omega
      intro v' w1 hown1 hgrow hiff
      have hbel1 := Below.own hbel hown hgrow hbel.size
      have hown2 : w1.ownsRow w.heap.size 5 1 v' (k + 1) (vb (la.take (k + 1))) := by rw [HS.out] at hown1; exact hown1
      have hnn1 : v' ≠ .slice none 0 0 := by first | exact hiff | (intro h; exact hnn (hiff.1 h).1)
      clear hown1 hgrow hown hbel hc0 hiff hnn
      go_wp2
      go_roundw
      case rel => exact ⟨k + 1, by omega, by go_num, hown2, hbel1, hnn1⟩
      case measure => simp [intOf]; omega
    · obtain rfl : k = la.length := by omega
      have how : wr.ownsRow w.heap.size 5 1 u5 la.length (vb la) := by rw [List.take_length] at hown; exact hown
      clear hown hk hlt
      go_wp2
      go_loopw [5, 7] (fun v i wx => ∃ k : Nat, k ≤ lb.length ∧ i = .int .i64 k ∧ wx.ownsRow w.heap.size 5 1 v (la.length + k) (vb la ++ vb (lb.take k)) ∧ Below w.heap.size w wx ∧ v ≠ .slice none 0 0) (fun _ i _ => lb.length - (intOf i).toNat)
      case atStart => exact ⟨0, Nat.zero_le _, rfl, by rw [Nat.add_zero, List.take_zero, show vb [] = [] from rfl, List.append_nil]; exact how, hbel, hnn⟩
      case round =>
        clear how hbel hnn
        obtain ⟨k, hk, rfl, hown, hbel, hnn⟩ := hrel
        by_cases hlt : k < lb.length
        · have hold := hcb k hlt
          have hc0 : wr.cell? ⟨bb, ob + k, none⟩ = some (.int .u8 ((lb.getD k 0 : Nat) : Int)) := (hbel.cell (p := ⟨bb, ob + k, none⟩) (block_lt_of_cell hold)).trans hold
          have HS : Hid (vb (lb.take k) ++ [.int .u8 ((lb.getD k 0 : Nat) : Int)] = vb (lb.take (k + 1))) := vb_snoc lb hlt
          clear hold
          generalize lb.getD k 0 = x at hc0 HS
          go_wp2_with (at_builtin; refine wpList_append_own _ rfl _ _ 25 rfl w.heap.size 5 i0 (.int .u8 0) 1 1 Try.underlying25 hi hz0 hz1 hz2 rfl (by decide) _ _ _ rfl (hown.alloc _) ⟨wr.heap.size, 0, none⟩ 1 1 [.int .u8 ((x : Nat) : Int)] rfl rfl ?c1 ?c2 ?c3 ?c4 ?c5 ?_)
          try case c1 =>
            intro j u hj
            match j, hj with
            | 0, hj => simp at hj; subst hj; simp [Addr.add]
          case c2 => first | rfl | (intro u hu; simp at hu; subst hu; rfl)
          case c3 => unfold maxLen; omega
          case c4 => omega
          case c5 => have := hbel.size; simp; omega
          intro v' w1 hown1 hgrow hiff
          have hbel1 := Below.own hbel hown hgrow hbel.size
          have hown2 : w1.ownsRow w.heap.size 5 1 v' (la.length + (k + 1)) (vb la ++ vb (lb.take (k + 1))) := by rw [HS.out] at hown1; rw [← Nat.add_assoc]; exact hown1
          have hnn1 : v' ≠ .slice none 0 0 := by first | exact hiff | (intro h; exact hnn (hiff.1 h).1)
          clear hown1 hgrow hown hbel hc0 hiff hnn
          go_wp2
          go_roundw
          case rel => exact ⟨k + 1, by omega, by go_num, hown2, hbel1, hnn1⟩
          case measure => simp [intOf]; omega
        · obtain rfl : k = lb.length := by omega
          go_wp2
          go_ret
          exact ⟨_, rfl, hnn, by rw [List.take_length] at hown; unfold Owns; rw [vb_append, List.length_append]; exact hown, hbel⟩

set_option maxHeartbeats 1600000 in
set_option maxRecDepth 100000 in
theorem joinedN_SE (ba oa : Nat) (la : List Nat) (ab : Option Addr) (capa capb : Nat) (w : World) (hca : ∀ i, i < la.length → w.cell? ⟨ba, oa + i, none⟩ = some (.int .u8 ((la.getD i 0 : Nat) : Int))) (hlen : la.length + 0 ≤ 140737488355328) :
    Calls Try.prog 14 #[.slice (some ⟨ba, oa, none⟩) la.length capa, .slice ab 0 capb] w fun e w' => ∃ v, e = .returned v ∧ v ≠ .slice none 0 0 ∧ Owns w.heap.size w' v la ∧ Below w.heap.size w w' := by
  obtain ⟨i0, hi, hz0, hz1, hz2⟩ := info_parts infoU8
  go_enter Try.func14, Try.ntmps14
  go_wp2
  go_loopw [5, 6] (fun v i wx => ∃ k : Nat, k ≤ la.length ∧ i = .int .i64 k ∧ wx.ownsRow w.heap.size 5 1 v k (vb (la.take k)) ∧ Below w.heap.size w wx ∧ v ≠ .slice none 0 0) (fun _ i _ => la.length - (intOf i).toNat)
  case atStart => exact ⟨0, Nat.zero_le _, rfl, ⟨rfl, .inr ⟨w.heap.size, 0, #[], rfl, Nat.le_refl _, heap_alloc_new _ _, Nat.le_refl _, Nat.zero_le _, rfl, rfl⟩⟩, (Below.refl _ _).alloc (Nat.le_refl _) _, by simp⟩
  case round =>
    obtain ⟨k, hk, rfl, hown, hbel, hnn⟩ := hrel
    by_cases hlt : k < la.length
    · have hold := hca k hlt
      have hc0 : wr.cell? ⟨ba, oa + k, none⟩ = some (.int .u8 ((la.getD k 0 : Nat) : Int)) := (hbel.cell (p := ⟨ba, oa + k, none⟩) (block_lt_of_cell hold)).trans hold
      have HS : Hid (vb (la.take k) ++ [.int .u8 ((la.getD k 0 : Nat) : Int)] = vb (la.take (k + 1))) := vb_snoc la hlt
      clear hold
      generalize la.getD k 0 = x at hc0 HS
      go_wp2_with (at_builtin; refine wpList_append_own _ rfl _ _ 25 rfl w.heap.size 5 i0 (.int .u8 0) 1 1 Try.underlying25 hi hz0 hz1 hz2 rfl (by decide) _ _ _ rfl (hown.alloc _) ⟨wr.heap.size, 0, none⟩ 1 1 [.int .u8 ((x : Nat) : Int)] rfl rfl ?c1 ?c2 ?c3 ?c4 ?c5 ?_)
      try case c1 =>
        intro j u hj
        match j, hj with
        | 0, hj => simp at hj; subst hj; simp [Addr.add]
      case c2 => first | rfl | (intro u hu; simp at hu; subst hu; rfl)
      case c3 => unfold maxLen; omega
      case c4 => omega
      case c5 => have := hbel.size; simp; omega
      intro v' w1 hown1 hgrow hiff
      have hbel1 := Below.own hbel hown hgrow hbel.size
      have hown2 : w1.ownsRow w.heap.size 5 1 v' (k + 1) (vb (la.take (k + 1))) := by rw [HS.out] at hown1; exact hown1
      have hnn1 : v' ≠ .slice none 0 0 := by first | exact hiff | (intro h; exact hnn (hiff.1 h).1)
      clear hown1 hgrow hown hbel hc0 hiff hnn
      go_wp2
      go_roundw
      case rel => exact ⟨k + 1, by omega, by go_num, hown2, hbel1, hnn1⟩
      case measure => simp [intOf]; omega
    · obtain rfl : k = la.length := by omega
      have how : wr.ownsRow w.heap.size 5 1 u5 la.length (vb la) := by rw [List.take_length] at hown; exact hown
      clear hown hk hlt
      go_wp2
      go_loopw [5, 7] (fun v i wx => ∃ k : Nat, k ≤ 0 ∧ i = .int .i64 k ∧ wx.ownsRow w.heap.size 5 1 v (la.length + k) (vb la ++ vb (([] : List Nat).take k)) ∧ Below w.heap.size w wx ∧ v ≠ .slice none 0 0) (fun _ i _ => 0 - (intOf i).toNat)
      case atStart => exact ⟨0, Nat.zero_le _, rfl, by rw [Nat.add_zero, List.take_zero, show vb [] = [] from rfl, List.append_nil]; exact how, hbel, hnn⟩
      case round =>
        clear how hbel hnn
        obtain ⟨k, hk, rfl, hown, hbel, hnn⟩ := hrel
        by_cases hlt : k < 0
        · exact absurd hlt (Nat.not_lt_zero _)
        · obtain rfl : k = 0 := by omega
          go_wp2
          go_ret
          exact ⟨_, rfl, hnn, by rw [List.take_nil, show vb [] = [] from rfl, List.append_nil] at hown; exact hown, hbel⟩

set_option maxHeartbeats 1600000 in
set_option maxRecDepth 100000 in
theorem joinedN_ES (aa : Option Addr) (bb ob : Nat) (lb : List Nat) (capa capb : Nat) (w : World) (hcb : ∀ i, i < lb.length → w.cell? ⟨bb, ob + i, none⟩ = some (.int .u8 ((lb.getD i 0 : Nat) : Int))) (hlen : 0 + lb.length ≤ 140737488355328) :
    Calls Try.prog 14 #[.slice aa 0 capa, .slice (some ⟨bb, ob, none⟩) lb.length capb] w fun e w' => ∃ v, e = .returned v ∧ v ≠ .slice none 0 0 ∧ Owns w.heap.size w' v lb ∧ Below w.heap.size w w' := by
  obtain ⟨i0, hi, hz0, hz1, hz2⟩ := info_parts infoU8
  go_enter Try.func14, Try.ntmps14
  go_wp2
  go_loopw [5, 6] (fun v i wx => ∃ k : Nat, k ≤ 0 ∧ i = .int .i64 k ∧ wx.ownsRow w.heap.size 5 1 v k (vb (([] : List Nat).take k)) ∧ Below w.heap.size w wx ∧ v ≠ .slice none 0 0) (fun _ i _ => 0 - (intOf i).toNat)
  case atStart => exact ⟨0, Nat.zero_le _, rfl, ⟨rfl, .inr ⟨w.heap.size, 0, #[], rfl, Nat.le_refl _, heap_alloc_new _ _, Nat.le_refl _, Nat.zero_le _, rfl, rfl⟩⟩, (Below.refl _ _).alloc (Nat.le_refl _) _, by simp⟩
  case round =>
    obtain ⟨k, hk, rfl, hown, hbel, hnn⟩ := hrel
    by_cases hlt : k < 0
    · exact absurd hlt (Nat.not_lt_zero _)
    · obtain rfl : k = 0 := by omega
      have how : wr.ownsRow w.heap.size 5 1 u5 0 (vb ([] : List Nat)) := by exact hown
      clear hown hk hlt
      rw [show ((0 : Nat) : Int) = 0 from rfl]
      go_wp2
      go_loopw [5, 7] (fun v i wx => ∃ k : Nat, k ≤ lb.length ∧ i = .int .i64 k ∧ wx.ownsRow w.heap.size 5 1 v (k) (vb (lb.take k)) ∧ Below w.heap.size w wx ∧ v ≠ .slice none 0 0) (fun _ i _ => lb.length - (intOf i).toNat)
      case atStart => exact ⟨0, Nat.zero_le _, rfl, how, hbel, hnn⟩
      case round =>
        clear how hbel hnn
        obtain ⟨k, hk, rfl, hown, hbel, hnn⟩ := hrel
        by_cases hlt : k < lb.length
        · have hold := hcb k hlt
          have hc0 : wr.cell? ⟨bb, ob + k, none⟩ = some (.int .u8 ((lb.getD k 0 : Nat) : Int)) := (hbel.cell (p := ⟨bb, ob + k, none⟩) (block_lt_of_cell hold)).trans hold
          have HS : Hid (vb (lb.take k) ++ [.int .u8 ((lb.getD k 0 : Nat) : Int)] = vb (lb.take (k + 1))) := vb_snoc lb hlt
          clear hold
          generalize lb.getD k 0 = x at hc0 HS
          go_wp2_with (at_builtin; refine wpList_append_own _ rfl _ _ 25 rfl w.heap.size 5 i0 (.int .u8 0) 1 1 Try.underlying25 hi hz0 hz1 hz2 rfl (by decide) _ _ _ rfl (hown.alloc _) ⟨wr.heap.size, 0, none⟩ 1 1 [.int .u8 ((x : Nat) : Int)] rfl rfl ?c1 ?c2 ?c3 ?c4 ?c5 ?_)
          try case c1 =>
            intro j u hj
            match j, hj with
            | 0, hj => simp at hj; subst hj; simp [Addr.add]
          case c2 => first | rfl | (intro u hu; simp at hu; subst hu; rfl)
          case c3 => unfold maxLen; omega
          case c4 => omega
          case c5 => have := hbel.size; simp; omega
          intro v' w1 hown1 hgrow hiff
          have hbel1 := Below.own hbel hown hgrow hbel.size
          have hown2 : w1.ownsRow w.heap.size 5 1 v' (k + 1) (vb (lb.take (k + 1))) := by rw [HS.out] at hown1; exact hown1
          have hnn1 : v' ≠ .slice none 0 0 := by first | exact hiff | (intro h; exact hnn (hiff.1 h).1)
          clear hown1 hgrow hown hbel hc0 hiff hnn
          go_wp2
          go_roundw
          case rel => exact ⟨k + 1, by omega, by go_num, hown2, hbel1, hnn1⟩
          case measure => simp [intOf]; omega
        · obtain rfl : k = lb.length := by omega
          go_wp2
          go_ret
          exact ⟨_, rfl, hnn, by rw [List.take_length] at hown; exact hown, hbel⟩

set_option maxHeartbeats 1600000 in
set_option maxRecDepth 100000 in
theorem joinedN_EE (aa : Option Addr) (ab : Option Addr) (capa capb : Nat) (w : World) (_hlen : 0 + 0 ≤ 140737488355328) :
    Calls Try.prog 14 #[.slice aa 0 capa, .slice ab 0 capb] w fun e w' => ∃ v, e = .returned v ∧ v ≠ .slice none 0 0 ∧ Owns w.heap.size w' v ([] : List Nat) ∧ Below w.heap.size w w' := by
  obtain ⟨i0, hi, hz0, hz1, hz2⟩ := info_parts infoU8
  go_enter Try.func14, Try.ntmps14
  go_wp2
  go_loopw [5, 6] (fun v i wx => ∃ k : Nat, k ≤ 0 ∧ i = .int .i64 k ∧ wx.ownsRow w.heap.size 5 1 v k (vb (([] : List Nat).take k)) ∧ Below w.heap.size w wx ∧ v ≠ .slice none 0 0) (fun _ i _ => 0 - (intOf i).toNat)
  case atStart => exact ⟨0, Nat.zero_le _, rfl, ⟨rfl, .inr ⟨w.heap.size, 0, #[], rfl, Nat.le_refl _, heap_alloc_new _ _, Nat.le_refl _, Nat.zero_le _, rfl, rfl⟩⟩, (Below.refl _ _).alloc (Nat.le_refl _) _, by simp⟩
  case round =>
    obtain ⟨k, hk, rfl, hown, hbel, hnn⟩ := hrel
    by_cases hlt : k < 0
    · exact absurd hlt (Nat.not_lt_zero _)
    · obtain rfl : k = 0 := by omega
      have how : wr.ownsRow w.heap.size 5 1 u5 0 (vb ([] : List Nat)) := by exact hown
      clear hown hk hlt
      rw [show ((0 : Nat) : Int) = 0 from rfl]
      go_wp2
      go_loopw [5, 7] (fun v i wx => ∃ k : Nat, k ≤ 0 ∧ i = .int .i64 k ∧ wx.ownsRow w.heap.size 5 1 v (k) (vb (([] : List Nat).take k)) ∧ Below w.heap.size w wx ∧ v ≠ .slice none 0 0) (fun _ i _ => 0 - (intOf i).toNat)
      case atStart => exact ⟨0, Nat.zero_le _, rfl, how, hbel, hnn⟩
      case round =>
        clear how hbel hnn
        obtain ⟨k, hk, rfl, hown, hbel, hnn⟩ := hrel
        by_cases hlt : k < 0
        · exact absurd hlt (Nat.not_lt_zero _)
        · obtain rfl : k = 0 := by omega
          go_wp2
          go_ret
          exact ⟨_, rfl, hnn, by exact hown, hbel⟩


theorem joinedN_any (aa ab : Option Addr) (n m capa capb : Nat) (la lb : List Nat) (w : World) (ha : Bs w aa la) (hb : Bs w ab lb) (hn : n = la.length) (hm : m = lb.length) (hlen : la.length + lb.length ≤ 140737488355328) :
    Calls Try.prog 14 #[.slice aa n capa, .slice ab m capb] w fun e w' => ∃ v, e = .returned v ∧ v ≠ .slice none 0 0 ∧ Owns w.heap.size w' v (la ++ lb) ∧ Below w.heap.size w w' := by
  subst hn hm
  rcases ha.2.2 with rfl | ⟨ba, oa, rfl, hca⟩ <;> rcases hb.2.2 with rfl | ⟨bb, ob, rfl, hcb⟩
  · exact joinedN_EE aa ab capa capb w hlen
  · exact joinedN_ES aa bb ob lb capa capb w hcb hlen
  · rw [List.append_nil]; exact joinedN_SE ba oa la ab capa capb w hca hlen
  · exact joinedN_SS ba oa la bb ob lb capa capb w hca hcb hlen

/-- what joined hands back: a block of its own -/
theorem joined_row (aa : Option Addr) (n capa : Nat) (l : List Nat) (w : World) (ha : Bs w aa l) (hn : n = l.length) (hlen : l.length ≤ 140737488355328) :
    Calls Try.prog 14 #[.slice aa n capa, .slice none 0 0] w fun e w' => ∃ g cap cur, e = .returned (.slice (some ⟨g, 0, none⟩) l.length cap) ∧ w.heap.size ≤ g ∧ w'.heap[g]? = some (.cells cur 5 (0, 0)) ∧ l.length ≤ cap ∧ cap ≤ maxLen ∧ cur.size = cap ∧ cur.toList.take l.length = vb l ∧ Below w.heap.size w w' := by
  refine (joinedN_any aa none n 0 capa 0 l [] w ha (Bs.nil w) hn rfl hlen).mono ?_
  rintro e w1 ⟨v, rfl, hnn, hown, hb⟩
  rw [List.append_nil] at hown
  rcases hown.2 with ⟨h, _⟩ | ⟨g, cap, cur, rfl, hg, hh, h1, h2, h3, h4⟩
  · exact absurd h hnn
  · exact ⟨g, cap, cur, rfl, hg, hh, h1, h2, by omega, by rw [Nat.mul_one] at h4; exact h4, hb⟩
end Go.Proofs.Ytkhdbeambmfdfaa
