import Derived.Test.YtoachodngjlpaaaDR
namespace Go.Proofs.Ytoachodngjlpaaa
set_option linter.unusedVariables false
set_option linter.unusedSimpArgs false
open Go.RowKit
/-! ### a page of letters -/
def byB (s : ByteArray) (k : Nat) : Nat := (s.data.getD k 0).toNat
theorem byB_at (s : ByteArray) (k : Nat) (h : k < s.size) : s[k].toNat = byB s k := by
  have h2 : k < s.data.size := h
  have e : s[k] = s.data[k] := rfl
  rw [e]
  unfold byB
  simp [Array.getElem?_eq_getElem h2]
theorem byB_lt (s : ByteArray) (k : Nat) : byB s k < 256 := UInt8.toNat_lt _
def leI (s : ByteArray) (k : Nat) : It := ⟨[byB s k], [byB s k, 1], 0, 2⟩
def ixI (s : ByteArray) (k : Nat) : It := ⟨if byB s k = 45 then [] else [byB s k], [], 3 + (k : Int), 0⟩
def letP (kind level : Int) (s : ByteArray) : Pg := ⟨kind, level, (List.range s.size).map (if kind = 1 then leI s else ixI s), [], 0⟩
/-- what lettered has come to -/
structure Wl (w W : World) (P : Pv) : Prop where
  p : Pn w W P
  b : Below w.heap.size w W
  x : W.heap[w.heap.size + 1]? = some (.cells P.cs 25 (0, 0))
  y : W.heap[w.heap.size]? = some (.cells Pv.zero.cs 25 (0, 0))
theorem Wl.sz {w W : World} {P : Pv} (h : Wl w W P) : w.heap.size + 1 < W.heap.size := (Array.getElem?_eq_some_iff.1 h.x).1
theorem Wl.keep {w W W' : World} {P : Pv} (h : Wl w W P) (hb : Below W.heap.size W W') : Wl w W' P :=
  ⟨h.p.keep hb, bt h.b hb, blk_keep h.x hb, blk_keep h.y hb⟩
theorem Wl.set {w W : World} {P : Pv} (h : Pn w W P) (b : Below w.heap.size w W) {cs : Array Value} (x : W.heap[w.heap.size + 1]? = some (.cells cs 25 (0, 0))) (y : W.heap[w.heap.size]? = some (.cells Pv.zero.cs 25 (0, 0))) (i : Nat) (v : Value) (e : cs.setIfInBounds i v = P.cs) : Wl w (W.setCell ⟨w.heap.size + 1, i, none⟩ v) P := by
  have hB : But (fun k => k = w.heap.size + 1) W (W.setCell ⟨w.heap.size + 1, i, none⟩ v) := But.cell1 _ _ _ _
  refine ⟨h.but hB (fun k hk => ⟨_, _, by subst hk; exact x, by decide, by decide⟩), ((But.ofBelow (S := fun k => k = w.heap.size + 1) b).trans hB (fun _ _ e => e)).below (fun k hk e => by omega), ?_, (Below.heap_setCell _ _ _ _ (show w.heap.size ≠ w.heap.size + 1 by omega)).trans y⟩
  have := heap_setCell_same W (w.heap.size + 1) i _ 25 v x
  rw [e] at this
  exact this
theorem Wl.round {w W W0 W2 : World} {P : Pv} {q : Iv} {o : Obj} {g c2 : Nat} (h : Wl w W P) (hq : Io W W0 q) (hn : N64 q.child ∧ N64 q.size) (hJ : Jw W2 (some ⟨g, 0, none⟩) c2 (P.items ++ [q])) (hN : New (W0.alloc o) P.aI (some ⟨g, 0, none⟩)) (hg : (W0.alloc o).grownBy W2 (P.aI.map Addr.block)) :
    Wl w (W2.setCell ⟨w.heap.size + 1, 2, none⟩ (.slice (some ⟨g, 0, none⟩) (P.items.length + 1) c2)) { P with aI := some ⟨g, 0, none⟩, cI := c2, items := P.items ++ [q] } ∧ W2.cell? ⟨w.heap.size + 1, 2, none⟩ = some (.slice P.aI P.items.length P.cI) ∧ W2.frozen? ⟨w.heap.size + 1, 2, none⟩ = false := by
  have b1 : Below W.heap.size W (W0.alloc o) := bt hq.k.b (al _ _)
  obtain ⟨p2, b2⟩ := h.p.add h.b hq hn (al _ o) hJ hN hg
  have k1 := h.keep b1
  have hb := k1.p.it.butg hg
  have x2 : W2.heap[w.heap.size + 1]? = _ := (hb.block (w.heap.size + 1) k1.sz (fun ⟨x, hx, e⟩ => k1.p.it.nty (show Bx (W0.alloc o) 25 (w.heap.size + 1) _ from k1.x) (by decide) hx e)).trans k1.x
  have y2 : W2.heap[w.heap.size]? = _ := (hb.block w.heap.size (by have := k1.sz; omega) (fun ⟨x, hx, e⟩ => k1.p.it.nty (show Bx (W0.alloc o) 25 w.heap.size _ from k1.y) (by decide) hx e)).trans k1.y
  refine ⟨Wl.set p2 b2 x2 y2 2 _ ?_, (cells5 x2).2.2.1, frz x2 _⟩
  simp [Pv.cs]
theorem own_at {W W0 : World} {g : Nat} {l : List Nat} (hg : W0.heap[g]? = some (.cells (vb l).toArray 5 (0, 0))) (hl : l.length ≤ 8) (hw : W.heap.size ≤ g) (hb : Below W.heap.size W W0) : Own W W0 (some ⟨g, 0, none⟩) l.length l :=
  ⟨Rw.mk hg (Nat.le_refl _) (by unfold maxLen; omega) (by simp [vb]) (by rw [List.toList_toArray]; exact List.take_of_length_le (by simp [vb])), newHere W g hw, hb⟩
/-- the item of a leaf -/
theorem io_leaf {W W0 : World} {ka va c : Nat} (hk : W0.heap[ka]? = some (.cells #[.int .u8 (c : Int)] 5 (0, 0))) (hv : W0.heap[va]? = some (.cells #[.int .u8 (c : Int), .int .u8 1] 5 (0, 0))) (h1 : W.heap.size ≤ ka) (h2 : W.heap.size ≤ va) (hn : ka ≠ va) (hb : Below W.heap.size W W0) (hc : c < 256) : Io W W0 ⟨some ⟨ka, 0, none⟩, 1, [c], some ⟨va, 0, none⟩, 2, [c, 1], 0, 2⟩ :=
  ⟨own_at (l := [c]) hk (by simp) h1 hb, own_at (l := [c, 1]) hv (by simp) h2 hb, fun x y hx hy e => (by cases hx; cases hy; exact hn e), fun x hx => (by rw [List.mem_singleton.1 hx]; exact hc), fun x hx => by simp only [List.mem_cons, List.not_mem_nil, or_false] at hx; rcases hx with rfl | rfl; exact hc; decide⟩
theorem io_index {W W0 : World} {ka c : Nat} {ch : Int} (hk : W0.heap[ka]? = some (.cells #[.int .u8 (c : Int)] 5 (0, 0))) (h1 : W.heap.size ≤ ka) (hb : Below W.heap.size W W0) (hc : c < 256) : Io W W0 ⟨some ⟨ka, 0, none⟩, 1, [c], none, 0, [], ch, 0⟩ :=
  ⟨own_at (l := [c]) hk (by simp) h1 hb, Own.nil _ hb, fun x y hx hy => (by cases hy), fun x hx => (by rw [List.mem_singleton.1 hx]; exact hc), B8.nil⟩
theorem io_dash {W W0 : World} {ch : Int} (hb : Below W.heap.size W W0) : Io W W0 ⟨none, 0, [], none, 0, [], ch, 0⟩ :=
  ⟨Own.nil _ hb, Own.nil _ hb, fun x y hx => (by cases hx), B8.nil, B8.nil⟩
set_option maxHeartbeats 8000000 in
set_option maxRecDepth 8000 in
theorem lettered_leaf (w : World) (level : Int) (s : ByteArray) (hs : s.size ≤ 8) (hlv : N64 level) :
    Calls Try.prog 31 #[.int .i64 1, .int .i64 level, .string s] w fun e w' => ∃ q : Pv, e = .returned q.vl ∧ Pn w w' q ∧ q.pg = letP 1 level s ∧ Below w.heap.size w w' := by
  have BY := hide fun (k : Nat) (h : k < s.size) => byB_at s k h
  have BL := hide fun (k : Nat) => byB_lt s k
  obtain ⟨n, hn⟩ : ∃ n, s.size = n := ⟨_, rfl⟩
  have HN := hide hn
  have U2 := two_blocks w (.cells #[.int .i64 0, .int .i64 0, .slice none 0 0, .slice none 0 0, .int .i64 0] 25) (.cells #[.int .i64 1, .int .i64 level, .slice none 0 0, .slice none 0 0, .int .i64 0] 25) (Below.refl _ _)
  have W5 : Hid (Wl w ((w.alloc (.cells #[.int .i64 0, .int .i64 0, .slice none 0 0, .slice none 0 0, .int .i64 0] 25)).alloc (.cells #[.int .i64 1, .int .i64 level, .slice none 0 0, .slice none 0 0, .int .i64 0] 25)) ⟨1, level, none, 0, [], none, 0, [], 0⟩) :=
    ⟨⟨Jw.nil _, New.none _ _, Rw.nil _, New.none _ _, (fun _ h => by cases h), List.pairwise_singleton _ _, B8.nil, (fun _ h => by cases h), by simp [N64], hlv, by simp [N64]⟩, U2.2.2.1, U2.2.1, U2.1⟩
  rw [hn] at hs
  clear U2 hlv
  go_enter Try.func31, Try.ntmps31
  go_wp2_with fail
  generalize ((w.alloc (.cells #[.int .i64 0, .int .i64 0, .slice none 0 0, .slice none 0 0, .int .i64 0] 25)).alloc (.cells #[.int .i64 1, .int .i64 level, .slice none 0 0, .slice none 0 0, .int .i64 0] 25)) = w5 at *
  go_loopw [8] (fun i wr => ∃ (k : Nat) (a : Option Addr) (c : Nat) (M : List Iv), k ≤ n ∧ i = .int .i64 (k : Int) ∧ Wl w wr ⟨1, level, a, c, M, none, 0, [], 0⟩ ∧ M.map Iv.it = (List.range k).map (leI s)) (fun i _ => n - (intOf i).toNat)
  case atStart => exact ⟨0, none, 0, [], Nat.zero_le _, rfl, W5.out, rfl⟩
  case round =>
    obtain ⟨k, a1, c1, M1, hk, rfl, hW, hM⟩ := hrel
    clear W5
    have W1 := hide hW
    have M1e := hide hM
    have L1 : Hid (M1.length = k) := by
      have := congrArg List.length hM
      show _ = _
      simpa using this
    by_cases hlt : k < n
    · have hkI : (k : Int) < (n : Int) := by omega
      have hks : k < s.size := by rw [hn]; exact hlt
      have hc := BY.out k hks
      have hcl := BL.out k
      have TJ : Hid ((List.range (k + 1)).map (leI s) = (List.range k).map (leI s) ++ [leI s k]) := by show _ = _; rw [List.range_succ, List.map_append]; rfl
      have FK : Hid (leI s k = ⟨[byB s k], [byB s k, 1], 0, 2⟩) := rfl
      obtain ⟨c, hcc⟩ : ∃ c, byB s k = c := ⟨_, rfl⟩
      rw [hcc] at hc hcl FK
      have hszw := hW.sz
      clear hW hM hcc
      clear BY BL
      have hd : ((c : Int) != 45) = !decide (c = 45) := by by_cases h : c = 45 <;> simp [h] <;> omega
      by_cases h45 : c = 45
      · rw [decide_eq_true h45] at hd
        simp only [Bool.not_true] at hd
        clear h45
        go_wp2_with fail
        have B5 := hide (show Below wr.heap.size wr (wr.alloc (.cells #[.slice none 0 0, .slice none 0 0, .int .i64 (3 + (k : Int)), .int .i64 0] 29)) from al _ _)
        have T5 := hide (show (wr.alloc (.cells #[.slice none 0 0, .slice none 0 0, .int .i64 (3 + (k : Int)), .int .i64 0] 29)).heap[wr.heap.size]? = some (.cells #[.slice none 0 0, .slice none 0 0, .int .i64 (3 + (k : Int)), .int .i64 0] 29 (0, 0)) from heap_alloc_new _ _)
        generalize (wr.alloc (.cells #[.slice none 0 0, .slice none 0 0, .int .i64 (3 + (k : Int)), .int .i64 0] 29)) = w5b at *
        have h5s : wr.heap.size < w5b.heap.size := (Array.getElem?_eq_some_iff.1 T5.out).1
        refine wp_region_held_drew (S := fun W => True) (by kernel_rfl) (trivial) (fun hHeld => ?_)
        refine wpAnyH_take (i := 0) (v := ?vaa0) rfl (by kernel_rfl) (by kernel_rfl) (by kernel_rfl) (fun _ _ _ h => h) (Or.inl ⟨by rfl, ?hya0⟩) (by assumption) ?raa0
        case hya0 => (intro wq hSw; (try dsimp only at hSw); go_simp <;> with_reducible rfl)
        try simp only [Act.put, List.getElem_toArray, List.getElem_cons_zero, List.setIfInBounds_toArray, List.set_cons_zero, List.set_cons_succ]
        refine wpAnyH_take (i := 1) (v := ?vaa1) rfl (by kernel_rfl) (by kernel_rfl) (by kernel_rfl) (fun _ _ _ h => h) (Or.inl ⟨by rfl, ?hya1⟩) (by assumption) ?raa1
        case hya1 => (intro wq hSw; (try dsimp only at hSw); go_simp <;> with_reducible rfl)
        try simp only [Act.put, List.getElem_toArray, List.getElem_cons_zero, List.getElem_cons_succ, List.setIfInBounds_toArray, List.set_cons_zero, List.set_cons_succ]
        refine wpAnyH_take (i := 2) (v := ?vaa2) rfl (by kernel_rfl) (by kernel_rfl) (by kernel_rfl) (fun _ _ _ h => h) (Or.inl ⟨by rfl, ?hya2⟩) (by assumption) ?raa2
        case hya2 => (intro wq hSw; (try dsimp only at hSw); go_simp <;> with_reducible rfl)
        try simp only [Act.put, List.getElem_toArray, List.getElem_cons_zero, List.getElem_cons_succ, List.setIfInBounds_toArray, List.set_cons_zero, List.set_cons_succ]
        refine wpAnyH_take (i := 4) (v := ?vaa4) rfl (by kernel_rfl) (by kernel_rfl) (by kernel_rfl) (fun _ _ _ h => h) (Or.inl ⟨by rfl, ?hya4⟩) (by assumption) ?raa4
        case hya4 => (intro wq hSw; (try dsimp only at hSw); go_simp <;> with_reducible rfl)
        try simp only [Act.put, List.getElem_toArray, List.getElem_cons_zero, List.getElem_cons_succ, List.setIfInBounds_toArray, List.set_cons_zero, List.set_cons_succ]
        refine wpAnyH_take (i := 5) (v := ?vaa5) rfl (by kernel_rfl) (by kernel_rfl) (by kernel_rfl) (fun _ _ _ h => h) (Or.inl ⟨by rfl, ?hya5⟩) (by assumption) ?raa5
        case hya5 => (intro wq hSw; (try dsimp only at hSw); go_simp <;> with_reducible rfl)
        try simp only [Act.put, List.getElem_toArray, List.getElem_cons_zero, List.getElem_cons_succ, List.setIfInBounds_toArray, List.set_cons_zero, List.set_cons_succ]
        refine wpAnyH_take (i := 6) (v := ?vaa6) rfl (by kernel_rfl) (by kernel_rfl) (by kernel_rfl) (fun _ _ _ h => h) (Or.inl ⟨by rfl, ?hya6⟩) (by assumption) ?raa6
        case hya6 => (intro wq hSw; (try dsimp only at hSw); go_simp <;> with_reducible rfl)
        try simp only [Act.put, List.getElem_toArray, List.getElem_cons_zero, List.getElem_cons_succ, List.setIfInBounds_toArray, List.set_cons_zero, List.set_cons_succ]
        refine wpAnyH_ready (rs := [3, 7]) (by kernel_rfl) (by simp) ?_
        refine AllReadyH.cons rfl (fun K hK => ?_) (AllReadyH.cons rfl (fun K hK => ?_) AllReadyH.nil)
        · go_simp
          refine hK.out _ _ trivial (fun hHeld => ?_)
          clear hK K
          try simp only [Act.put, List.getElem_toArray, List.getElem_cons_zero, List.getElem_cons_succ, List.setIfInBounds_toArray, List.set_cons_zero, List.set_cons_succ]
          refine wpAnyH_ready (rs := [7]) (by kernel_rfl) (by simp) ?_
          refine AllReadyH.cons rfl (fun K hK => ?_) AllReadyH.nil
          go_simp
          refine hK.out _ _ trivial (fun hHeld => ?_)
          clear hK K
          try simp only [Act.put, List.getElem_toArray, List.getElem_cons_zero, List.getElem_cons_succ, List.setIfInBounds_toArray, List.set_cons_zero, List.set_cons_succ]
          refine wpAnyH_take (i := 8) (v := ?vaa38) rfl (by kernel_rfl) (by kernel_rfl) (by kernel_rfl) (fun _ _ _ h => h) (Or.inl ⟨by rfl, ?hya38⟩) (by assumption) ?raa38
          case hya38 => (intro wq hSw; (try dsimp only at hSw); go_simp <;> with_reducible rfl)
          try simp only [Act.put, List.getElem_toArray, List.getElem_cons_zero, List.getElem_cons_succ, List.setIfInBounds_toArray, List.set_cons_zero, List.set_cons_succ]
          have B6 := hide (show Below w5b.heap.size w5b ((w5b.alloc (.cells #[.int .u8 (c : Int)] 5)).alloc (.cells #[.int .u8 (c : Int), .int .u8 1] 5)).drew from bt (bt (al _ _) (al _ _)) (dr2 _))
          have TT := hide (two_blocks w5b (.cells #[.int .u8 (c : Int)] 5) (.cells #[.int .u8 (c : Int), .int .u8 1] 5) (Below.refl _ _))
          have T6 := hide (blk_keep T5.out B6.out)
          have T9 := hide (setRow_heap _ wr.heap.size _ #[.slice (some ⟨w5b.heap.size, 0, none⟩) 1 1, .slice (some ⟨w5b.heap.size + 1, 0, none⟩) 2 2, .int .i64 0, .int .i64 2] _ _ T6.out)
          have IO7 := hide (io_leaf (W := wr) (W0 := ((w5b.alloc (.cells #[.int .u8 (c : Int)] 5)).alloc (.cells #[.int .u8 (c : Int), .int .u8 1] 5)).drew.setRow wr.heap.size #[.slice (some ⟨w5b.heap.size, 0, none⟩) 1 1, .slice (some ⟨w5b.heap.size + 1, 0, none⟩) 2 2, .int .i64 0, .int .i64 2]) (row_far _ (show ((w5b.alloc (.cells #[.int .u8 (c : Int)] 5)).alloc (.cells #[.int .u8 (c : Int), .int .u8 1] 5)).drew.heap[w5b.heap.size]? = _ from TT.out.1) (by omega)) (row_far _ (show ((w5b.alloc (.cells #[.int .u8 (c : Int)] 5)).alloc (.cells #[.int .u8 (c : Int), .int .u8 1] 5)).drew.heap[w5b.heap.size + 1]? = _ from TT.out.2.1) (by omega)) (by omega) (by omega) (by omega) (below_row _ (bt B5.out B6.out) (Nat.le_refl _)) hcl)
          refine wpAnyH_ready (rs := [9]) (by kernel_rfl) (by simp) ?_
          refine AllReadyH.cons rfl (fun K hK => ?_) AllReadyH.nil
          rw [if_pos (by rfl)]
          refine wp_store_row 29 _ _ rfl wr.heap.size _ rfl rfl 29 _ T6.out sizeItem rfl (by simp [Value.oneCell']) ?_
          refine hK.out _ _ trivial (fun hHeld => ?_)
          clear hK K
          try simp only [Act.put, List.getElem_toArray, List.getElem_cons_zero, List.getElem_cons_succ, List.setIfInBounds_toArray, List.set_cons_zero, List.set_cons_succ]
          refine wpAnyH_done (by kernel_rfl) ?_ _
          clear hHeld B6 TT T6 hc
          generalize ((w5b.alloc (.cells #[.int .u8 (c : Int)] 5)).alloc (.cells #[.int .u8 (c : Int), .int .u8 1] 5)).drew.setRow wr.heap.size #[.slice (some ⟨w5b.heap.size, 0, none⟩) 1 1, .slice (some ⟨w5b.heap.size + 1, 0, none⟩) 2 2, .int .i64 0, .int .i64 2] = w7 at *
          have B7 := hide IO7.out.k.b
          have W1' := hide (W1.out.keep B7.out)
          have x7 := W1'.out.x
          simp only [Pv.cs] at x7
          obtain ⟨y0, y1, y2, y3, y4⟩ := cells5 x7
          obtain ⟨t0, t1, t2, t3⟩ := cells4 T9.out
          have hgbs : wr.heap.size < w7.heap.size := block_lt_of_cell t0
          have h7s : w.heap.size + 1 < w7.heap.size := W1'.out.sz
          have JW := hide (W1'.out.p.it.keep (al w7 (.cells #[.slice (some ⟨w5b.heap.size, 0, none⟩) 1 1, .slice (some ⟨w5b.heap.size + 1, 0, none⟩) 2 2, .int .i64 0, .int .i64 2] 29)))
          have BX := hide (box_item w7 ⟨some ⟨w5b.heap.size, 0, none⟩, 1, [c], some ⟨w5b.heap.size + 1, 0, none⟩, 2, [c, 1], 0, 2⟩ w7.heap.size rfl)
          have WR := hide fun (W2 : World) (g c2 : Nat) (hJ : Jw W2 (some ⟨g, 0, none⟩) c2 (M1 ++ [(⟨some ⟨w5b.heap.size, 0, none⟩, 1, [c], some ⟨w5b.heap.size + 1, 0, none⟩, 2, [c, 1], 0, 2⟩ : Iv)])) (hN : New (w7.alloc (.cells #[.slice (some ⟨w5b.heap.size, 0, none⟩) 1 1, .slice (some ⟨w5b.heap.size + 1, 0, none⟩) 2 2, .int .i64 0, .int .i64 2] 29)) a1 (some ⟨g, 0, none⟩)) (hg : (w7.alloc (.cells #[.slice (some ⟨w5b.heap.size, 0, none⟩) 1 1, .slice (some ⟨w5b.heap.size + 1, 0, none⟩) 2 2, .int .i64 0, .int .i64 2] 29)).grownBy W2 (a1.map Addr.block)) => W1.out.round IO7.out (by constructor <;> (simp only [N64]; omega)) hJ hN hg
          have ML : Hid (k = M1.length) := L1.out.symm
          simp only [Iv.cs, L1.out] at JW BX WR y2
          have hml : k + 1 ≤ 2199023255520 := by omega
          clear x7
          go_wp2_with (at_builtin; refine wpList_apJ rfl _ _ rfl a1 k c1 M1 rfl ML.out JW.out ⟨_, 0, none⟩ 1 ⟨some ⟨w5b.heap.size, 0, none⟩, 1, [c], some ⟨w5b.heap.size + 1, 0, none⟩, 2, [c, 1], 0, 2⟩ rfl BX.out (by rw [L1.out]; exact hml) ?_)
          intro g2 c2 w8 hJ hN hg
          obtain ⟨hWn, hc2, hf2⟩ := WR.out _ _ _ hJ hN hg
          have WN := hide hWn
          clear hJ hN hg hWn WR
          go_wp2
          go_roundw
          case rel => exact ⟨k + 1, _, _, _, by omega, by go_num, WN.out, by rw [List.map_append, M1e.out, TJ.out, FK.out]; rfl⟩
          case measure => simp [intOf]; omega
        · go_simp
          refine hK.out _ _ trivial (fun hHeld => ?_)
          clear hK K
          try simp only [Act.put, List.getElem_toArray, List.getElem_cons_zero, List.getElem_cons_succ, List.setIfInBounds_toArray, List.set_cons_zero, List.set_cons_succ]
          refine wpAnyH_ready (rs := [3]) (by kernel_rfl) (by simp) ?_
          refine AllReadyH.cons rfl (fun K hK => ?_) AllReadyH.nil
          go_simp
          refine hK.out _ _ trivial (fun hHeld => ?_)
          clear hK K
          try simp only [Act.put, List.getElem_toArray, List.getElem_cons_zero, List.getElem_cons_succ, List.setIfInBounds_toArray, List.set_cons_zero, List.set_cons_succ]
          refine wpAnyH_take (i := 8) (v := ?vaa78) rfl (by kernel_rfl) (by kernel_rfl) (by kernel_rfl) (fun _ _ _ h => h) (Or.inl ⟨by rfl, ?hya78⟩) (by assumption) ?raa78
          case hya78 => (intro wq hSw; (try dsimp only at hSw); go_simp <;> with_reducible rfl)
          try simp only [Act.put, List.getElem_toArray, List.getElem_cons_zero, List.getElem_cons_succ, List.setIfInBounds_toArray, List.set_cons_zero, List.set_cons_succ]
          have B6 := hide (show Below w5b.heap.size w5b ((w5b.alloc (.cells #[.int .u8 (c : Int), .int .u8 1] 5)).alloc (.cells #[.int .u8 (c : Int)] 5)).drew from bt (bt (al _ _) (al _ _)) (dr2 _))
          have TT := hide (two_blocks w5b (.cells #[.int .u8 (c : Int), .int .u8 1] 5) (.cells #[.int .u8 (c : Int)] 5) (Below.refl _ _))
          have T6 := hide (blk_keep T5.out B6.out)
          have T9 := hide (setRow_heap _ wr.heap.size _ #[.slice (some ⟨w5b.heap.size + 1, 0, none⟩) 1 1, .slice (some ⟨w5b.heap.size, 0, none⟩) 2 2, .int .i64 0, .int .i64 2] _ _ T6.out)
          have IO7 := hide (io_leaf (W := wr) (W0 := ((w5b.alloc (.cells #[.int .u8 (c : Int), .int .u8 1] 5)).alloc (.cells #[.int .u8 (c : Int)] 5)).drew.setRow wr.heap.size #[.slice (some ⟨w5b.heap.size + 1, 0, none⟩) 1 1, .slice (some ⟨w5b.heap.size, 0, none⟩) 2 2, .int .i64 0, .int .i64 2]) (row_far _ (show ((w5b.alloc (.cells #[.int .u8 (c : Int), .int .u8 1] 5)).alloc (.cells #[.int .u8 (c : Int)] 5)).drew.heap[w5b.heap.size + 1]? = _ from TT.out.2.1) (by omega)) (row_far _ (show ((w5b.alloc (.cells #[.int .u8 (c : Int), .int .u8 1] 5)).alloc (.cells #[.int .u8 (c : Int)] 5)).drew.heap[w5b.heap.size]? = _ from TT.out.1) (by omega)) (by omega) (by omega) (by omega) (below_row _ (bt B5.out B6.out) (Nat.le_refl _)) hcl)
          refine wpAnyH_ready (rs := [9]) (by kernel_rfl) (by simp) ?_
          refine AllReadyH.cons rfl (fun K hK => ?_) AllReadyH.nil
          rw [if_pos (by rfl)]
          refine wp_store_row 29 _ _ rfl wr.heap.size _ rfl rfl 29 _ T6.out sizeItem rfl (by simp [Value.oneCell']) ?_
          refine hK.out _ _ trivial (fun hHeld => ?_)
          clear hK K
          try simp only [Act.put, List.getElem_toArray, List.getElem_cons_zero, List.getElem_cons_succ, List.setIfInBounds_toArray, List.set_cons_zero, List.set_cons_succ]
          refine wpAnyH_done (by kernel_rfl) ?_ _
          clear hHeld B6 TT T6 hc
          generalize ((w5b.alloc (.cells #[.int .u8 (c : Int), .int .u8 1] 5)).alloc (.cells #[.int .u8 (c : Int)] 5)).drew.setRow wr.heap.size #[.slice (some ⟨w5b.heap.size + 1, 0, none⟩) 1 1, .slice (some ⟨w5b.heap.size, 0, none⟩) 2 2, .int .i64 0, .int .i64 2] = w7 at *
          have B7 := hide IO7.out.k.b
          have W1' := hide (W1.out.keep B7.out)
          have x7 := W1'.out.x
          simp only [Pv.cs] at x7
          obtain ⟨y0, y1, y2, y3, y4⟩ := cells5 x7
          obtain ⟨t0, t1, t2, t3⟩ := cells4 T9.out
          have hgbs : wr.heap.size < w7.heap.size := block_lt_of_cell t0
          have h7s : w.heap.size + 1 < w7.heap.size := W1'.out.sz
          have JW := hide (W1'.out.p.it.keep (al w7 (.cells #[.slice (some ⟨w5b.heap.size + 1, 0, none⟩) 1 1, .slice (some ⟨w5b.heap.size, 0, none⟩) 2 2, .int .i64 0, .int .i64 2] 29)))
          have BX := hide (box_item w7 ⟨some ⟨w5b.heap.size + 1, 0, none⟩, 1, [c], some ⟨w5b.heap.size, 0, none⟩, 2, [c, 1], 0, 2⟩ w7.heap.size rfl)
          have WR := hide fun (W2 : World) (g c2 : Nat) (hJ : Jw W2 (some ⟨g, 0, none⟩) c2 (M1 ++ [(⟨some ⟨w5b.heap.size + 1, 0, none⟩, 1, [c], some ⟨w5b.heap.size, 0, none⟩, 2, [c, 1], 0, 2⟩ : Iv)])) (hN : New (w7.alloc (.cells #[.slice (some ⟨w5b.heap.size + 1, 0, none⟩) 1 1, .slice (some ⟨w5b.heap.size, 0, none⟩) 2 2, .int .i64 0, .int .i64 2] 29)) a1 (some ⟨g, 0, none⟩)) (hg : (w7.alloc (.cells #[.slice (some ⟨w5b.heap.size + 1, 0, none⟩) 1 1, .slice (some ⟨w5b.heap.size, 0, none⟩) 2 2, .int .i64 0, .int .i64 2] 29)).grownBy W2 (a1.map Addr.block)) => W1.out.round IO7.out (by constructor <;> (simp only [N64]; omega)) hJ hN hg
          have ML : Hid (k = M1.length) := L1.out.symm
          simp only [Iv.cs, L1.out] at JW BX WR y2
          have hml : k + 1 ≤ 2199023255520 := by omega
          clear x7
          go_wp2_with (at_builtin; refine wpList_apJ rfl _ _ rfl a1 k c1 M1 rfl ML.out JW.out ⟨_, 0, none⟩ 1 ⟨some ⟨w5b.heap.size + 1, 0, none⟩, 1, [c], some ⟨w5b.heap.size, 0, none⟩, 2, [c, 1], 0, 2⟩ rfl BX.out (by rw [L1.out]; exact hml) ?_)
          intro g2 c2 w8 hJ hN hg
          obtain ⟨hWn, hc2, hf2⟩ := WR.out _ _ _ hJ hN hg
          have WN := hide hWn
          clear hJ hN hg hWn WR
          go_wp2
          go_roundw
          case rel => exact ⟨k + 1, _, _, _, by omega, by go_num, WN.out, by rw [List.map_append, M1e.out, TJ.out, FK.out]; rfl⟩
          case measure => simp [intOf]; omega
      · rw [decide_eq_false h45] at hd
        simp only [Bool.not_false] at hd
        clear h45
        go_wp2_with fail
        have B5 := hide (show Below wr.heap.size wr ((wr.alloc (.cells #[.slice (some ⟨wr.heap.size + 1, 0, none⟩) 1 1, .slice none 0 0, .int .i64 (3 + (k : Int)), .int .i64 0] 29)).alloc (.cells #[.int .u8 (c : Int)] 5)) from bt (al _ _) (al _ _))
        have T5 := hide (show ((wr.alloc (.cells #[.slice (some ⟨wr.heap.size + 1, 0, none⟩) 1 1, .slice none 0 0, .int .i64 (3 + (k : Int)), .int .i64 0] 29)).alloc (.cells #[.int .u8 (c : Int)] 5)).heap[wr.heap.size]? = some (.cells #[.slice (some ⟨wr.heap.size + 1, 0, none⟩) 1 1, .slice none 0 0, .int .i64 (3 + (k : Int)), .int .i64 0] 29 (0, 0)) from blk_keep (heap_alloc_new _ _) (al _ _))
        generalize ((wr.alloc (.cells #[.slice (some ⟨wr.heap.size + 1, 0, none⟩) 1 1, .slice none 0 0, .int .i64 (3 + (k : Int)), .int .i64 0] 29)).alloc (.cells #[.int .u8 (c : Int)] 5)) = w5b at *
        have h5s : wr.heap.size < w5b.heap.size := (Array.getElem?_eq_some_iff.1 T5.out).1
        refine wp_region_held_drew (S := fun W => True) (by kernel_rfl) (trivial) (fun hHeld => ?_)
        refine wpAnyH_take (i := 0) (v := ?vab0) rfl (by kernel_rfl) (by kernel_rfl) (by kernel_rfl) (fun _ _ _ h => h) (Or.inl ⟨by rfl, ?hyb0⟩) (by assumption) ?rab0
        case hyb0 => (intro wq hSw; (try dsimp only at hSw); go_simp <;> with_reducible rfl)
        try simp only [Act.put, List.getElem_toArray, List.getElem_cons_zero, List.setIfInBounds_toArray, List.set_cons_zero, List.set_cons_succ]
        refine wpAnyH_take (i := 1) (v := ?vab1) rfl (by kernel_rfl) (by kernel_rfl) (by kernel_rfl) (fun _ _ _ h => h) (Or.inl ⟨by rfl, ?hyb1⟩) (by assumption) ?rab1
        case hyb1 => (intro wq hSw; (try dsimp only at hSw); go_simp <;> with_reducible rfl)
        try simp only [Act.put, List.getElem_toArray, List.getElem_cons_zero, List.getElem_cons_succ, List.setIfInBounds_toArray, List.set_cons_zero, List.set_cons_succ]
        refine wpAnyH_take (i := 2) (v := ?vab2) rfl (by kernel_rfl) (by kernel_rfl) (by kernel_rfl) (fun _ _ _ h => h) (Or.inl ⟨by rfl, ?hyb2⟩) (by assumption) ?rab2
        case hyb2 => (intro wq hSw; (try dsimp only at hSw); go_simp <;> with_reducible rfl)
        try simp only [Act.put, List.getElem_toArray, List.getElem_cons_zero, List.getElem_cons_succ, List.setIfInBounds_toArray, List.set_cons_zero, List.set_cons_succ]
        refine wpAnyH_take (i := 4) (v := ?vab4) rfl (by kernel_rfl) (by kernel_rfl) (by kernel_rfl) (fun _ _ _ h => h) (Or.inl ⟨by rfl, ?hyb4⟩) (by assumption) ?rab4
        case hyb4 => (intro wq hSw; (try dsimp only at hSw); go_simp <;> with_reducible rfl)
        try simp only [Act.put, List.getElem_toArray, List.getElem_cons_zero, List.getElem_cons_succ, List.setIfInBounds_toArray, List.set_cons_zero, List.set_cons_succ]
        refine wpAnyH_take (i := 5) (v := ?vab5) rfl (by kernel_rfl) (by kernel_rfl) (by kernel_rfl) (fun _ _ _ h => h) (Or.inl ⟨by rfl, ?hyb5⟩) (by assumption) ?rab5
        case hyb5 => (intro wq hSw; (try dsimp only at hSw); go_simp <;> with_reducible rfl)
        try simp only [Act.put, List.getElem_toArray, List.getElem_cons_zero, List.getElem_cons_succ, List.setIfInBounds_toArray, List.set_cons_zero, List.set_cons_succ]
        refine wpAnyH_take (i := 6) (v := ?vab6) rfl (by kernel_rfl) (by kernel_rfl) (by kernel_rfl) (fun _ _ _ h => h) (Or.inl ⟨by rfl, ?hyb6⟩) (by assumption) ?rab6
        case hyb6 => (intro wq hSw; (try dsimp only at hSw); go_simp <;> with_reducible rfl)
        try simp only [Act.put, List.getElem_toArray, List.getElem_cons_zero, List.getElem_cons_succ, List.setIfInBounds_toArray, List.set_cons_zero, List.set_cons_succ]
        refine wpAnyH_ready (rs := [3, 7]) (by kernel_rfl) (by simp) ?_
        refine AllReadyH.cons rfl (fun K hK => ?_) (AllReadyH.cons rfl (fun K hK => ?_) AllReadyH.nil)
        · go_simp
          refine hK.out _ _ trivial (fun hHeld => ?_)
          clear hK K
          try simp only [Act.put, List.getElem_toArray, List.getElem_cons_zero, List.getElem_cons_succ, List.setIfInBounds_toArray, List.set_cons_zero, List.set_cons_succ]
          refine wpAnyH_ready (rs := [7]) (by kernel_rfl) (by simp) ?_
          refine AllReadyH.cons rfl (fun K hK => ?_) AllReadyH.nil
          go_simp
          refine hK.out _ _ trivial (fun hHeld => ?_)
          clear hK K
          try simp only [Act.put, List.getElem_toArray, List.getElem_cons_zero, List.getElem_cons_succ, List.setIfInBounds_toArray, List.set_cons_zero, List.set_cons_succ]
          refine wpAnyH_take (i := 8) (v := ?vab38) rfl (by kernel_rfl) (by kernel_rfl) (by kernel_rfl) (fun _ _ _ h => h) (Or.inl ⟨by rfl, ?hyb38⟩) (by assumption) ?rab38
          case hyb38 => (intro wq hSw; (try dsimp only at hSw); go_simp <;> with_reducible rfl)
          try simp only [Act.put, List.getElem_toArray, List.getElem_cons_zero, List.getElem_cons_succ, List.setIfInBounds_toArray, List.set_cons_zero, List.set_cons_succ]
          have B6 := hide (show Below w5b.heap.size w5b ((w5b.alloc (.cells #[.int .u8 (c : Int)] 5)).alloc (.cells #[.int .u8 (c : Int), .int .u8 1] 5)).drew from bt (bt (al _ _) (al _ _)) (dr2 _))
          have TT := hide (two_blocks w5b (.cells #[.int .u8 (c : Int)] 5) (.cells #[.int .u8 (c : Int), .int .u8 1] 5) (Below.refl _ _))
          have T6 := hide (blk_keep T5.out B6.out)
          have T9 := hide (setRow_heap _ wr.heap.size _ #[.slice (some ⟨w5b.heap.size, 0, none⟩) 1 1, .slice (some ⟨w5b.heap.size + 1, 0, none⟩) 2 2, .int .i64 0, .int .i64 2] _ _ T6.out)
          have IO7 := hide (io_leaf (W := wr) (W0 := ((w5b.alloc (.cells #[.int .u8 (c : Int)] 5)).alloc (.cells #[.int .u8 (c : Int), .int .u8 1] 5)).drew.setRow wr.heap.size #[.slice (some ⟨w5b.heap.size, 0, none⟩) 1 1, .slice (some ⟨w5b.heap.size + 1, 0, none⟩) 2 2, .int .i64 0, .int .i64 2]) (row_far _ (show ((w5b.alloc (.cells #[.int .u8 (c : Int)] 5)).alloc (.cells #[.int .u8 (c : Int), .int .u8 1] 5)).drew.heap[w5b.heap.size]? = _ from TT.out.1) (by omega)) (row_far _ (show ((w5b.alloc (.cells #[.int .u8 (c : Int)] 5)).alloc (.cells #[.int .u8 (c : Int), .int .u8 1] 5)).drew.heap[w5b.heap.size + 1]? = _ from TT.out.2.1) (by omega)) (by omega) (by omega) (by omega) (below_row _ (bt B5.out B6.out) (Nat.le_refl _)) hcl)
          refine wpAnyH_ready (rs := [9]) (by kernel_rfl) (by simp) ?_
          refine AllReadyH.cons rfl (fun K hK => ?_) AllReadyH.nil
          rw [if_pos (by rfl)]
          refine wp_store_row 29 _ _ rfl wr.heap.size _ rfl rfl 29 _ T6.out sizeItem rfl (by simp [Value.oneCell']) ?_
          refine hK.out _ _ trivial (fun hHeld => ?_)
          clear hK K
          try simp only [Act.put, List.getElem_toArray, List.getElem_cons_zero, List.getElem_cons_succ, List.setIfInBounds_toArray, List.set_cons_zero, List.set_cons_succ]
          refine wpAnyH_done (by kernel_rfl) ?_ _
          clear hHeld B6 TT T6 hc
          generalize ((w5b.alloc (.cells #[.int .u8 (c : Int)] 5)).alloc (.cells #[.int .u8 (c : Int), .int .u8 1] 5)).drew.setRow wr.heap.size #[.slice (some ⟨w5b.heap.size, 0, none⟩) 1 1, .slice (some ⟨w5b.heap.size + 1, 0, none⟩) 2 2, .int .i64 0, .int .i64 2] = w7 at *
          have B7 := hide IO7.out.k.b
          have W1' := hide (W1.out.keep B7.out)
          have x7 := W1'.out.x
          simp only [Pv.cs] at x7
          obtain ⟨y0, y1, y2, y3, y4⟩ := cells5 x7
          obtain ⟨t0, t1, t2, t3⟩ := cells4 T9.out
          have hgbs : wr.heap.size < w7.heap.size := block_lt_of_cell t0
          have h7s : w.heap.size + 1 < w7.heap.size := W1'.out.sz
          have JW := hide (W1'.out.p.it.keep (al w7 (.cells #[.slice (some ⟨w5b.heap.size, 0, none⟩) 1 1, .slice (some ⟨w5b.heap.size + 1, 0, none⟩) 2 2, .int .i64 0, .int .i64 2] 29)))
          have BX := hide (box_item w7 ⟨some ⟨w5b.heap.size, 0, none⟩, 1, [c], some ⟨w5b.heap.size + 1, 0, none⟩, 2, [c, 1], 0, 2⟩ w7.heap.size rfl)
          have WR := hide fun (W2 : World) (g c2 : Nat) (hJ : Jw W2 (some ⟨g, 0, none⟩) c2 (M1 ++ [(⟨some ⟨w5b.heap.size, 0, none⟩, 1, [c], some ⟨w5b.heap.size + 1, 0, none⟩, 2, [c, 1], 0, 2⟩ : Iv)])) (hN : New (w7.alloc (.cells #[.slice (some ⟨w5b.heap.size, 0, none⟩) 1 1, .slice (some ⟨w5b.heap.size + 1, 0, none⟩) 2 2, .int .i64 0, .int .i64 2] 29)) a1 (some ⟨g, 0, none⟩)) (hg : (w7.alloc (.cells #[.slice (some ⟨w5b.heap.size, 0, none⟩) 1 1, .slice (some ⟨w5b.heap.size + 1, 0, none⟩) 2 2, .int .i64 0, .int .i64 2] 29)).grownBy W2 (a1.map Addr.block)) => W1.out.round IO7.out (by constructor <;> (simp only [N64]; omega)) hJ hN hg
          have ML : Hid (k = M1.length) := L1.out.symm
          simp only [Iv.cs, L1.out] at JW BX WR y2
          have hml : k + 1 ≤ 2199023255520 := by omega
          clear x7
          go_wp2_with (at_builtin; refine wpList_apJ rfl _ _ rfl a1 k c1 M1 rfl ML.out JW.out ⟨_, 0, none⟩ 1 ⟨some ⟨w5b.heap.size, 0, none⟩, 1, [c], some ⟨w5b.heap.size + 1, 0, none⟩, 2, [c, 1], 0, 2⟩ rfl BX.out (by rw [L1.out]; exact hml) ?_)
          intro g2 c2 w8 hJ hN hg
          obtain ⟨hWn, hc2, hf2⟩ := WR.out _ _ _ hJ hN hg
          have WN := hide hWn
          clear hJ hN hg hWn WR
          go_wp2
          go_roundw
          case rel => exact ⟨k + 1, _, _, _, by omega, by go_num, WN.out, by rw [List.map_append, M1e.out, TJ.out, FK.out]; rfl⟩
          case measure => simp [intOf]; omega
        · go_simp
          refine hK.out _ _ trivial (fun hHeld => ?_)
          clear hK K
          try simp only [Act.put, List.getElem_toArray, List.getElem_cons_zero, List.getElem_cons_succ, List.setIfInBounds_toArray, List.set_cons_zero, List.set_cons_succ]
          refine wpAnyH_ready (rs := [3]) (by kernel_rfl) (by simp) ?_
          refine AllReadyH.cons rfl (fun K hK => ?_) AllReadyH.nil
          go_simp
          refine hK.out _ _ trivial (fun hHeld => ?_)
          clear hK K
          try simp only [Act.put, List.getElem_toArray, List.getElem_cons_zero, List.getElem_cons_succ, List.setIfInBounds_toArray, List.set_cons_zero, List.set_cons_succ]
          refine wpAnyH_take (i := 8) (v := ?vab78) rfl (by kernel_rfl) (by kernel_rfl) (by kernel_rfl) (fun _ _ _ h => h) (Or.inl ⟨by rfl, ?hyb78⟩) (by assumption) ?rab78
          case hyb78 => (intro wq hSw; (try dsimp only at hSw); go_simp <;> with_reducible rfl)
          try simp only [Act.put, List.getElem_toArray, List.getElem_cons_zero, List.getElem_cons_succ, List.setIfInBounds_toArray, List.set_cons_zero, List.set_cons_succ]
          have B6 := hide (show Below w5b.heap.size w5b ((w5b.alloc (.cells #[.int .u8 (c : Int), .int .u8 1] 5)).alloc (.cells #[.int .u8 (c : Int)] 5)).drew from bt (bt (al _ _) (al _ _)) (dr2 _))
          have TT := hide (two_blocks w5b (.cells #[.int .u8 (c : Int), .int .u8 1] 5) (.cells #[.int .u8 (c : Int)] 5) (Below.refl _ _))
          have T6 := hide (blk_keep T5.out B6.out)
          have T9 := hide (setRow_heap _ wr.heap.size _ #[.slice (some ⟨w5b.heap.size + 1, 0, none⟩) 1 1, .slice (some ⟨w5b.heap.size, 0, none⟩) 2 2, .int .i64 0, .int .i64 2] _ _ T6.out)
          have IO7 := hide (io_leaf (W := wr) (W0 := ((w5b.alloc (.cells #[.int .u8 (c : Int), .int .u8 1] 5)).alloc (.cells #[.int .u8 (c : Int)] 5)).drew.setRow wr.heap.size #[.slice (some ⟨w5b.heap.size + 1, 0, none⟩) 1 1, .slice (some ⟨w5b.heap.size, 0, none⟩) 2 2, .int .i64 0, .int .i64 2]) (row_far _ (show ((w5b.alloc (.cells #[.int .u8 (c : Int), .int .u8 1] 5)).alloc (.cells #[.int .u8 (c : Int)] 5)).drew.heap[w5b.heap.size + 1]? = _ from TT.out.2.1) (by omega)) (row_far _ (show ((w5b.alloc (.cells #[.int .u8 (c : Int), .int .u8 1] 5)).alloc (.cells #[.int .u8 (c : Int)] 5)).drew.heap[w5b.heap.size]? = _ from TT.out.1) (by omega)) (by omega) (by omega) (by omega) (below_row _ (bt B5.out B6.out) (Nat.le_refl _)) hcl)
          refine wpAnyH_ready (rs := [9]) (by kernel_rfl) (by simp) ?_
          refine AllReadyH.cons rfl (fun K hK => ?_) AllReadyH.nil
          rw [if_pos (by rfl)]
          refine wp_store_row 29 _ _ rfl wr.heap.size _ rfl rfl 29 _ T6.out sizeItem rfl (by simp [Value.oneCell']) ?_
          refine hK.out _ _ trivial (fun hHeld => ?_)
          clear hK K
          try simp only [Act.put, List.getElem_toArray, List.getElem_cons_zero, List.getElem_cons_succ, List.setIfInBounds_toArray, List.set_cons_zero, List.set_cons_succ]
          refine wpAnyH_done (by kernel_rfl) ?_ _
          clear hHeld B6 TT T6 hc
          generalize ((w5b.alloc (.cells #[.int .u8 (c : Int), .int .u8 1] 5)).alloc (.cells #[.int .u8 (c : Int)] 5)).drew.setRow wr.heap.size #[.slice (some ⟨w5b.heap.size + 1, 0, none⟩) 1 1, .slice (some ⟨w5b.heap.size, 0, none⟩) 2 2, .int .i64 0, .int .i64 2] = w7 at *
          have B7 := hide IO7.out.k.b
          have W1' := hide (W1.out.keep B7.out)
          have x7 := W1'.out.x
          simp only [Pv.cs] at x7
          obtain ⟨y0, y1, y2, y3, y4⟩ := cells5 x7
          obtain ⟨t0, t1, t2, t3⟩ := cells4 T9.out
          have hgbs : wr.heap.size < w7.heap.size := block_lt_of_cell t0
          have h7s : w.heap.size + 1 < w7.heap.size := W1'.out.sz
          have JW := hide (W1'.out.p.it.keep (al w7 (.cells #[.slice (some ⟨w5b.heap.size + 1, 0, none⟩) 1 1, .slice (some ⟨w5b.heap.size, 0, none⟩) 2 2, .int .i64 0, .int .i64 2] 29)))
          have BX := hide (box_item w7 ⟨some ⟨w5b.heap.size + 1, 0, none⟩, 1, [c], some ⟨w5b.heap.size, 0, none⟩, 2, [c, 1], 0, 2⟩ w7.heap.size rfl)
          have WR := hide fun (W2 : World) (g c2 : Nat) (hJ : Jw W2 (some ⟨g, 0, none⟩) c2 (M1 ++ [(⟨some ⟨w5b.heap.size + 1, 0, none⟩, 1, [c], some ⟨w5b.heap.size, 0, none⟩, 2, [c, 1], 0, 2⟩ : Iv)])) (hN : New (w7.alloc (.cells #[.slice (some ⟨w5b.heap.size + 1, 0, none⟩) 1 1, .slice (some ⟨w5b.heap.size, 0, none⟩) 2 2, .int .i64 0, .int .i64 2] 29)) a1 (some ⟨g, 0, none⟩)) (hg : (w7.alloc (.cells #[.slice (some ⟨w5b.heap.size + 1, 0, none⟩) 1 1, .slice (some ⟨w5b.heap.size, 0, none⟩) 2 2, .int .i64 0, .int .i64 2] 29)).grownBy W2 (a1.map Addr.block)) => W1.out.round IO7.out (by constructor <;> (simp only [N64]; omega)) hJ hN hg
          have ML : Hid (k = M1.length) := L1.out.symm
          simp only [Iv.cs, L1.out] at JW BX WR y2
          have hml : k + 1 ≤ 2199023255520 := by omega
          clear x7
          go_wp2_with (at_builtin; refine wpList_apJ rfl _ _ rfl a1 k c1 M1 rfl ML.out JW.out ⟨_, 0, none⟩ 1 ⟨some ⟨w5b.heap.size + 1, 0, none⟩, 1, [c], some ⟨w5b.heap.size, 0, none⟩, 2, [c, 1], 0, 2⟩ rfl BX.out (by rw [L1.out]; exact hml) ?_)
          intro g2 c2 w8 hJ hN hg
          obtain ⟨hWn, hc2, hf2⟩ := WR.out _ _ _ hJ hN hg
          have WN := hide hWn
          clear hJ hN hg hWn WR
          go_wp2
          go_roundw
          case rel => exact ⟨k + 1, _, _, _, by omega, by go_num, WN.out, by rw [List.map_append, M1e.out, TJ.out, FK.out]; rfl⟩
          case measure => simp [intOf]; omega
    · obtain rfl : k = n := by omega
      obtain ⟨x0, x1, x2, x3, x4⟩ := cells5 (show wr.heap[w.heap.size + 1]? = some (.cells #[.int .i64 1, .int .i64 level, .slice a1 M1.length c1, .slice none 0 0, .int .i64 0] 25 (0, 0)) from hW.x)
      have Y5 : Hid (wr.heap[w.heap.size]? = some (.cells #[.int .i64 0, .int .i64 0, .slice none 0 0, .slice none 0 0, .int .i64 0] 25 (0, 0))) := hW.y
      have FIN := hide fun (cs : Array Value) => (show Pn w (wr.setRow w.heap.size cs) ⟨1, level, a1, c1, M1, none, 0, [], 0⟩ ∧ Below w.heap.size w (wr.setRow w.heap.size cs) from ⟨W1.out.p.row (show Bx wr 25 w.heap.size _ from W1.out.y) (by decide) (by decide) cs, below_row cs W1.out.b (Nat.le_refl _)⟩)
      have PE : Hid ((⟨1, level, a1, c1, M1, none, 0, [], 0⟩ : Pv).pg = letP 1 level s) := by
        show _ = _
        unfold Pv.pg letP
        simp only [M1e.out, hn]
        rfl
      clear hW hM
      go_wp2_with (first | (refine wpList_store_row rfl 25 _ _ rfl w.heap.size _ rfl rfl 25 _ Y5.out sizePage rfl (by simp [Value.oneCell']) ?_) | fail)
      refine bodyPost_ret (v := .agg _) (results_cell_row Try.results31 _ _ w.heap.size 25 _ (0, 0) _ rfl (setRow_heap _ _ _ _ _ _ Y5.out) Try.underlying25 rfl sizePage) rfl ?_
      exact ⟨⟨1, level, a1, c1, M1, none, 0, [], 0⟩, rfl, (FIN.out _).1, PE.out, (FIN.out _).2⟩
set_option maxHeartbeats 8000000 in
set_option maxRecDepth 8000 in
theorem lettered_index (w : World) (level : Int) (s : ByteArray) (hs : s.size ≤ 8) (hlv : N64 level) :
    Calls Try.prog 31 #[.int .i64 2, .int .i64 level, .string s] w fun e w' => ∃ q : Pv, e = .returned q.vl ∧ Pn w w' q ∧ q.pg = letP 2 level s ∧ Below w.heap.size w w' := by
  have BY := hide fun (k : Nat) (h : k < s.size) => byB_at s k h
  have BL := hide fun (k : Nat) => byB_lt s k
  obtain ⟨n, hn⟩ : ∃ n, s.size = n := ⟨_, rfl⟩
  have HN := hide hn
  have U2 := two_blocks w (.cells #[.int .i64 0, .int .i64 0, .slice none 0 0, .slice none 0 0, .int .i64 0] 25) (.cells #[.int .i64 2, .int .i64 level, .slice none 0 0, .slice none 0 0, .int .i64 0] 25) (Below.refl _ _)
  have W5 : Hid (Wl w ((w.alloc (.cells #[.int .i64 0, .int .i64 0, .slice none 0 0, .slice none 0 0, .int .i64 0] 25)).alloc (.cells #[.int .i64 2, .int .i64 level, .slice none 0 0, .slice none 0 0, .int .i64 0] 25)) ⟨2, level, none, 0, [], none, 0, [], 0⟩) :=
    ⟨⟨Jw.nil _, New.none _ _, Rw.nil _, New.none _ _, (fun _ h => by cases h), List.pairwise_singleton _ _, B8.nil, (fun _ h => by cases h), by simp [N64], hlv, by simp [N64]⟩, U2.2.2.1, U2.2.1, U2.1⟩
  rw [hn] at hs
  clear U2 hlv
  go_enter Try.func31, Try.ntmps31
  go_wp2_with fail
  generalize ((w.alloc (.cells #[.int .i64 0, .int .i64 0, .slice none 0 0, .slice none 0 0, .int .i64 0] 25)).alloc (.cells #[.int .i64 2, .int .i64 level, .slice none 0 0, .slice none 0 0, .int .i64 0] 25)) = w5 at *
  go_loopw [8] (fun i wr => ∃ (k : Nat) (a : Option Addr) (c : Nat) (M : List Iv), k ≤ n ∧ i = .int .i64 (k : Int) ∧ Wl w wr ⟨2, level, a, c, M, none, 0, [], 0⟩ ∧ M.map Iv.it = (List.range k).map (ixI s)) (fun i _ => n - (intOf i).toNat)
  case atStart => exact ⟨0, none, 0, [], Nat.zero_le _, rfl, W5.out, rfl⟩
  case round =>
    obtain ⟨k, a1, c1, M1, hk, rfl, hW, hM⟩ := hrel
    clear W5
    have W1 := hide hW
    have M1e := hide hM
    have L1 : Hid (M1.length = k) := by
      have := congrArg List.length hM
      show _ = _
      simpa using this
    by_cases hlt : k < n
    · have hkI : (k : Int) < (n : Int) := by omega
      have hks : k < s.size := by rw [hn]; exact hlt
      have hc := BY.out k hks
      have hcl := BL.out k
      have TJ : Hid ((List.range (k + 1)).map (ixI s) = (List.range k).map (ixI s) ++ [ixI s k]) := by show _ = _; rw [List.range_succ, List.map_append]; rfl
      have FK : Hid (ixI s k = ⟨if byB s k = 45 then [] else [byB s k], [], 3 + (k : Int), 0⟩) := rfl
      obtain ⟨c, hcc⟩ : ∃ c, byB s k = c := ⟨_, rfl⟩
      rw [hcc] at hc hcl FK
      have hszw := hW.sz
      clear hW hM hcc
      clear BY BL
      have hd : ((c : Int) != 45) = !decide (c = 45) := by by_cases h : c = 45 <;> simp [h] <;> omega
      by_cases h45 : c = 45
      · rw [decide_eq_true h45] at hd
        simp only [Bool.not_true] at hd
        rw [if_pos h45] at FK
        have B5 := hide (show Below wr.heap.size wr (wr.alloc (.cells #[.slice none 0 0, .slice none 0 0, .int .i64 (3 + (k : Int)), .int .i64 0] 29)) from al _ _)
        have T9 := hide (show (wr.alloc (.cells #[.slice none 0 0, .slice none 0 0, .int .i64 (3 + (k : Int)), .int .i64 0] 29)).heap[wr.heap.size]? = some (.cells #[.slice none 0 0, .slice none 0 0, .int .i64 (3 + (k : Int)), .int .i64 0] 29 (0, 0)) from heap_alloc_new _ _)
        have IO7 := hide (io_dash (ch := 3 + (k : Int)) B5.out)
        clear h45 B5
        go_upto_region 10 with fail
        clear hc hd
        generalize (wr.alloc (.cells #[.slice none 0 0, .slice none 0 0, .int .i64 (3 + (k : Int)), .int .i64 0] 29)) = w7 at *
        have B7 := hide IO7.out.k.b
        have W1' := hide (W1.out.keep B7.out)
        have x7 := W1'.out.x
        simp only [Pv.cs] at x7
        obtain ⟨y0, y1, y2, y3, y4⟩ := cells5 x7
        obtain ⟨t0, t1, t2, t3⟩ := cells4 T9.out
        have hgbs : wr.heap.size < w7.heap.size := block_lt_of_cell t0
        have h7s : w.heap.size + 1 < w7.heap.size := W1'.out.sz
        have JW := hide (W1'.out.p.it.keep (al w7 (.cells #[.slice none 0 0, .slice none 0 0, .int .i64 (3 + (k : Int)), .int .i64 0] 29)))
        have BX := hide (box_item w7 ⟨none, 0, [], none, 0, [], 3 + (k : Int), 0⟩ w7.heap.size rfl)
        have WR := hide fun (W2 : World) (g c2 : Nat) (hJ : Jw W2 (some ⟨g, 0, none⟩) c2 (M1 ++ [(⟨none, 0, [], none, 0, [], 3 + (k : Int), 0⟩ : Iv)])) (hN : New (w7.alloc (.cells #[.slice none 0 0, .slice none 0 0, .int .i64 (3 + (k : Int)), .int .i64 0] 29)) a1 (some ⟨g, 0, none⟩)) (hg : (w7.alloc (.cells #[.slice none 0 0, .slice none 0 0, .int .i64 (3 + (k : Int)), .int .i64 0] 29)).grownBy W2 (a1.map Addr.block)) => W1.out.round IO7.out (by constructor <;> (simp only [N64]; omega)) hJ hN hg
        have ML : Hid (k = M1.length) := L1.out.symm
        simp only [Iv.cs, L1.out] at JW BX WR y2
        have hml : k + 1 ≤ 2199023255520 := by omega
        clear x7
        go_wp2_with (at_builtin; refine wpList_apJ rfl _ _ rfl a1 k c1 M1 rfl ML.out JW.out ⟨_, 0, none⟩ 1 ⟨none, 0, [], none, 0, [], 3 + (k : Int), 0⟩ rfl BX.out (by rw [L1.out]; exact hml) ?_)
        intro g2 c2 w8 hJ hN hg
        obtain ⟨hWn, hc2, hf2⟩ := WR.out _ _ _ hJ hN hg
        have WN := hide hWn
        clear hJ hN hg hWn WR
        go_wp2
        go_roundw
        case rel => exact ⟨k + 1, _, _, _, by omega, by go_num, WN.out, by rw [List.map_append, M1e.out, TJ.out, FK.out]; rfl⟩
        case measure => simp [intOf]; omega
      · rw [decide_eq_false h45] at hd
        simp only [Bool.not_false] at hd
        rw [if_neg h45] at FK
        have B5 := hide (show Below wr.heap.size wr ((wr.alloc (.cells #[.slice (some ⟨wr.heap.size + 1, 0, none⟩) 1 1, .slice none 0 0, .int .i64 (3 + (k : Int)), .int .i64 0] 29)).alloc (.cells #[.int .u8 (c : Int)] 5)) from bt (al _ _) (al _ _))
        have T9 := hide (show ((wr.alloc (.cells #[.slice (some ⟨wr.heap.size + 1, 0, none⟩) 1 1, .slice none 0 0, .int .i64 (3 + (k : Int)), .int .i64 0] 29)).alloc (.cells #[.int .u8 (c : Int)] 5)).heap[wr.heap.size]? = some (.cells #[.slice (some ⟨wr.heap.size + 1, 0, none⟩) 1 1, .slice none 0 0, .int .i64 (3 + (k : Int)), .int .i64 0] 29 (0, 0)) from blk_keep (heap_alloc_new _ _) (al _ _))
        have IO7 := hide (io_index (ch := 3 + (k : Int)) (ka := wr.heap.size + 1) (two_blocks wr (.cells #[.slice (some ⟨wr.heap.size + 1, 0, none⟩) 1 1, .slice none 0 0, .int .i64 (3 + (k : Int)), .int .i64 0] 29) (.cells #[.int .u8 (c : Int)] 5) (Below.refl _ _)).2.1 (by omega) B5.out hcl)
        clear h45 B5
        go_upto_region 10 with fail
        clear hc hd
        generalize ((wr.alloc (.cells #[.slice (some ⟨wr.heap.size + 1, 0, none⟩) 1 1, .slice none 0 0, .int .i64 (3 + (k : Int)), .int .i64 0] 29)).alloc (.cells #[.int .u8 (c : Int)] 5)) = w7 at *
        have B7 := hide IO7.out.k.b
        have W1' := hide (W1.out.keep B7.out)
        have x7 := W1'.out.x
        simp only [Pv.cs] at x7
        obtain ⟨y0, y1, y2, y3, y4⟩ := cells5 x7
        obtain ⟨t0, t1, t2, t3⟩ := cells4 T9.out
        have hgbs : wr.heap.size < w7.heap.size := block_lt_of_cell t0
        have h7s : w.heap.size + 1 < w7.heap.size := W1'.out.sz
        have JW := hide (W1'.out.p.it.keep (al w7 (.cells #[.slice (some ⟨wr.heap.size + 1, 0, none⟩) 1 1, .slice none 0 0, .int .i64 (3 + (k : Int)), .int .i64 0] 29)))
        have BX := hide (box_item w7 ⟨some ⟨wr.heap.size + 1, 0, none⟩, 1, [c], none, 0, [], 3 + (k : Int), 0⟩ w7.heap.size rfl)
        have WR := hide fun (W2 : World) (g c2 : Nat) (hJ : Jw W2 (some ⟨g, 0, none⟩) c2 (M1 ++ [(⟨some ⟨wr.heap.size + 1, 0, none⟩, 1, [c], none, 0, [], 3 + (k : Int), 0⟩ : Iv)])) (hN : New (w7.alloc (.cells #[.slice (some ⟨wr.heap.size + 1, 0, none⟩) 1 1, .slice none 0 0, .int .i64 (3 + (k : Int)), .int .i64 0] 29)) a1 (some ⟨g, 0, none⟩)) (hg : (w7.alloc (.cells #[.slice (some ⟨wr.heap.size + 1, 0, none⟩) 1 1, .slice none 0 0, .int .i64 (3 + (k : Int)), .int .i64 0] 29)).grownBy W2 (a1.map Addr.block)) => W1.out.round IO7.out (by constructor <;> (simp only [N64]; omega)) hJ hN hg
        have ML : Hid (k = M1.length) := L1.out.symm
        simp only [Iv.cs, L1.out] at JW BX WR y2
        have hml : k + 1 ≤ 2199023255520 := by omega
        clear x7
        go_wp2_with (at_builtin; refine wpList_apJ rfl _ _ rfl a1 k c1 M1 rfl ML.out JW.out ⟨_, 0, none⟩ 1 ⟨some ⟨wr.heap.size + 1, 0, none⟩, 1, [c], none, 0, [], 3 + (k : Int), 0⟩ rfl BX.out (by rw [L1.out]; exact hml) ?_)
        intro g2 c2 w8 hJ hN hg
        obtain ⟨hWn, hc2, hf2⟩ := WR.out _ _ _ hJ hN hg
        have WN := hide hWn
        clear hJ hN hg hWn WR
        go_wp2
        go_roundw
        case rel => exact ⟨k + 1, _, _, _, by omega, by go_num, WN.out, by rw [List.map_append, M1e.out, TJ.out, FK.out]; rfl⟩
        case measure => simp [intOf]; omega
    · obtain rfl : k = n := by omega
      obtain ⟨x0, x1, x2, x3, x4⟩ := cells5 (show wr.heap[w.heap.size + 1]? = some (.cells #[.int .i64 2, .int .i64 level, .slice a1 M1.length c1, .slice none 0 0, .int .i64 0] 25 (0, 0)) from hW.x)
      have Y5 : Hid (wr.heap[w.heap.size]? = some (.cells #[.int .i64 0, .int .i64 0, .slice none 0 0, .slice none 0 0, .int .i64 0] 25 (0, 0))) := hW.y
      have FIN := hide fun (cs : Array Value) => (show Pn w (wr.setRow w.heap.size cs) ⟨2, level, a1, c1, M1, none, 0, [], 0⟩ ∧ Below w.heap.size w (wr.setRow w.heap.size cs) from ⟨W1.out.p.row (show Bx wr 25 w.heap.size _ from W1.out.y) (by decide) (by decide) cs, below_row cs W1.out.b (Nat.le_refl _)⟩)
      have PE : Hid ((⟨2, level, a1, c1, M1, none, 0, [], 0⟩ : Pv).pg = letP 2 level s) := by
        show _ = _
        unfold Pv.pg letP
        simp only [M1e.out, hn]
        rfl
      clear hW hM
      go_wp2_with (first | (refine wpList_store_row rfl 25 _ _ rfl w.heap.size _ rfl rfl 25 _ Y5.out sizePage rfl (by simp [Value.oneCell']) ?_) | fail)
      refine bodyPost_ret (v := .agg _) (results_cell_row Try.results31 _ _ w.heap.size 25 _ (0, 0) _ rfl (setRow_heap _ _ _ _ _ _ Y5.out) Try.underlying25 rfl sizePage) rfl ?_
      exact ⟨⟨2, level, a1, c1, M1, none, 0, [], 0⟩, rfl, (FIN.out _).1, PE.out, (FIN.out _).2⟩
end Go.Proofs.Ytoachodngjlpaaa
