import Derived.Test.YteaclamgahfbjaaUYH
import Derived.Test.YteaclamgahfbjaaUF
import Derived.Test.YteaclamgahfbjaaUT
namespace Go.Proofs.Yteaclamgahfbjaa
set_option linter.unusedVariables false
open Go.RowKit Go.Shelf
attribute [local go_sem] Oper.semAt_some

/-! ### the walk over a set's numbers -/
def enI (x : Int) : Array Value := #[.int .i16 x]
theorem cnt_pos {r : Rn} (h : r.1 ≤ r.2) : 0 < cnt r := by unfold cnt; omega
set_option maxHeartbeats 2000000 in
set_option maxRecDepth 10000 in
theorem eachOf_any (l N0 : Nat) (S : Nat → Prop) (J Jx : List Int → World → Prop) (V : World) (pre : List Int) (r : Rn) (hr : r.1 ≤ r.2) (h1 : Nm r.1) (h2 : Nm r.2) (hN : N0 ≤ V.heap.size) (hS : ∀ k, S k → k < N0) (aJ : Abid N0 J)
    (hY : ∀ (j : Nat) (W1 : World), j < cnt r → J (pre ++ rnum r.1 j) W1 → N0 ≤ W1.heap.size → YieldAt Fence.wide 0 Try.prog l (enI (r.1 + j)) W1 (Yes S J Jx (pre ++ rnum r.1 (j + 1)) W1))
    (h0 : J pre V) :
    CallsIn Fence.wide 0 Try.prog 47 #[.agg (rcs r), .func (.yield l) #[] #[]] V fun e V' => But S V V' ∧ ((e = .returned (.bool true) ∧ J (pre ++ rnum r.1 (cnt r)) V') ∨ (e = .returned (.bool false) ∧ ∃ j, j ≤ cnt r ∧ Jx (pre ++ rnum r.1 j) V')) := by
  have Y := hide hY
  clear hY
  obtain ⟨x0, y0⟩ := r
  simp only at hr h1 h2 Y
  have hc0 : ((cnt (x0, y0) : Nat) : Int) = y0 - x0 + 1 := by show (((y0 - x0 + 1).toNat : Nat) : Int) = _; omega
  obtain ⟨c, hc⟩ : ∃ c : Nat, c = cnt (x0, y0) := ⟨_, rfl⟩
  rw [← hc] at hc0 Y ⊢
  have HC := hide hc0
  obtain ⟨h11, h12⟩ := h1
  obtain ⟨h21, h22⟩ := h2
  clear hc
  unfold rcs
  refine callsIn_of_wp Try.func47 rfl trivial ?_ rfl
  simp only [Try.ntmps47, List.size_toArray, List.length_cons, List.length_nil, Nat.reduceAdd, Nat.reduceSub, Array.replicate_succ, Array.replicate_zero, List.push_toArray, List.append_toArray, List.nil_append, List.cons_append]
  gi_wp2
  have aV := al V (.cells #[.int .i16 x0, .int .i16 y0] 46)
  have sV := size_alloc V (.cells #[.int .i16 x0, .int .i16 y0] 46)
  have yV : (V.alloc (.cells #[.int .i16 x0, .int .i16 y0] 46)).cell? ⟨V.heap.size, 1, none⟩ = some (.int .i16 y0) := by
    rw [cell_of_row _ _ _ _ _ _ (World.alloc_heap_new V _)]
    rfl
  have J1 := hide (aJ _ _ _ h0 hN (But.ofBelow aV))
  have AV := hide (show But S V (V.alloc (.cells #[.int .i16 x0, .int .i16 y0] 46)) from But.ofBelow aV)
  generalize hV1 : V.alloc (.cells #[.int .i16 x0, .int .i16 y0] 46) = V1 at *
  clear aV hV1 hc0
  gi_loopw [5] (fun i wr => ∃ j : Nat, j < c ∧ i = .int .i16 (x0 + j) ∧ J (pre ++ rnum x0 j) wr ∧ But S V1 wr) (fun i _ => c - (intOf i - x0).toNat)
  case atStart => exact ⟨0, by have := HC.out; omega, by simp, by simpa [rnum] using J1.out, But.refl _ _⟩
  case round =>
    obtain ⟨j, hj, rfl, hJ, hB⟩ := hrel
    have hs2 := hB.size
    obtain ⟨fn, tmps, assign, body, hy, hR⟩ := Y.out j wr hj hJ (by omega)
    simp only [enI] at hy
    have HBB := hide hB
    clear hJ hB
    gi_wp2
    refine ⟨rfl, hR.mono ?_⟩
    rintro e W3 ⟨h3, ⟨rfl, hJ3⟩ | ⟨rfl, hJ3⟩⟩
    · have hB3 := HBB.out.trans h3 (fun _ _ h => h)
      have y3 : W3.cell? ⟨V.heap.size, 1, none⟩ = some (.int .i16 y0) := (hB3.cell (p := ⟨V.heap.size, 1, none⟩) (by show V.heap.size < V1.heap.size; omega) (fun h => by have := hS _ h; have e : ({ block := V.heap.size, off := 1, spot := none } : Addr).block = V.heap.size := rfl; omega)).trans yV
      have B3 := hide hB3
      have J3 := hide hJ3
      clear hB3 hJ3 h3 hR hy
      by_cases hend : x0 + (j : Int) = y0
      · have e1 : (x0 + (j : Int) == y0) = true := by simp [hend]
        have e2 : decide (x0 + (j : Int) = y0) = true := by simp [hend]
        have hj1 := hide (show j + 1 = c by have := HC.out; omega)
        clear hend
        gi_wp2
        refine bodyPost_ret (results_tmp rfl _ _ _) rfl ?_
        exact ⟨AV.out.trans B3.out (fun _ _ h => h), .inl ⟨rfl, by rw [← hj1.out]; exact J3.out⟩⟩
      · have e1 : (x0 + (j : Int) == y0) = false := by simp [hend]
        have e2 : decide (x0 + (j : Int) = y0) = false := by simp [hend]
        have hj1 := hide (show j + 1 < c by have := HC.out; omega)
        have hw : IntKind.i16.wrap (x0 + (j : Int) + 1) = x0 + (j : Int) + 1 := wrapK (by omega) (by have := HC.out; omega)
        gi_wp2
        go_roundw
        case rel => exact ⟨j + 1, hj1.out, by simp; omega, J3.out, B3.out⟩
        case measure => simp [intOf]; omega
    · have B3 := hide (HBB.out.trans h3 (fun _ _ h => h))
      have J3 := hide hJ3
      clear hJ3 h3 hR hy
      gi_wp2
      refine bodyPost_ret (results_tmp rfl _ _ _) rfl ?_
      exact ⟨AV.out.trans B3.out (fun _ _ h => h), .inr ⟨rfl, j + 1, by omega, J3.out⟩⟩
theorem nums_split {L : List Rn} {k : Nat} (hk : k < L.length) (j : Nat) (hj : j ≤ cnt (L.getD k Rn.zero)) : ∃ rest, nums L = (nums (L.take k) ++ rnum (L.getD k Rn.zero).1 j) ++ rest := by
  have e := take_split L Rn.zero hk
  have h1 := nums_snoc hk
  refine ⟨(rnum (L.getD k Rn.zero).1 (cnt (L.getD k Rn.zero))).drop j ++ nums (L.drop (k + 1)), ?_⟩
  have h2 : nums L = nums (L.take (k + 1)) ++ nums (L.drop (k + 1)) := by
    conv => lhs; rw [← List.take_append_drop (k + 1) L]
    unfold nums
    rw [List.map_append, List.flatten_append]
  rw [h2, h1, ← rnum_take _ _ _ hj]
  rw [List.append_assoc, List.append_assoc, ← List.append_assoc (List.take j _), List.take_append_drop]
theorem rnum_split (x : Int) {c j : Nat} (h : j < c) : ∃ rest, rnum x c = rnum x j ++ (x + j) :: rest := by
  refine ⟨(rnum x c).drop (j + 1), ?_⟩
  have e := (List.take_append_drop (j + 1) (rnum x c)).symm
  rw [rnum_take x c (j + 1) h, rnum_succ] at e
  exact e.trans (by rw [List.append_assoc]; rfl)
set_option maxHeartbeats 4000000 in
set_option maxRecDepth 10000 in
theorem all_seq (w : World) (E : Nat) (a : Option Addr) (cap : Nat) (L : List Rn) (hc : w.cell? ⟨E, 0, none⟩ = some (.slice a L.length cap)) (hV : Vs w a L) (hlen : L.length ≤ 4294967296) (hL : ∀ r ∈ L, r.1 ≤ r.2 ∧ Nm r.1 ∧ Nm r.2) :
    Seqs Try.prog 46 #[.pointer (some ⟨E, 0, none⟩)] enI (nums L) w (fun k => k = E ∨ ∃ x, a = some x ∧ x.block = k) := by
  intro l S J Jx W hW hS aJ aJx hY h0
  have hcW : W.cell? ⟨E, 0, none⟩ = some (.slice a L.length cap) := (hW.cell (p := ⟨E, 0, none⟩) (block_lt_of_cell hc) (fun h => h (.inl rfl))).trans hc
  have hVW : Vs W a L := hV.but hW (fun x hx h => h (.inr ⟨x, hx, rfl⟩))
  clear hc hV
  have Y := hide hY
  have HL := hide hL
  have AJ := hide aJ
  have HS := hide (show ∀ k, S k → k < W.heap.size from fun k hk => (hS k hk).2)
  clear hY hL
  obtain ⟨n, hn⟩ : ∃ n : Nat, n = L.length := ⟨_, rfl⟩
  have hn' := hide hn
  rw [← hn] at hcW hlen
  clear hn
  refine callsIn_of_wp Try.func46 rfl trivial ?_ rfl
  simp only [Try.ntmps46, List.size_toArray, List.length_cons, List.length_nil, Nat.reduceAdd, Nat.reduceSub, Array.replicate_succ, Array.replicate_zero, List.push_toArray, List.append_toArray, List.nil_append, List.cons_append]
  gi_wp2
  gi_loopw [7] (fun i wr => ∃ k : Nat, k ≤ n ∧ i = .int .i64 k ∧ J (nums (L.take k)) wr ∧ But S W wr)
    (fun i _ => n - (intOf i).toNat)
  case atStart => exact ⟨0, Nat.zero_le _, rfl, h0, But.refl _ _⟩
  case round =>
    obtain ⟨k, hk, rfl, hJ, hB⟩ := hrel
    by_cases hlt : k < n
    · have hkL : k < L.length := by rw [← hn'.out]; exact hlt
      have hVr : Vs wr a L := hVW.but hB (fun x hx h => (hS _ h).1 (.inr ⟨x, hx, rfl⟩))
      obtain ⟨bb, o, rfl, d1, d2⟩ := hVr.at hkL
      have NS := hide (nums_snoc hkL)
      have SP := hide fun (j : Nat) (hj : j ≤ cnt (L.getD k Rn.zero)) => nums_split hkL j hj
      obtain ⟨r1, r2, r3⟩ := HL.out _ (getD_mem hkL)
      generalize hr : L.getD k Rn.zero = r at *
      have hsz := hB.size
      have aw := al wr (.cells #[.int .i16 r.1, .int .i16 r.2] 46)
      have C := hide (eachOf_any l W.heap.size S J Jx (wr.alloc (.cells #[.int .i16 r.1, .int .i16 r.2] 46)) (nums (L.take k)) r r1 r2 r3 (by rw [size_alloc]; omega) HS.out AJ.out (fun j W1 hj hJ1 hs1 => by
        obtain ⟨rest, hrest⟩ := rnum_split r.1 hj
        obtain ⟨rest2, hr2⟩ := SP.out (cnt r) (Nat.le_refl _)
        have e : nums L = (nums (L.take k) ++ rnum r.1 j) ++ (r.1 + j) :: (rest ++ rest2) := by
          rw [hr2, hrest]
          simp
        have y := Y.out (nums (L.take k) ++ rnum r.1 j) (r.1 + j) (rest ++ rest2) W1 e hJ1 hs1
        rw [List.append_assoc, ← rnum_succ] at y
        exact y) (AJ.out _ _ _ hJ hsz (But.ofBelow aw)))
      have BA := hide (show But S W (wr.alloc (.cells #[.int .i16 r.1, .int .i16 r.2] 46)) from hB.andBelow aw)
      unfold rcs at C
      clear hJ hVr aw hr r2 r3
      gi_wp2_with fail
      refine ⟨trivial, rfl, ?_⟩
      refine C.out.mono ?_
      rintro e W3 ⟨h3, ⟨rfl, hJ3⟩ | ⟨rfl, j, hj, hJ3⟩⟩
      · have J3 := hide hJ3
        have B3 := hide (BA.out.trans h3 (fun _ _ h => h))
        clear hJ3 h3
        gi_wp2
        go_roundw
        case rel => exact ⟨k + 1, by omega, by simp, by rw [NS.out]; exact J3.out, B3.out⟩
        case measure => simp [intOf]; omega
      · have J3 := hide hJ3
        have B3 := hide (BA.out.trans h3 (fun _ _ h => h))
        have Q3 := hide (SP.out j hj)
        clear hJ3 h3
        gi_wp2
        refine bodyPost_ret (results_none rfl _ _ _) rfl ?_
        obtain ⟨rest, hrest⟩ := Q3.out
        exact ⟨⟨_, rfl⟩, B3.out, .inr ⟨_, rest, hrest, J3.out⟩⟩
    · obtain rfl : k = n := by omega
      have HJ := hide hJ
      clear hJ
      gi_wp2
      go_end0
      exact ⟨⟨_, rfl⟩, hB, .inl (by have t := HJ.out; rw [hn'.out, List.take_length] at t; exact t)⟩

/-! ### All, Copy, Lowest, Same with nil, New -/
set_option maxHeartbeats 1000000 in
theorem All_any (w : World) (b : Nat) (a : Option Addr) (cap : Nat) (L : List Rn) (hS : St w b a cap L) :
    Calls Try.prog 24 #[.pointer (some ⟨b, 0, none⟩)] w fun e w' => ∃ E g, e = .returned (.func (.func 46) #[] #[.pointer (some ⟨E, 0, none⟩)]) ∧ w.heap.size ≤ E ∧ w.heap.size ≤ g ∧ w'.cell? ⟨E, 0, none⟩ = some (.slice (some ⟨g, 0, none⟩) L.length L.length) ∧ Vs w' (some ⟨g, 0, none⟩) L ∧ g < w'.heap.size ∧ Below w.heap.size w w' := by
  have C := hide (Runs_any w b a cap L hS)
  clear hS
  obtain ⟨n, hn⟩ : ∃ n : Nat, n = L.length := ⟨_, rfl⟩
  rw [← hn] at C ⊢
  clear hn
  go_enter Try.func24, Try.ntmps24
  go_wp2_with fail
  refine C.out.mono ?_
  rintro e w1 ⟨rfl, hV, hb⟩
  have V := hide hV.vs
  have GL := hide (hV.lt rfl)
  have B := hide hb
  clear hV hb
  go_wp2
  go_ret
  have aw := al w1 (.cells #[.slice (some ⟨w.heap.size, 0, none⟩) n n] 44)
  exact ⟨_, _, rfl, B.out.size, Nat.le_refl _, cell_alloc_new w1 _ _, V.out.keep aw, Nat.lt_of_lt_of_le GL.out aw.size, bt B.out aw⟩
set_option maxHeartbeats 1000000 in
theorem Copy_any (w : World) (b : Nat) (a : Option Addr) (cap : Nat) (L : List Rn) (hS : St w b a cap L) :
    Calls Try.prog 49 #[.pointer (some ⟨b, 0, none⟩)] w fun e w' => ∃ b' a' cap', e = .returned (.pointer (some ⟨b', 0, none⟩)) ∧ Nw w w' b' a' cap' L := by
  have C := hide (Runs_any w b a cap L hS)
  have HS := hide hS
  clear hS
  obtain ⟨n, hn⟩ : ∃ n : Nat, n = L.length := ⟨_, rfl⟩
  have NL := hide hn
  rw [← hn] at C
  clear hn
  go_enter Try.func49, Try.ntmps49
  go_wp2_with fail
  refine C.out.mono ?_
  rintro e w1 ⟨rfl, hV, hb⟩
  have V := hide hV
  have B := hide hb
  clear hV hb
  go_wp2
  go_ret
  have aw := al w1 (.cells #[.slice (some ⟨w.heap.size, 0, none⟩) n n] 73)
  have hn := World.alloc_heap_new w1 (.cells #[.slice (some ⟨w.heap.size, 0, none⟩) n n] 73)
  exact ⟨_, some ⟨w.heap.size, 0, none⟩, n, rfl, ⟨⟨by rw [← NL.out]; exact hn, V.out.keep aw, HS.out.can, HS.out.bnd, HS.out.len⟩, B.out.size, fun x hx => by cases hx; exact Nat.le_refl _, bt B.out aw⟩⟩
set_option maxHeartbeats 1000000 in
theorem Lowest_any (w : World) (b : Nat) (a : Option Addr) (cap : Nat) (L : List Rn) (hS : St w b a cap L) :
    Calls Try.prog 18 #[.pointer (some ⟨b, 0, none⟩)] w fun e w' => e = .returned (.tuple #[.int .i16 (low L), .bool (!L.isEmpty)]) ∧ w' = w := by
  have hc := hS.cell
  cases L with
  | nil =>
    rw [List.length_nil] at hc
    clear hS
    go_enter Try.func18, Try.ntmps18
    go_wp2
    go_ret2
    exact ⟨rfl, rfl⟩
  | cons r L =>
    obtain ⟨b1, o1, rfl, d1, d2⟩ := hS.row.vs.at (i := 0) (by simp)
    rw [Nat.zero_mul, Nat.add_zero] at d1
    change w.cell? ⟨b1, o1, none⟩ = some (.int .i16 r.1) at d1
    rw [List.length_cons] at hc
    obtain ⟨n, hn⟩ : ∃ n : Nat, n = L.length + 1 := ⟨_, rfl⟩
    have n0 : 0 < n := by omega
    have nl := hS.len
    rw [List.length_cons, ← hn] at nl
    rw [← hn] at hc
    clear hS hn d2
    show Calls Try.prog 18 #[.pointer (some ⟨b, 0, none⟩)] w fun e w' => e = .returned (.tuple #[.int .i16 r.1, .bool true]) ∧ w' = w
    go_enter Try.func18, Try.ntmps18
    go_wp2
    go_ret2
    exact ⟨rfl, rfl⟩
set_option maxHeartbeats 1000000 in
theorem SameNil_any (w : World) (b : Nat) (a : Option Addr) (cap : Nat) (L : List Rn) (hS : St w b a cap L) :
    Calls Try.prog 26 #[.pointer (some ⟨b, 0, none⟩), .pointer none] w fun e w' => e = .returned (.bool (decide (L.length = 0))) ∧ w' = w := by
  have hc := hS.cell
  clear hS
  generalize L.length = n at *
  by_cases h0 : n = 0
  · subst h0
    go_enter Try.func26, Try.ntmps26
    go_wp2
    go_ret
    exact ⟨rfl, rfl⟩
  · have e0 : decide (n = 0) = false := decide_eq_false h0
    rw [e0]
    go_enter Try.func26, Try.ntmps26
    go_wp2
    go_ret
    refine ⟨?_, rfl⟩
    simp [h0]
end Go.Proofs.Yteaclamgahfbjaa
