import Derived.Test.YtbhigodjbfoeoaaGreatWpEXB
import Derived.Test.YtbhigodjbfoeoaaGreatWpEXA
namespace Go.Proofs.YtbhigodjbfoeoaaGreat.Q
set_option linter.unusedVariables false
open Go.RowKit Go.Shelf
attribute [local go_sem] Oper.semAt_some
/-! ### Counts -/
def fil (L : List Int) (n : Nat) : List Int := L ++ List.replicate (n - L.length) 0
theorem fil_length {L : List Int} {n : Nat} (h : L.length ≤ n) : (fil L n).length = n := by unfold fil; rw [List.length_append, List.length_replicate]; omega
theorem fil_set {L : List Int} {n : Nat} (h : L.length < n) (x : Int) : (fil L n).set L.length x = fil (L ++ [x]) n := by
  unfold fil
  rw [List.set_append_right _ _ (Nat.le_refl _), Nat.sub_self]
  obtain ⟨m, hm⟩ : ∃ m, n - L.length = m + 1 := ⟨n - L.length - 1, by omega⟩
  rw [hm, List.replicate_succ, List.set_cons_zero, List.length_append, List.length_singleton, show n - (L.length + 1) = m by omega, List.append_assoc]
  rfl
theorem counts_snoc {P : Po} {i : Nat} (h : i < P.pg.length) : (P.counts.take (i + 1)) = P.counts.take i ++ [(P.pg.getD i Pg.zero).1] := by
  have hl : i < P.counts.length := by unfold Po.counts; rw [List.length_map]; exact h
  rw [take_next P.counts 0 hl]
  congr 2
  unfold Po.counts
  simp [h]
set_option maxHeartbeats 2000000 in
theorem Counts_any (w : World) (b : Nat) (P : Po) (col : Nat → Nat) (h : Pl w b P col) : Calls Tryz.prog 12 #[.pointer (some ⟨b, 0, none⟩)] w fun e w' => ∃ a c, e = .returned (.slice a P.counts.length c) ∧ IOwn w w' a c P.counts := by
  obtain ⟨D, h⟩ := h
  have h2 := h.ok.l2
  have HQ := hide h.q
  obtain ⟨n, hn⟩ : ∃ n, P.pg.length = n := ⟨_, rfl⟩
  have HN := hide hn
  have c1 := h.q.c1
  rw [hn] at c1 h2
  have hcl : P.counts.length = n := by unfold Po.counts; rw [List.length_map]; exact hn
  rw [hcl]
  have HCL := hide hcl
  have hmk := make_int n (by omega) w
  rw [made_ints] at hmk
  have aw := al w (.cells (vi (List.replicate n 0)).toArray 3)
  have G0 := hide (show Ig (w.alloc (.cells (vi (List.replicate n 0)).toArray 3)) (some ⟨w.heap.size, 0, none⟩) n (fil [] n) by
    have e : fil [] n = List.replicate n 0 := by unfold fil; simp
    rw [e]
    exact Ig.mk (World.alloc_heap_new w _) (by simp) (by unfold maxLen; omega) (by simp [vi]) (by simp [vi]))
  have AW := hide aw
  have ca : (w.alloc (.cells (vi (List.replicate n 0)).toArray 3)).cell? ⟨b, 1, none⟩ = _ := (aw.cell (p := ⟨b, 1, none⟩) (block_lt_of_cell c1)).trans c1
  clear h hn hcl aw
  go_enter Tryz.func12, Tryz.ntmps12
  go_wp2_with fail
  generalize w.alloc (.cells (vi (List.replicate n 0)).toArray 3) = W1 at *
  go_loopw [17] (fun i wr => ∃ k : Nat, k ≤ n ∧ i = .int .i64 (k : Int) ∧ Ig wr (some ⟨w.heap.size, 0, none⟩) n (fil (P.counts.take k) n) ∧ Below w.heap.size w wr) (fun i _ => n - (intOf i).toNat)
  case atStart => exact ⟨0, Nat.zero_le _, rfl, G0.out, AW.out⟩
  case round =>
    obtain ⟨i, hi, rfl, hg, hb⟩ := hrel
    have HG := hide hg
    have HB := hide hb
    clear hg hb G0 AW
    by_cases hlt : i < n
    · have hil : i < P.pg.length := by rw [HN.out]; exact hlt
      obtain ⟨d1, d2⟩ := (HQ.out.keep HB.out).pgAt hil
      have SN := hide (counts_snoc hil)
      obtain ⟨x, hx⟩ : ∃ x, P.pg.getD i Pg.zero = x := ⟨_, rfl⟩
      rw [hx] at d1 d2 SN
      obtain ⟨x0, x1⟩ := x
      simp only at d1 d2 SN
      have tl : (P.counts.take i).length = i := by rw [List.length_take, HCL.out]; omega
      have hiI : (i : Int) < (n : Int) := by omega
      have aw := al wr (.cells #[.int .i64 x0, .bool x1] 83)
      have g1 := HG.out.keep aw
      have cg : (wr.alloc (.cells #[.int .i64 x0, .bool x1] 83)).cell? ⟨w.heap.size, i, none⟩ = _ := g1.cell (i := i) (by rw [fil_length (by rw [tl]; exact hi)]; exact hlt)
      have fg : (wr.alloc (.cells #[.int .i64 x0, .bool x1] 83)).frozen? ⟨w.heap.size, i, none⟩ = false := by
        rcases g1.cases with ⟨h0, _⟩ | ⟨g', cur, h0, hg, _⟩
        · cases h0
        · cases h0; simp [World.frozen?, hg]
      have hws : w.heap.size < wr.heap.size := HG.out.lt rfl
      have G2 := hide (show Ig ((wr.setCell ⟨w.heap.size, i, none⟩ (.int .i64 x0)).alloc (.cells #[.int .i64 x0, .bool x1] 83)) (some ⟨w.heap.size, 0, none⟩) n (fil (P.counts.take (i + 1)) n) by
        have s := HG.out.set i x0
        have f := fil_set (L := P.counts.take i) (n := n) (by rw [tl]; exact hlt) x0
        rw [tl] at f
        rw [f, ← SN.out] at s
        exact s.keep (al _ _))
      have B2 := hide (show Below w.heap.size w ((wr.setCell ⟨w.heap.size, i, none⟩ (.int .i64 x0)).alloc (.cells #[.int .i64 x0, .bool x1] 83)) from bt ((But.setCell (S := fun _ => False) (But.ofBelow HB.out) (p := ⟨w.heap.size, i, none⟩) (fun h => by have h : w.heap.size < w.heap.size := h; omega) _).below (fun _ _ h => h)) (al _ _))
      clear hx aw g1 tl
      go_wp2
      go_roundw
      case rel => exact ⟨i + 1, by omega, by go_num, G2.out, B2.out⟩
      case measure => simp [intOf]; omega
    · obtain rfl : i = n := by omega
      go_wp2
      go_ret
      refine ⟨_, _, rfl, ?_, fun x hx => .inr (by cases hx; exact Nat.le_refl _), HB.out⟩
      have g := HG.out
      rw [show P.counts.take i = P.counts by rw [← HCL.out, List.take_length]] at g
      have e : fil P.counts i = P.counts := by unfold fil; rw [HCL.out, Nat.sub_self]; simp
      rwa [e] at g
/-! ### Pages -/
end Go.Proofs.YtbhigodjbfoeoaaGreat.Q
