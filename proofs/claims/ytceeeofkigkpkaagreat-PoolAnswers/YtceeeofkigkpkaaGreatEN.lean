import Derived.Test.YtceeeofkigkpkaaGreatEM
import Derived.Test.YtceeeofkigkpkaaGreatEB
namespace Go.Proofs.YtceeeofkigkpkaaGreat
set_option linter.unusedVariables false
open Go.RowKit Go.Shelf
attribute [local go_sem] Oper.semAt_some

/-! ### Counts -/
def fil (L : List Int) (n : Nat) : List Int := L ++ List.replicate (n - L.length) 0
theorem fil_length {L : List Int} {n : Nat} (h : L.length ≤ n) : (fil L n).length = n := by unfold fil; rw [List.length_append, List.length_replicate]; omega
theorem fil_set {L : List Int} {n : Nat} (h : L.length < n) (x : Int) : (fil L n).set L.length x = fil (L ++ [x]) n := by
  unfold fil
  rw [List.set_append_right _ _ (Nat.le_refl _), Nat.sub_self]
  obtain ⟨m, hm⟩ : ∃ m, n - L.length = m + 1 := ⟨n - L.length - 1, by omega⟩
  rw [hm, List.replicate_succ, List.set_cons_zero, List.length_append, List.length_singleton, show n - (L.length + 1) = m by omega, List.append_assoc]
  rfl
theorem counts_snoc {P : Po} {i : Nat} (h : i < P.pg.length) : (P.counts.take (i + 1)) = P.counts.take i ++ [(P.pg.getD i Pg.zero).1] := by
  have hl : i < P.counts.length := by unfold Po.counts; rw [List.length_map]; exact h
  rw [take_next P.counts 0 hl]
  congr 2
  unfold Po.counts
  simp [h]
set_option maxHeartbeats 2000000 in
theorem Counts_any (w : World) (b : Nat) (P : Po) (col : Nat → Nat) (h : Pl w b P col) : Calls Tryz.prog 26 #[.pointer (some ⟨b, 0, none⟩)] w fun e w' => ∃ a c, e = .returned (.slice a P.counts.length c) ∧ IOwn w w' a c P.counts := by
  obtain ⟨D, h⟩ := h
  have h2 := h.ok.l2
  have HQ := hide h.q
  obtain ⟨n, hn⟩ : ∃ n, P.pg.length = n := ⟨_, rfl⟩
  have HN := hide hn
  have c1 := h.q.c1
  rw [hn] at c1 h2
  have hcl : P.counts.length = n := by unfold Po.counts; rw [List.length_map]; exact hn
  rw [hcl]
  have HCL := hide hcl
  have hmk := make_int n (by omega) w
  rw [made_ints] at hmk
  have aw := al w (.cells (vi (List.replicate n 0)).toArray 3)
  have G0 := hide (show Ig (w.alloc (.cells (vi (List.replicate n 0)).toArray 3)) (some ⟨w.heap.size, 0, none⟩) n (fil [] n) by
    have e : fil [] n = List.replicate n 0 := by unfold fil; simp
    rw [e]
    exact Ig.mk (World.alloc_heap_new w _) (by simp) (by unfold maxLen; omega) (by simp [vi]) (by simp [vi]))
  have AW := hide aw
  have ca : (w.alloc (.cells (vi (List.replicate n 0)).toArray 3)).cell? ⟨b, 1, none⟩ = _ := (aw.cell (p := ⟨b, 1, none⟩) (block_lt_of_cell c1)).trans c1
  clear h hn hcl aw
  go_enter Tryz.func26, Tryz.ntmps26
  go_wp2_with fail
  generalize w.alloc (.cells (vi (List.replicate n 0)).toArray 3) = W1 at *
  go_loopw [17] (fun i wr => ∃ k : Nat, k ≤ n ∧ i = .int .i64 (k : Int) ∧ Ig wr (some ⟨w.heap.size, 0, none⟩) n (fil (P.counts.take k) n) ∧ Below w.heap.size w wr) (fun i _ => n - (intOf i).toNat)
  case atStart => exact ⟨0, Nat.zero_le _, rfl, G0.out, AW.out⟩
  case round =>
    obtain ⟨i, hi, rfl, hg, hb⟩ := hrel
    have HG := hide hg
    have HB := hide hb
    clear hg hb G0 AW
    by_cases hlt : i < n
    · have hil : i < P.pg.length := by rw [HN.out]; exact hlt
      obtain ⟨d1, d2⟩ := (HQ.out.keep HB.out).pgAt hil
      have SN := hide (counts_snoc hil)
      obtain ⟨x, hx⟩ : ∃ x, P.pg.getD i Pg.zero = x := ⟨_, rfl⟩
      rw [hx] at d1 d2 SN
      obtain ⟨x0, x1⟩ := x
      simp only at d1 d2 SN
      have tl : (P.counts.take i).length = i := by rw [List.length_take, HCL.out]; omega
      have hiI : (i : Int) < (n : Int) := by omega
      have aw := al wr (.cells #[.int .i64 x0, .bool x1] 74)
      have g1 := HG.out.keep aw
      have cg : (wr.alloc (.cells #[.int .i64 x0, .bool x1] 74)).cell? ⟨w.heap.size, i, none⟩ = _ := g1.cell (i := i) (by rw [fil_length (by rw [tl]; exact hi)]; exact hlt)
      have fg : (wr.alloc (.cells #[.int .i64 x0, .bool x1] 74)).frozen? ⟨w.heap.size, i, none⟩ = false := by
        rcases g1.cases with ⟨h0, _⟩ | ⟨g', cur, h0, hg, _⟩
        · cases h0
        · cases h0; simp [World.frozen?, hg]
      have hws : w.heap.size < wr.heap.size := HG.out.lt rfl
      have G2 := hide (show Ig ((wr.setCell ⟨w.heap.size, i, none⟩ (.int .i64 x0)).alloc (.cells #[.int .i64 x0, .bool x1] 74)) (some ⟨w.heap.size, 0, none⟩) n (fil (P.counts.take (i + 1)) n) by
        have s := HG.out.set i x0
        have f := fil_set (L := P.counts.take i) (n := n) (by rw [tl]; exact hlt) x0
        rw [tl] at f
        rw [f, ← SN.out] at s
        exact s.keep (al _ _))
      have B2 := hide (show Below w.heap.size w ((wr.setCell ⟨w.heap.size, i, none⟩ (.int .i64 x0)).alloc (.cells #[.int .i64 x0, .bool x1] 74)) from bt ((But.setCell (S := fun _ => False) (But.ofBelow HB.out) (p := ⟨w.heap.size, i, none⟩) (fun h => by have h : w.heap.size < w.heap.size := h; omega) _).below (fun _ _ h => h)) (al _ _))
      clear hx aw g1 tl
      go_wp2
      go_roundw
      case rel => exact ⟨i + 1, by omega, by go_num, G2.out, B2.out⟩
      case measure => simp [intOf]; omega
    · obtain rfl : i = n := by omega
      go_wp2
      go_ret
      refine ⟨_, _, rfl, ?_, fun x hx => .inr (by cases hx; exact Nat.le_refl _), HB.out⟩
      have g := HG.out
      rw [show P.counts.take i = P.counts by rw [← HCL.out, List.take_length]] at g
      have e : fil P.counts i = P.counts := by unfold fil; rw [HCL.out, Nat.sub_self]; simp
      rwa [e] at g

/-! ### Pages -/
theorem nil_seqF (w : World) : SeqF Tryz.prog 63 #[] enI [] w (fun _ => False) := by
  intro l J Jx W F0 hW hS aJ sJ hY h0
  refine callsIn_of_wp Tryz.func63 rfl trivial ?_ rfl
  simp only [Tryz.ntmps63, List.size_toArray, List.length_cons, List.length_nil, Nat.reduceAdd, Nat.reduceSub, Array.replicate_succ, Array.replicate_zero, List.push_toArray, List.append_toArray, List.nil_append, List.cons_append]
  gi_wp2
  go_end0
  exact ⟨⟨_, rfl⟩, But.refl _ _, F0, fun k hk => .inl hk, .inl h0⟩
/-- a walk that was asked for in w -/
structure Wlk (w w' : World) (gf : Nat) (lb : Array Value) (xs : List Int) (X : Nat → Prop) : Prop where
  seq : SeqF Tryz.prog gf lb enI xs w' X
  en : ∀ args w, (callFunc gf args).run Tryz.prog w = .ok (.enter gf args) w
  nw : ∀ k, X k → w.heap.size ≤ k ∧ k < w'.heap.size
  bl : Below w.heap.size w w'
theorem Pm.rn {w : World} {b : Nat} {P : Po} {col : Nat → Nat} {D : Pd} (h : Pm w b P col D) {s : Nat} (hs : s < 5) : ∀ r ∈ D.L s, r.1 ≤ r.2 ∧ Nm r.1 ∧ Nm r.2 := fun r hr => ⟨(h.q.set s hs).can.1 r hr, (h.q.set s hs).bnd r hr⟩
set_option maxHeartbeats 1000000 in
theorem Pages_any (w : World) (b : Nat) (P : Po) (col : Nat → Nat) (h : Pl w b P col) (z : Int) : Calls Tryz.prog 53 #[.pointer (some ⟨b, 0, none⟩), .int .i64 z] w fun e w' => ∃ gf lb X, e = .returned (.func (.func gf) #[] lb) ∧ Wlk w w' gf lb (P.pages z) X := by
  obtain ⟨D, h⟩ := h
  have C := hide (isState_any w z)
  unfold Po.pages
  by_cases h1 : 1 ≤ z ∧ z ≤ 4
  · rw [if_pos h1]
    rw [decide_eq_true h1.1, decide_eq_true h1.2] at C
    obtain ⟨s, rfl⟩ : ∃ s : Nat, z = (s : Int) := ⟨z.toNat, by omega⟩
    rw [Int.toNat_natCast]
    have ci := h.q.cin (s := s) (by omega)
    have np := nums_pages (h.q.set s (by omega)).can (h.mem s (by omega))
    have AL := hide (All_any w (D.s s) (D.a s) (D.c s) (D.L s) (h.q.set s (by omega)))
    have RN := hide (h.rn (s := s) (by omega))
    have FE := hide (h.few (s := s) (by omega))
    rw [← np]
    clear h np
    simp only [Bool.and_self] at C
    go_enter Tryz.func53, Tryz.ntmps53
    go_wp2_with fail
    refine C.out.mono ?_
    rintro _ wq ⟨rfl, hwq⟩
    obtain rfl := hwq.symm
    go_wp2_with fail
    refine AL.out.mono ?_
    rintro _ w1 ⟨E, g, rfl, hE, hg, hcE, hV, hgl, hb⟩
    have HW := hide (show Wlk w w1 75 #[.pointer (some ⟨E, 0, none⟩)] (nums (D.L s)) _ from ⟨all_seqF w1 E (some ⟨g, 0, none⟩) (D.L s).length (D.L s) hcE hV (by have := FE.out; omega) RN.out, enters_of Tryz.func75 (by kernel_rfl) rfl, fun k hk => by
      rcases hk with rfl | ⟨x, hx, rfl⟩
      · exact ⟨hE, block_lt_of_cell hcE⟩
      · cases hx; exact ⟨hg, hgl⟩, hb⟩)
    clear hE hg hcE hV hgl hb
    go_wp2
    go_ret
    exact ⟨_, _, _, rfl, HW.out⟩
  · rw [if_neg h1]
    have e : (decide (1 ≤ z) && decide (z ≤ 4)) = false := by
      by_cases a : 1 ≤ z
      · rw [decide_eq_false (show ¬ z ≤ 4 by omega)]; simp
      · rw [decide_eq_false a]; simp
    rw [e] at C
    clear h h1 e
    go_enter Tryz.func53, Tryz.ntmps53
    go_wp2_with fail
    refine C.out.mono ?_
    rintro _ wq ⟨rfl, hwq⟩
    obtain rfl := hwq.symm
    go_wp2
    go_ret
    exact ⟨_, _, _, rfl, nil_seqF w, enters_of Tryz.func63 (by kernel_rfl) rfl, fun k hk => hk.elim, Below.refl _ _⟩
end Go.Proofs.YtceeeofkigkpkaaGreat
