import Derived.Test.YtlflcdjaknnfaabKN
namespace Go.Proofs.Ytlflcdjaknnfaab
open Go.RowKit

/-- the document's writes that were not synced, their bytes in blocks of their own -/
def hU (U : Uns) (A : List (Nat × Nat)) : List Value := (U.zip A).flatMap fun x => [.int .i64 ((x.1.1 : Nat) : Int), .slice (some ⟨x.2.1, 0, none⟩) 512 x.2.2]
def hc (S : Sd) (la lc : Nat) (wa : Option Addr) (wc : Nat) : List Value :=
  [.slice (some ⟨la, 0, none⟩) S.img.length lc, .slice wa S.uns.length wc, .bool S.pow, .int .i64 S.alm, .int .i64 (S.wr : Int), .int .i64 (S.sy : Int)]
/-- the document's disk in memory -/
structure HkAt (F : Nat → Prop) (w : World) (q la lc : Nat) (wa : Option Addr) (wc : Nat) (A : List (Nat × Nat)) (S : Sd) : Prop where
  ok : S.ok
  blk : w.heap[q]? = some (.cells (hc S la lc wa wc).toArray 52 (0, 0))
  l : Rw w (some ⟨la, 0, none⟩) lc S.img
  u : w.ownsRow 0 77 2 (.slice wa S.uns.length wc) S.uns.length (hU S.uns A)
  a : A.length = S.uns.length
  r : ∀ (j : Nat) u x, S.uns[j]? = some u → A[j]? = some x → Rw w (some ⟨x.1, 0, none⟩) x.2 u.2 ∧ x.1 ≠ la ∧ F x.1
  fq : F q
  fl : F la
  fw : ∀ x, wa = some x → F x.block
  lt : ∀ k, F k → k < w.heap.size
def Hk (F : Nat → Prop) (w : World) (q : Nat) (S : Sd) : Prop := ∃ la lc wa wc A, HkAt F w q la lc wa wc A S
section
variable {F : Nat → Prop} {w w' : World} {q la lc : Nat} {wa : Option Addr} {wc : Nat} {A : List (Nat × Nat)} {S : Sd}
theorem HkAt.but {T : Nat → Prop} (h : HkAt F w q la lc wa wc A S) (hb : But T w w') (hn : ∀ k, F k → ¬ T k) : HkAt F w' q la lc wa wc A S where
  ok := h.ok
  blk := (hb.block q (h.lt _ h.fq) (hn _ h.fq)).trans h.blk
  l := h.l.but hb (fun x hx => by cases hx; exact hn _ h.fl)
  u := own_but h.u hb fun x hx => hn _ (h.fw x hx)
  a := h.a
  r := fun j u x h1 h2 => by
    obtain ⟨r1, r2, r3⟩ := h.r j u x h1 h2
    exact ⟨r1.but hb (fun y hy => by cases hy; exact hn _ r3), r2, r3⟩
  fq := h.fq
  fl := h.fl
  fw := h.fw
  lt := fun k hk => Nat.lt_of_lt_of_le (h.lt k hk) hb.size
theorem HkAt.keep (h : HkAt F w q la lc wa wc A S) (hb : Below w.heap.size w w') : HkAt F w' q la lc wa wc A S := h.but (T := fun _ => False) (But.ofBelow hb) fun _ _ h => h
theorem HkAt.mono {G : Nat → Prop} (h : HkAt F w q la lc wa wc A S) (hG : ∀ k, F k → G k) (hl : ∀ k, G k → k < w.heap.size) : HkAt G w q la lc wa wc A S :=
  { h with fq := hG _ h.fq, fl := hG _ h.fl, fw := fun x hx => hG _ (h.fw x hx), r := fun j u x h1 h2 => ⟨(h.r j u x h1 h2).1, (h.r j u x h1 h2).2.1, hG _ (h.r j u x h1 h2).2.2⟩, lt := hl }
theorem HkAt.cell (h : HkAt F w q la lc wa wc A S) (i : Nat) : w.cell? ⟨q, i, none⟩ = (hc S la lc wa wc)[i]? := by
  rw [cell_of_row _ _ _ _ _ _ h.blk]
  simp
theorem HkAt.frozen (h : HkAt F w q la lc wa wc A S) (i : Nat) : w.frozen? ⟨q, i, none⟩ = false := frozen_of_row w q i _ _ h.blk
theorem Hk.ok (h : Hk F w q S) : S.ok := by obtain ⟨_, _, _, _, _, h⟩ := h; exact h.ok
theorem Hk.lt (h : Hk F w q S) : ∀ k, F k → k < w.heap.size := by obtain ⟨_, _, _, _, _, h⟩ := h; exact h.lt
theorem Hk.but {T : Nat → Prop} (h : Hk F w q S) (hb : But T w w') (hn : ∀ k, F k → ¬ T k) : Hk F w' q S := by
  obtain ⟨_, _, _, _, _, h⟩ := h; exact ⟨_, _, _, _, _, h.but hb hn⟩
theorem Hk.keep (h : Hk F w q S) (hb : Below w.heap.size w w') : Hk F w' q S := by obtain ⟨_, _, _, _, _, h⟩ := h; exact ⟨_, _, _, _, _, h.keep hb⟩
theorem Hk.mono {G : Nat → Prop} (h : Hk F w q S) (hG : ∀ k, F k → G k) (hl : ∀ k, G k → k < w.heap.size) : Hk G w q S := by obtain ⟨_, _, _, _, _, h⟩ := h; exact ⟨_, _, _, _, _, h.mono hG hl⟩
end
theorem fits_any (w : World) (n : Int) : Calls Try.prog 50 #[.int .i64 n] w fun e w' => e = .returned (.bool (decide (8 ≤ n) && decide (n ≤ 65536))) ∧ w' = w := by
  by_cases h1 : 8 ≤ n
  · have d1 : decide (8 ≤ n) = true := decide_eq_true h1
    by_cases h2 : n ≤ 65536
    · have d2 : decide (n ≤ 65536) = true := decide_eq_true h2
      go_enter Try.func50, Try.ntmps50
      go_wp2
      go_ret
      exact ⟨by first | rfl | (rw [d1, d2]; rfl), rfl⟩
    · have d2 : decide (n ≤ 65536) = false := decide_eq_false h2
      go_enter Try.func50, Try.ntmps50
      go_wp2
      go_ret
      exact ⟨by first | rfl | (rw [d1, d2]; rfl), rfl⟩
  · have d1 : decide (8 ≤ n) = false := decide_eq_false h1
    go_enter Try.func50, Try.ntmps50
    go_wp2
    go_ret
    exact ⟨by first | rfl | (rw [d1]; rfl), rfl⟩
theorem fits_yes (w : World) (n : Nat) (h0 : 8 ≤ n) (h1 : n ≤ 65536) : Calls Try.prog 50 #[.int .i64 (n : Int)] w fun e w' => e = .returned (.bool true) ∧ w' = w := by
  have h := fits_any w (n : Int)
  rw [decide_eq_true (by omega), decide_eq_true (by omega)] at h
  exact h
theorem fits_no (w : World) (n : Int) (h : n < 8 ∨ 65536 < n) : Calls Try.prog 50 #[.int .i64 n] w fun e w' => e = .returned (.bool false) ∧ w' = w := by
  have h' := fits_any w n
  have e : (decide (8 ≤ n) && decide (n ≤ 65536)) = false := by
    rcases h with h | h
    · rw [decide_eq_false (by omega)]; rfl
    · rw [decide_eq_false (p := n ≤ 65536) (by omega), Bool.and_false]
  rw [e] at h'
  exact h'
theorem img_zeros (n : Nat) : imgF n (fun _ => zb) = List.replicate (n * 512) 0 := by
  induction n with
  | zero => rfl
  | succ n ih =>
    rw [imgF_succ, ih]
    unfold zb
    rw [List.replicate_append_replicate, Nat.succ_mul]
/-- a new struct of the document's -/
theorem made_hdisk {w w1 : World} {la lc : Nat} {S : Sd} (hb : Below w.heap.size w w1) (hok : S.ok) (hR : Rw w1 (some ⟨la, 0, none⟩) lc S.img) (hla : w.heap.size ≤ la) (hu : S.uns = []) (hp : S.pow = true) (ha : S.alm = -1) (hw : S.wr = 0) (hs : S.sy = 0) :
    Hk (ext none' w (w1.alloc (.cells #[.slice (some ⟨la, 0, none⟩) S.img.length lc, .slice none 0 0, .bool true, .int .i64 (-1), .int .i64 0, .int .i64 0] 52))) (w1.alloc (.cells #[.slice (some ⟨la, 0, none⟩) S.img.length lc, .slice none 0 0, .bool true, .int .i64 (-1), .int .i64 0, .int .i64 0] 52)) w1.heap.size S ∧
      Below w.heap.size w (w1.alloc (.cells #[.slice (some ⟨la, 0, none⟩) S.img.length lc, .slice none 0 0, .bool true, .int .i64 (-1), .int .i64 0, .int .i64 0] 52)) := by
  have hs1 := hb.size
  have hl1 := hR.lt rfl
  refine ⟨⟨la, lc, none, 0, [], ⟨hok, ?_, hR.keep (al _ _), ?_, by rw [hu]; rfl, fun j u x h1 h2 => by simp at h2, .inr ⟨hs1, by rw [size_alloc]; omega⟩, .inr ⟨hla, by rw [size_alloc]; exact Nat.lt_succ_of_lt hl1⟩, fun x hx => (by cases hx), fun k hk => ?_⟩⟩, bt hb (al _ _)⟩
  · rw [heap_alloc_last]
    unfold hc
    rw [hu, hp, ha, hw, hs]
    rfl
  · rw [hu]
    exact World.ownsRow_nil _ _ _ _
  · rcases hk with h | h
    · exact h.elim
    · exact h.2
set_option maxHeartbeats 1000000 in
theorem hNew_any (w : World) (n : Nat) (h0 : 8 ≤ n) (h1 : n ≤ 65536) :
    Calls Try.prog 27 #[.int .i64 (n : Int)] w fun e w' => ∃ q, e = .returned (.tuple #[.pointer (some ⟨q, 0, none⟩), .int .i64 0]) ∧ Hk (ext none' w w') w' q (Sd.new n (fun _ => zb)) ∧ Below w.heap.size w w' := by
  have hmk : ∀ w : World, (Instr.makeSlice 22 (.int .i64 ((n * 512 : Nat) : Int)) (.int .i64 ((n * 512 : Nat) : Int))).run Try.prog w = .ok (.slice (some ⟨w.heap.size, 0, none⟩) (n * 512) (n * 512)) (w.alloc (.cells (vb (List.replicate (n * 512) 0)).toArray 5)) := fun w => by
    rw [vb_zeros]; exact make_u8 (n * 512) (n * 512) (Nat.le_refl _) (by omega) w
  have hmul : IntKind.i64.wrap ((n : Int) * 512) = ((n * 512 : Nat) : Int) := by rw [wrapI (by omega) (by omega)]; omega
  have himg : (Sd.new n (fun _ => zb)).img = List.replicate (n * 512) 0 := img_zeros n
  have hlen : (Sd.new n (fun _ => zb)).img.length = n * 512 := by rw [himg, List.length_replicate]
  have hrow : Rw (w.alloc (.cells (vb (List.replicate (n * 512) 0)).toArray 5)) (some ⟨w.heap.size, 0, none⟩) (n * 512) (Sd.new n (fun _ => zb)).img := by
    rw [himg]
    exact Rw.mk (cur := (vb (List.replicate (n * 512) 0)).toArray) (heap_alloc_last _ _) (by rw [List.length_replicate]; exact Nat.le_refl _) (by unfold maxLen; omega) (by rw [List.size_toArray, vb_length, List.length_replicate]) (by rw [List.take_of_length_le (by simp [vb_length])])
  have HM := hide (made_hdisk (al w (.cells (vb (List.replicate (n * 512) 0)).toArray 5)) (Sd.new_ok h0 h1 fun _ => Blk.zero) hrow (Nat.le_refl _) rfl rfl rfl rfl rfl)
  rw [hlen] at HM
  have R := hide (fits_yes w n h0 h1)
  clear hrow himg hlen h0 h1
  obtain ⟨N, hN⟩ : ∃ N, N = n * 512 := ⟨_, rfl⟩
  rw [← hN] at hmk hmul HM
  clear hN
  go_enter Try.func27, Try.ntmps27
  go_wp2_with (go_at_call 50; refine R.out.mono ?_; rintro e w1 ⟨rfl, e1⟩; have e1 := e1.symm; subst e1)
  go_ret2
  have hM := HM.out
  rw [size_alloc] at hM
  exact ⟨_, rfl, hM⟩
theorem hNew_bad (w : World) (n : Int) (h : n < 8 ∨ 65536 < n) :
    Calls Try.prog 27 #[.int .i64 n] w fun e w' => e = .returned (.tuple #[.pointer none, .int .i64 1]) ∧ w' = w := by
  have R := hide (fits_no w n h)
  clear h
  go_enter Try.func27, Try.ntmps27
  go_wp2_with (go_at_call 50; refine R.out.mono ?_; rintro e w1 ⟨rfl, e1⟩; have e1 := e1.symm; subst e1)
  go_ret2
  exact ⟨rfl, rfl⟩
theorem Sd.of_ok {l : List Nat} {n : Nat} (hlt : ∀ x ∈ l, x < 256) (hl : l.length = n * 512) (h0 : 8 ≤ n) (h1 : n ≤ 65536) : (Sd.of l).ok := by
  have hd : l.length / 512 = n := by omega
  unfold Sd.of
  rw [hd]
  exact Sd.new_ok h0 h1 (upto_blk hlt hl (Nat.le_refl _))
set_option maxHeartbeats 1000000 in
theorem hFrom_any (w : World) (a : Option Addr) (m cap : Nat) (l : List Nat) (n : Nat) (hB : Bs w a l) (hm : m = l.length) (hl : l.length = n * 512) (h0 : 8 ≤ n) (h1 : n ≤ 65536) :
    Calls Try.prog 24 #[.slice a m cap] w fun e w' => ∃ q, e = .returned (.tuple #[.pointer (some ⟨q, 0, none⟩), .int .i64 0]) ∧ Hk (ext none' w w') w' q (Sd.of l) ∧ Below w.heap.size w w' := by
  have hr : ((m : Int).tmod 512) = 0 := by rw [Int.tmod_eq_emod_of_nonneg (by omega)]; omega
  have hq : ((m : Int).tdiv 512) = (n : Int) := by rw [Int.tdiv_eq_ediv_of_nonneg (by omega)]; omega
  have R := hide (fits_yes w n h0 h1)
  have R2 := hide (CopyBytes_any w a m cap l hB hm (by omega))
  have HP := hide (And.intro (Sd.of_ok hB.1 hl h0 h1) (And.intro (Sd.of_img hl) hm))
  have HPO := hide (show 0 < l.length by omega)
  have hmb : m ≤ 33554432 := by omega
  clear hB hm hl
  go_enter Try.func24, Try.ntmps24
  go_wp2_with (first | (go_at_call 50; refine R.out.mono ?_; rintro e w1 ⟨rfl, e1⟩; have e1 := e1.symm; subst e1) | (go_at_call 8; refine R2.out.mono ?_; rintro e w2 ⟨a', c', rfl, hr2, hn2, hb2⟩; have H2 := hide (And.intro hr2 (And.intro hn2 hb2)); clear hr2 hn2 hb2))
  go_ret2
  obtain ⟨r1, r2, r3⟩ := H2.out
  obtain ⟨o1, o2, o3⟩ := HP.out
  rcases r1.cases with ⟨_, _, e0⟩ | ⟨g, cur, rfl, _⟩
  · have hpos := HPO.out
    rw [e0] at hpos
    exact absurd hpos (Nat.lt_irrefl _)
  · have hla : w.heap.size ≤ g := by
      rcases r2 _ rfl with ⟨y, hy, _⟩ | h
      · cases hy
      · exact h
    have := made_hdisk r3 o1 (by rw [o2]; exact r1) hla rfl rfl rfl rfl rfl
    rw [o2, ← o3] at this
    exact ⟨_, rfl, this⟩
set_option maxHeartbeats 1000000 in
theorem hFrom_bad (w : World) (a : Option Addr) (m cap : Nat) (hmx : m ≤ 9223372036854775807) (h : m % 512 ≠ 0 ∨ m / 512 < 8 ∨ 65536 < m / 512) :
    Calls Try.prog 24 #[.slice a m cap] w fun e w' => e = .returned (.tuple #[.pointer none, .int .i64 1]) ∧ w' = w := by
  by_cases h0 : m % 512 = 0
  · have hr : ((m : Int).tmod 512) = 0 := by rw [Int.tmod_eq_emod_of_nonneg (by omega)]; omega
    obtain ⟨q, hq⟩ : ∃ q, q = m / 512 := ⟨_, rfl⟩
    have hq2 : ((m : Int).tdiv 512) = (q : Int) := by rw [Int.tdiv_eq_ediv_of_nonneg (by omega)]; omega
    have R := hide (fits_no w (q : Int) (by omega))
    have hqb : q ≤ 9223372036854775807 := by omega
    have hqw : wrap64 (q : Int) = (q : Int) := by unfold wrap64; omega
    clear h h0 hq
    go_enter Try.func24, Try.ntmps24
    go_wp2_with (go_at_call 50; refine R.out.mono ?_; rintro e w1 ⟨rfl, e1⟩; have e1 := e1.symm; subst e1)
    go_ret2
    exact ⟨rfl, rfl⟩
  · obtain ⟨q, hq⟩ : ∃ q, q = ((m : Int).tmod 512) := ⟨_, rfl⟩
    have hq2 : ((m : Int).tmod 512) = q := hq.symm
    have hr : q ≠ 0 := by rw [hq, Int.tmod_eq_emod_of_nonneg (by omega)]; omega
    have hr2 := eqf hr
    clear h h0 hq
    go_enter Try.func24, Try.ntmps24
    go_wp2
    go_ret2
    exact ⟨rfl, rfl⟩
theorem hBlocks_any {F : Nat → Prop} {w : World} {q : Nat} {S : Sd} (h : Hk F w q S) : Calls Try.prog 57 #[.pointer (some ⟨q, 0, none⟩)] w fun e w' => e = .returned (.int .i64 (S.n : Int)) ∧ w' = w := by
  obtain ⟨la, lc, wa, wc, A, h⟩ := h
  have c0 : w.cell? ⟨q, 0, none⟩ = some (.slice (some ⟨la, 0, none⟩) S.img.length lc) := h.cell 0
  have hl := h.ok.imgLen
  have hn := h.ok.n1
  obtain ⟨m, hm⟩ : ∃ m, m = S.img.length := ⟨_, rfl⟩
  rw [← hm] at c0 hl
  have hq : ((m : Int).tdiv 512) = (S.n : Int) := by rw [Int.tdiv_eq_ediv_of_nonneg (by omega)]; omega
  clear h hm hl
  go_enter Try.func57, Try.ntmps57
  go_wp2
  go_ret
  exact ⟨rfl, rfl⟩
end Go.Proofs.Ytlflcdjaknnfaab
