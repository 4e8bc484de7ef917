import Derived.Test.YtlkjpljfbmploaaCB
namespace Go.Proofs.Ytlkjpljfbmploaa
open Go.RowKit

theorem Work.mono {F F' : Nat → Prop} {w : World} {bx n : Nat} {s : WS} (h : Work w bx F n s) (h1 : ∀ k, F k → F' k) (h2 : ∀ k, F' k → k < w.heap.size) : Work w bx F' n s := by
  obtain ⟨h0, bw, aw, cw, br, ar, cr, at', ct, A, C, L, hc, hcl⟩ := h
  exact ⟨h2, bw, aw, cw, br, ar, cr, at', ct, A, C, L, hc, fun k hk => h1 k (hcl k hk)⟩
theorem Work.lt {F : Nat → Prop} {w : World} {bx n : Nat} {s : WS} (h : Work w bx F n s) : ∀ k, F k → k < w.heap.size := h.1
theorem ext_lt {F : Nat → Prop} {w w' : World} (hF : ∀ k, F k → k < w.heap.size) (hs : w.heap.size ≤ w'.heap.size) : ∀ k, ext F w w' k → k < w'.heap.size := fun k hk => by
  rcases hk with h | h
  · have := hF k h; omega
  · exact h.2
theorem ext_ext {F : Nat → Prop} {w w1 w2 : World} (h1 : w.heap.size ≤ w1.heap.size) (h2 : w1.heap.size ≤ w2.heap.size) : ∀ k, ext (ext F w w1) w1 w2 k → ext F w w2 k := fun k hk => by
  rcases hk with (h | h) | h
  · exact .inl h
  · exact .inr ⟨h.1, by omega⟩
  · exact .inr ⟨by omega, h.2⟩
theorem but_ext {F : Nat → Prop} {w w1 w2 : World} (h : But F w w1) (k : But (ext F w w1) w1 w2) : But F w w2 := h.trans k fun x hx hk => by
  rcases hk with h | h
  · exact h
  · omega
/-- one call more of write -/
theorem Work.step {F : Nat → Prop} {w w1 w2 : World} {bx n : Nat} {s : WS} (hF : ∀ k, F k → k < w.heap.size) (hb : But F w w1) (h : Work w2 bx (ext (ext F w w1) w1 w2) n s) (hb2 : But (ext F w w1) w1 w2) : Work w2 bx (ext F w w2) n s ∧ But F w w2 :=
  ⟨h.mono (ext_ext hb.size hb2.size) (ext_lt hF (Nat.le_trans hb.size hb2.size)), but_ext hb hb2⟩
theorem ok6 (w : World) (k : Int) : (⟨k, 0, none, 0, [], 0⟩ : Fd).ok w := ⟨by show 0 < 18446744073709551616; decide, by show (0 : Int) ≤ 9223372036854775807; decide, Bs.nil w, by show 0 + 64 ≤ 140737488355328; decide⟩
/-- what was told is looked at, and forgotten -/
theorem Core.drop {w w1 : World} {bx bw : Nat} {aw : Option Addr} {cw br : Nat} {ar : Option Addr} {cr : Nat} {at' : Option Addr} {ct n : Nat} {A : Nat → Option Addr} {C : Nat → Nat} {L : Nat → List Nat} {s t : WS} (h : Core w bx bw aw cw br ar cr at' ct n A C L s t) (hb : But (InRows n A) w w1) :
    w1.cell? ⟨bx, 2, none⟩ = some (.slice at' n ct) ∧ w1.frozen? ⟨bx, 2, none⟩ = false ∧ Hid (Core (w1.setCell ⟨bx, 2, none⟩ (.slice none 0 0)) bx bw aw cw br ar cr none 0 0 A C L s t ∧ But (fun k => k = bx ∨ InRows n A k) w (w1.setCell ⟨bx, 2, none⟩ (.slice none 0 0))) := by
  have hbx := (Array.getElem?_eq_some_iff.1 h.x).1
  have ne : ∀ {b : Nat} {c : Array Value} {T : TypeId} {f : Nat × Nat}, w.heap[b]? = some (.cells c T f) → T ≠ 5 → ¬ InRows n A b := by
    rintro b c T f hb' hT ⟨i, hi, x, hx, e⟩
    obtain ⟨cur, hg⟩ := (h.told.2.1 i hi).type hx
    exact ne_type hg hb' hT.symm e
  have hx1 : w1.heap[bx]? = some (.cells #[.pointer (some ⟨bw, 0, none⟩), .pointer (some ⟨br, 0, none⟩), .slice at' n ct] 30 (0, 0)) := (hb.block bx hbx (ne h.x (by decide))).trans h.x
  have st : But (fun k => k = bx) w1 (w1.setCell ⟨bx, 2, none⟩ (.slice none 0 0)) := But.cell1 _ _ _ _
  have wt : ∀ {T b a c s}, Wt T w b a c s → Sep a n A → T ≠ 5 → T ≠ 30 → Wt T (w1.setCell ⟨bx, 2, none⟩ (.slice none 0 0)) b a c s := fun hw hs h1 h2 => by
    have hw1 := hw.but hb (by
      rintro k (e | ⟨y, hy, e⟩) hk
      · rw [e] at hk; exact ne hw.1 h1 hk
      · obtain ⟨i, hi, x, hx, e2⟩ := hk
        exact hs i hi x y hx hy (e2.trans e.symm))
    refine hw1.but st ?_
    rintro k (e | ⟨y, hy, e⟩) e2
    · exact ne_type hw1.1 hx1 h2 (e.symm.trans e2)
    · obtain ⟨cur, hg⟩ := hw1.2.1.type hy
      exact ne_type hg hx1 (by decide) (e.trans e2)
  refine ⟨by rw [cell_of_row _ _ _ _ _ _ hx1]; rfl, frozen_of_row w1 bx 2 _ _ hx1, ⟨heap_setCell_same w1 bx 2 _ _ _ hx1, wt h.p h.sw (by decide) (by decide), wt h.r h.sr (by decide) (by decide), Told.nil _ _ _ _, h.ab, fun i hi => by omega, fun i hi => by omega⟩, (hb.mono fun _ _ h => .inr h).trans st fun _ _ h => .inl h⟩

set_option maxRecDepth 100000 in
set_option maxHeartbeats 8000000 in
theorem end_any (w : World) (bx : Nat) (F : Nat → Prop) (n : Nat) (s : WS) (h : Work w bx F n s) (hn : n + 4 ≤ 2932031007410) :
    Calls Try.prog 10 #[.pointer (some ⟨bx, 0, none⟩)] w fun e w' => e = .returned (.bool true) ∧ Work w' bx (ext F w w') 1 s ∧ But F w w' := by
  have H := hide h
  clear h
  go_enter Try.func10, Try.ntmps10
  go_wp2
  go_loopw [3, 4] (fun i _ wx => ∃ j : Nat, j ≤ 2 ∧ i = .int .i64 j ∧ (Work wx bx (ext F w wx) (n + j) s ∧ But F w wx)) (fun i _ _ => 2 - (intOf i).toNat)
  case atStart => exact ⟨0, Nat.zero_le _, rfl, H.out.mono (fun _ h => .inl h) (ext_lt H.out.lt (Nat.le_refl _)), But.refl _ _⟩
  case round =>
    obtain ⟨j, hj, rfl, hG⟩ := hrel
    have HG := hide hG
    clear hG
    by_cases hlt : j < 2
    · have hi : (j : Int) < 2 := by omega
      have WR := hide (write_any wr bx _ (n + j) s ⟨6, 0, none, 0, [], 0⟩ HG.out.1 (ok6 _ _) (fun x hx => by cases hx) (by omega))
      unfold Fd.cells at WR
      dsimp only at WR
      rw [show nW (⟨6, 0, none, 0, [], 0⟩ : Fd) (n + j) = n + j + 1 from rfl, show s.opW (⟨6, 0, none, 0, [], 0⟩ : Fd) = s by unfold WS.opW; simp] at WR
      go_wp2_with fail
      refine WR.out.mono ?_
      rintro e w2 ⟨rfl, h2, hb2⟩
      have H2 := hide (Work.step H.out.lt HG.out.2 h2 hb2)
      clear h2 hb2
      go_wp2
      go_roundw
      case rel => exact ⟨j + 1, by omega, by go_num, H2.out⟩
      case measure => simp [intOf]; omega
    · obtain rfl : j = 2 := by omega
      obtain ⟨hF, bw, aw, cw, br, ar, cr, at', ct, A, C, L, hc, hcl⟩ := HG.out.1
      have e2 := hc.fx2
      have AP := hide (Apart_some wr at' ct (n + 2) A C L hc.told.1 hc.told.2.1 hc.told.2.2.1 (by omega) hc.told.2.2.2)
      have HC := hide hc
      have HCL := hide hcl
      have HGB := hide HG.out.2
      clear hc hcl hF HG
      go_wp2_with fail
      refine AP.out.mono ?_
      rintro e w2 ⟨rfl, hb2⟩
      obtain ⟨q2, qf, hd⟩ := HC.out.drop hb2
      have HB2 := hide hb2
      clear hb2 e2
      go_wp2_with fail
      generalize w2.setCell ⟨bx, 2, none⟩ (.slice none 0 0) = w3 at *
      have hb3 : But (ext F w wr) wr w3 := hd.out.2.mono fun k _ hk => by
        rcases hk with rfl | ⟨i, hi, x, hx, e⟩
        · exact HCL.out _ (.inl rfl)
        · exact HCL.out _ (.inr (.inr (.inr (.inr ⟨i, hi, x, hx, e⟩))))
      have hW3 : Work w3 bx (ext F w w3) 0 s := ⟨ext_lt H.out.lt (Nat.le_trans HGB.out.size hb3.size), bw, aw, cw, br, ar, cr, none, 0, A, C, L, hd.out.1, fun k hk => by
        have h7 : ext F w wr k := by
          rcases hk with e | e | e | ⟨x, hx, _⟩ | ⟨i, hi, _⟩
          · exact HCL.out _ (.inl e)
          · exact HCL.out _ (.inr (.inl e))
          · exact HCL.out _ (.inr (.inr (.inl e)))
          · cases hx
          · omega
        rcases h7 with h | h
        · exact .inl h
        · exact .inr ⟨h.1, by have := hb3.size; omega⟩⟩
      have HB3 := hide (but_ext HGB.out hb3)
      have WR := hide (write_any w3 bx _ 0 s ⟨6, 0, none, 0, [], 0⟩ hW3 (ok6 _ _) (fun x hx => by cases hx) (by decide))
      unfold Fd.cells at WR
      dsimp only at WR
      rw [show nW (⟨6, 0, none, 0, [], 0⟩ : Fd) 0 = 1 from rfl, show s.opW (⟨6, 0, none, 0, [], 0⟩ : Fd) = s by unfold WS.opW; simp] at WR
      clear hb3 hW3 q2 qf hd
      refine WR.out.mono ?_
      rintro e w4 ⟨rfl, h4, hb4⟩
      obtain ⟨h5, hb5⟩ := Work.step H.out.lt HB3.out h4 hb4
      have WR2 := hide (write_any w4 bx _ 1 s ⟨7, 0, none, 0, [], 0⟩ h5 (ok6 _ _) (fun x hx => by cases hx) (by decide))
      unfold Fd.cells at WR2
      dsimp only at WR2
      rw [show nW (⟨7, 0, none, 0, [], 0⟩ : Fd) 1 = 1 from rfl, show s.opW (⟨7, 0, none, 0, [], 0⟩ : Fd) = s by unfold WS.opW; simp] at WR2
      have HB5 := hide hb5
      clear h4 hb4 h5 hb5
      go_wp2_with fail
      refine WR2.out.mono ?_
      rintro e w5 ⟨rfl, h6, hb6⟩
      have H6 := hide (Work.step H.out.lt HB5.out h6 hb6)
      clear h6 hb6
      go_wp2
      go_ret
      exact ⟨rfl, H6.out⟩

/-- two new writers -/
theorem newWork {w w1 w2 : World} {m : Int} (h1 : Wt 68 w1 w.heap.size none 0 ⟨clamp m, [], 0⟩) (hb1 : Below w.heap.size w w1) (h2 : Wt 65 w2 w1.heap.size none 0 ⟨clamp m, [], 0⟩) (hb2 : Below w1.heap.size w1 w2) :
    Work (w2.alloc (.cells #[.pointer (some ⟨w.heap.size, 0, none⟩), .pointer (some ⟨w1.heap.size, 0, none⟩), .slice none 0 0] 30)) w2.heap.size (ext (fun _ => False) w (w2.alloc (.cells #[.pointer (some ⟨w.heap.size, 0, none⟩), .pointer (some ⟨w1.heap.size, 0, none⟩), .slice none 0 0] 30))) 0 ⟨clamp m, [], 0⟩ := by
  have hs1 := hb1.size
  have hs2 := hb2.size
  have l1 := h1.lt
  have l2 := h2.lt
  have b3 : Below w2.heap.size w2 (w2.alloc (.cells #[.pointer (some ⟨w.heap.size, 0, none⟩), .pointer (some ⟨w1.heap.size, 0, none⟩), .slice none 0 0] 30)) := (Below.refl _ _).alloc (Nat.le_refl _) _
  refine ⟨ext_lt (fun _ h => h.elim) (by rw [size_alloc]; omega), w.heap.size, none, 0, w1.heap.size, none, 0, none, 0, fun _ => none, fun _ => 0, fun _ => [], ⟨heap_alloc_new _ _, (h1.keep hb2).keep b3, h2.keep b3, Told.nil _ _ _ _, (fun x y hx => by cases hx), (fun i hi => by omega), (fun i hi => by omega)⟩, fun k hk => .inr ?_⟩
  rw [size_alloc]
  rcases hk with rfl | (rfl | ⟨x, hx, _⟩) | (rfl | ⟨x, hx, _⟩) | ⟨x, hx, _⟩ | ⟨i, hi, _⟩
  · exact ⟨by omega, by omega⟩
  · exact ⟨Nat.le_refl _, by omega⟩
  · cases hx
  · exact ⟨by omega, by omega⟩
  · cases hx
  · cases hx
  · omega

set_option maxRecDepth 100000 in
set_option maxHeartbeats 8000000 in
theorem wireWrites_any (w : World) (most : Int) (af : Option Addr) (m capf : Nat) (G : Nat → Fd) (hF : FdsO w af m G) (hm : m ≤ 2932031007402) :
    Calls Try.prog 3 #[.int .i64 most, .slice af m capf] w fun x w' => x = .returned (.bool true) ∧ Below w.heap.size w w' := by
  have HF := hide hF
  clear hF
  have N1 := hide (NewWriter_any w most)
  go_enter Try.func3, Try.ntmps3
  go_wp2_with fail
  refine N1.out.mono ?_
  rintro e w1 ⟨rfl, h1, hb1⟩
  have N2 := hide (rNewWriter_any w1 most)
  have H1 := hide h1
  have HB1 := hide hb1
  clear h1 hb1
  go_wp2_with fail
  refine N2.out.mono ?_
  rintro e w2 ⟨rfl, h2, hb2⟩
  have HW := hide (newWork H1.out HB1.out h2 hb2)
  have HB2 := hide hb2
  clear h2 hb2
  go_wp2
  have HB3 : Hid (Below w.heap.size w (w2.alloc (.cells #[.pointer (some ⟨w.heap.size, 0, none⟩), .pointer (some ⟨w1.heap.size, 0, none⟩), .slice none 0 0] 30))) := bt (bt HB1.out HB2.out) ((Below.refl _ _).alloc (Nat.le_refl _) _)
  generalize hbx : w2.heap.size = bx at *
  generalize w2.alloc (.cells #[.pointer (some ⟨w.heap.size, 0, none⟩), .pointer (some ⟨w1.heap.size, 0, none⟩), .slice none 0 0] 30) = w3 at *
  go_loopw [6, 7] (fun i _ wx => ∃ (j nn : Nat) (s : WS), j ≤ m ∧ nn ≤ j ∧ i = .int .i64 j ∧ (Work wx bx (ext (fun _ => False) w wx) nn s ∧ Below w.heap.size w wx)) (fun i _ _ => m - (intOf i).toNat)
  case atStart => exact ⟨0, 0, _, Nat.zero_le _, Nat.le_refl _, rfl, HW.out, HB3.out⟩
  case round =>
    clear HW HB3
    obtain ⟨j, nn, s, hj, hnn, rfl, hG⟩ := hrel
    have HG := hide hG
    clear hG
    by_cases hlt : j < m
    · have hi : (j : Int) < (m : Int) := by omega
      rcases HF.out with h0 | ⟨bf, off, rfl, hFF⟩
      · omega
      obtain ⟨hat, hok⟩ := hFF j hlt
      obtain ⟨e0, e1, e2, e3⟩ := hat.keep HG.out.2
      have WR := hide (write_any wr bx _ nn s (G j) HG.out.1 (hok.keep HG.out.2) (fun x hx h0 h => by
        have := hok.old hx h0
        rcases h with h | h
        · exact h
        · omega) (by omega))
      unfold Fd.cells at WR
      have hnw : nW (G j) nn ≤ j + 1 := by unfold nW; split <;> omega
      go_wp2_with fail
      refine WR.out.mono ?_
      rintro e w4 ⟨rfl, h4, hb4⟩
      have H4 := hide (Work.step (F := fun _ => False) (fun _ h => h.elim) (But.ofBelow HG.out.2) h4 hb4)
      clear h4 hb4 e0 e1 e2 e3
      go_wp2
      go_roundw
      case rel => exact ⟨j + 1, nW (G j) nn, _, by omega, hnw, by go_num, H4.out.1, H4.out.2.below fun _ _ h => h⟩
      case measure => simp [intOf]; omega
    · obtain rfl : m = j := by omega
      have EN := hide (end_any wr bx _ nn s HG.out.1 (by omega))
      go_wp2_with fail
      refine EN.out.mono ?_
      rintro e w4 ⟨rfl, h4, hb4⟩
      have H4 := hide (but_ext (F := fun _ => False) (But.ofBelow HG.out.2) hb4)
      clear h4 hb4
      go_wp2
      go_ret
      exact ⟨rfl, H4.out.below fun _ _ h => h⟩
end Go.Proofs.Ytlkjpljfbmploaa
