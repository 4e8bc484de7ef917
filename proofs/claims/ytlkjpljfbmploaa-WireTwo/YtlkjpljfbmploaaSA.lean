import Derived.Test.YtlkjpljfbmploaaQF
import Derived.Deep.RegionHeld3
namespace Go.Proofs.Ytlkjpljfbmploaa
open Go.RowKit
set_option linter.unusedVariables false

set_option maxRecDepth 100000 in
set_option maxHeartbeats 16000000 in
theorem quiet_any (w : World) (bx : Nat) (F : Nat → Prop) (N : Nat) (b : Bool) (f : Fd) (hk : f.kind = 1 ∨ f.kind = 2 ∨ f.kind = 6 ∨ f.kind = 7 ∨ f.kind = 9) (h : Look w bx F N b) :
    Calls Try.prog 15 #[.pointer (some ⟨bx, 0, none⟩), .agg f.cells] w fun e w' => e = .returned (.bool true) ∧ Look w' bx (ext F w w') N b ∧ But F w w' := by
  obtain ⟨hF, bp, ap, cp, bq, aq, cq, full, at', ct, n, A, C, L, s, hnN, hC, hcl⟩ := h
  have hb1 : Below w.heap.size w (w.alloc (.cells f.cells 35)) := (Below.refl _ _).alloc (Nat.le_refl _) _
  have C1 := hide ((hC.keep hb1).keep (Below.refl _ _).drew)
  have HLE := hide (show ∀ k, LF bx bp ap s bq aq at' (trk b n) A k → k < (w.alloc (.cells f.cells 35)).drew.heap.size from fun k hk => C1.out.lt hk)
  have HCL := hide hcl
  have HF := hide hF
  have H256 := hide hC.r.left
  have HHL := hide hC.hl
  have HBP : Hid (∀ k, k = bp → k < w.heap.size) := fun k hk => hC.lt (.inr (.inl hk))
  have HBQ : Hid (∀ k, k = bq → k < w.heap.size) := fun k hk => hC.lt (.inr (.inr (.inr (.inl (.inl hk)))))
  have HBT : Hid (∀ k, (k = bx ∨ ∃ x, at' = some x ∧ x.block = k) → k < w.heap.size) := fun k hk => by
    rcases hk with e | e
    · exact hC.lt (.inl e)
    · exact hC.lt (.inr (.inr (.inr (.inr (.inl e)))))
  have e0 := (hC.keep hb1).fx0
  have e1 := (hC.keep hb1).fx1
  have e2 := (hC.keep hb1).fe
  have C0 := hide (hC.keep hb1)
  have HB0 := hide hb1
  have HB1 : Hid (Below w.heap.size w (w.alloc (.cells f.cells 35)).drew) := hb1.drew
  have HS1 : Hid (w.heap.size ≤ (w.alloc (.cells f.cells 35)).drew.heap.size) := hb1.size
  have c0 : (w.alloc (.cells f.cells 35)).cell? ⟨w.heap.size, 0, none⟩ = some (.int .i64 f.kind) := by simp [Fd.cells]
  have c3 : (w.alloc (.cells f.cells 35)).cell? ⟨w.heap.size, 3, none⟩ = some (.int .i64 f.k) := by simp [Fd.cells]
  obtain ⟨kind, fn, fa, fc, l, k⟩ := f
  unfold Fd.cells at *
  dsimp only at *
  clear hC hcl hF hb1
  rcases hk with rfl | rfl | rfl | rfl | rfl
  · have PT := hide (Get8_any _ bp ap cp s C1.out.p)
    have hV := raw_lt s 1 1 rfl H256.out.2
    have RT : Hid (∀ wx, Rq wx bq aq cq full s → _) := fun wx hx => rGet_at wx bq aq cq full s 1 1 rfl (by decide) hx
    have HRN := hide (raw_nil s 1)
    generalize hV0 : numV (s.raw 1).1 = V at *
    have hcv : IntKind.u64.wrap (V : Int) = (V : Int) := by rw [IntKind.wrap_u64]; omega
    generalize (s.raw 1).2 = s2 at *
    clear hV0 hV
    go_enter Try.func15, Try.ntmps15
    go_wp2
    generalize w.alloc (.cells #[.int .i64 1, .int .u64 (fn : Int), .slice fa l.length fc, .int .i64 k] 35) = w1 at *
    go_region_held3 (fun w' => w'.cell? ⟨bx, 0, none⟩ = some (.pointer (some ⟨bp, 0, none⟩)) ∧ w'.cell? ⟨bx, 1, none⟩ = some (.pointer (some ⟨bq, 0, none⟩)))
      (first | exact ⟨e0, e1⟩ | exact ⟨HC3.out.fx0, HC3.out.fx1⟩ | exact ⟨HC4.out.fx0, HC4.out.fx1⟩)
      (first | (go_at_call 45; refine PT.out.mono ?_; rintro e w3 ⟨rfl, h3⟩; obtain ⟨ap3, cp3, hc3, hb3, ha3⟩ := C1.out.doP h3 HRN.out; have HC3 := hide hc3; have HB3 := hide hb3; have HA3 := hide ha3; have RT3 := hide (RT.out w3 HC3.out.r); clear h3 hc3 hb3 ha3) | (go_at_call 46; refine RT3.out.mono ?_; rintro e w4 ⟨rfl, h4⟩; obtain ⟨hc4, hb4⟩ := HC3.out.doQ h4; have HC4 := hide hc4; have HB4 := hide hb4; clear h4 hc4 hb4))
    go_wp2
    go_ret
    exact ⟨by simp, look_done (by omega) HC4.out (fun k hk => .inl (HCL.out k (LF_old HA3.out k hk))) HF.out (read_but HCL.out HB1.out HB3.out HB4.out)⟩
  · have PT := hide (Get16_any _ bp ap cp s C1.out.p)
    have hV := raw_lt s 2 2 rfl H256.out.2
    have RT : Hid (∀ wx, Rq wx bq aq cq full s → _) := fun wx hx => rGet_at wx bq aq cq full s 2 2 rfl (by decide) hx
    have HRN := hide (raw_nil s 2)
    generalize hV0 : numV (s.raw 2).1 = V at *
    have hcv : IntKind.u64.wrap (V : Int) = (V : Int) := by rw [IntKind.wrap_u64]; omega
    generalize (s.raw 2).2 = s2 at *
    clear hV0 hV
    go_enter Try.func15, Try.ntmps15
    go_wp2
    generalize w.alloc (.cells #[.int .i64 2, .int .u64 (fn : Int), .slice fa l.length fc, .int .i64 k] 35) = w1 at *
    go_region_held3 (fun w' => w'.cell? ⟨bx, 0, none⟩ = some (.pointer (some ⟨bp, 0, none⟩)) ∧ w'.cell? ⟨bx, 1, none⟩ = some (.pointer (some ⟨bq, 0, none⟩)))
      (first | exact ⟨e0, e1⟩ | exact ⟨HC3.out.fx0, HC3.out.fx1⟩ | exact ⟨HC4.out.fx0, HC4.out.fx1⟩)
      (first | (go_at_call 47; refine PT.out.mono ?_; rintro e w3 ⟨rfl, h3⟩; obtain ⟨ap3, cp3, hc3, hb3, ha3⟩ := C1.out.doP h3 HRN.out; have HC3 := hide hc3; have HB3 := hide hb3; have HA3 := hide ha3; have RT3 := hide (RT.out w3 HC3.out.r); clear h3 hc3 hb3 ha3) | (go_at_call 46; refine RT3.out.mono ?_; rintro e w4 ⟨rfl, h4⟩; obtain ⟨hc4, hb4⟩ := HC3.out.doQ h4; have HC4 := hide hc4; have HB4 := hide hb4; clear h4 hc4 hb4))
    go_wp2
    go_ret
    exact ⟨by simp, look_done (by omega) HC4.out (fun k hk => .inl (HCL.out k (LF_old HA3.out k hk))) HF.out (read_but HCL.out HB1.out HB3.out HB4.out)⟩
  · have PT := hide (End_any _ bp ap cp s C1.out.p)
    have RT := hide (rREnd_any _ bq aq cq full s C1.out.r)
    generalize s.fin = V at *
    go_enter Try.func15, Try.ntmps15
    go_wp2
    generalize w.alloc (.cells #[.int .i64 6, .int .u64 (fn : Int), .slice fa l.length fc, .int .i64 k] 35) = w1 at *
    go_region_held3 (fun w' => w'.cell? ⟨bx, 0, none⟩ = some (.pointer (some ⟨bp, 0, none⟩)) ∧ w'.cell? ⟨bx, 1, none⟩ = some (.pointer (some ⟨bq, 0, none⟩)))
      (first | exact ⟨e0, e1⟩ | exact ⟨C1.out.fx0, C1.out.fx1⟩ | exact ⟨HC4.out.fx0, HC4.out.fx1⟩)
      (first | (go_at_call 28; refine PT.out.mono ?_; rintro e w3 ⟨rfl, hw3⟩; subst w3) | (go_at_call 56; refine RT.out.mono ?_; rintro e w4 ⟨rfl, hb4⟩; have HC4 := hide (C1.out.keep hb4); have HB4 := hide hb4; clear hb4))
    go_wp2
    go_ret
    exact ⟨by simp, look_done (by omega) HC4.out (fun k hk => .inl (HCL.out k hk)) HF.out (But.ofBelow (bt HB1.out HB4.out))⟩
  · have PT := hide (Err_any _ bp ap cp s C1.out.p)
    generalize hV0 : s.e = V at PT e2
    go_enter Try.func15, Try.ntmps15
    go_wp2
    generalize w.alloc (.cells #[.int .i64 7, .int .u64 (fn : Int), .slice fa l.length fc, .int .i64 k] 35) = w1 at *
    go_region_held3 (fun w' => w'.cell? ⟨bx, 0, none⟩ = some (.pointer (some ⟨bp, 0, none⟩)) ∧ w'.cell? ⟨bx, 1, none⟩ = some (.pointer (some ⟨bq, 0, none⟩)) ∧ w'.cell? ⟨bq, 2, none⟩ = some (.int .i64 (V : Int)))
      (first | exact ⟨e0, e1, e2⟩ | exact ⟨C1.out.fx0, C1.out.fx1, by rw [← hV0]; exact C1.out.fe⟩)
      (first | (go_at_call 57; refine PT.out.mono ?_; rintro e w3 ⟨rfl, hw3⟩; subst w3))
    go_wp2
    go_ret
    exact ⟨by simp, look_done (by omega) C1.out (fun k hk => .inl (HCL.out k hk)) HF.out (But.ofBelow HB1.out)⟩
  · have PT := hide (Left_any _ bp ap cp s C1.out.p)
    have RT := hide (rqLeft_any _ bq aq cq full s C1.out.r)
    generalize s.l.length = V at PT RT
    go_enter Try.func15, Try.ntmps15
    go_wp2
    generalize w.alloc (.cells #[.int .i64 9, .int .u64 (fn : Int), .slice fa l.length fc, .int .i64 k] 35) = w1 at *
    go_region_held3 (fun w' => w'.cell? ⟨bx, 0, none⟩ = some (.pointer (some ⟨bp, 0, none⟩)) ∧ w'.cell? ⟨bx, 1, none⟩ = some (.pointer (some ⟨bq, 0, none⟩)))
      (first | exact ⟨e0, e1⟩ | exact ⟨C1.out.fx0, C1.out.fx1⟩ | exact ⟨HC4.out.fx0, HC4.out.fx1⟩)
      (first | (go_at_call 29; refine PT.out.mono ?_; rintro e w3 ⟨rfl, hw3⟩; subst w3) | (go_at_call 18; refine RT.out.mono ?_; rintro e w4 ⟨rfl, hb4⟩; have HC4 := hide (C1.out.keep hb4); have HB4 := hide hb4; clear hb4))
    go_wp2
    go_ret
    exact ⟨by simp, look_done (by omega) HC4.out (fun k hk => .inl (HCL.out k hk)) HF.out (But.ofBelow (bt HB1.out HB4.out))⟩

set_option maxRecDepth 100000 in
set_option maxHeartbeats 4000000 in
theorem state2_any (w : World) (bx : Nat) (F : Nat → Prop) (N : Nat) (b : Bool) (h : Look w bx F N b) :
    Calls Try.prog 17 #[.pointer (some ⟨bx, 0, none⟩)] w fun e w' => e = .returned (.bool true) ∧ Look w' bx (ext F w w') N b ∧ But F w w' := by
  have H := hide h
  clear h
  have R1 := hide (quiet_any w bx F N b ⟨9, 0, none, 0, [], 0⟩ (by decide) H.out)
  unfold Fd.cells at R1
  dsimp only at R1
  go_enter Try.func17, Try.ntmps17
  go_wp2_with fail
  refine R1.out.mono ?_
  rintro e w1 ⟨rfl, h1, hb1⟩
  have R2 := hide (quiet_any w1 bx _ N b ⟨7, 0, none, 0, [], 0⟩ (by decide) h1)
  unfold Fd.cells at R2
  dsimp only at R2
  have HB1 := hide hb1
  clear h1 hb1
  go_wp2_with fail
  refine R2.out.mono ?_
  rintro e w2 ⟨rfl, h2, hb2⟩
  obtain ⟨h2', hb2'⟩ := Look.step H.out.1 HB1.out h2 hb2
  have R3 := hide (quiet_any w2 bx _ N b ⟨6, 0, none, 0, [], 0⟩ (by decide) h2')
  unfold Fd.cells at R3
  dsimp only at R3
  have HB2 := hide hb2'
  clear h2 hb2 h2' hb2'
  go_wp2_with fail
  refine R3.out.mono ?_
  rintro e w3 ⟨rfl, h3, hb3⟩
  have H3 := hide (Look.step H.out.1 HB2.out h3 hb3)
  clear h3 hb3
  go_wp2
  go_ret
  exact ⟨rfl, H3.out⟩

end Go.Proofs.Ytlkjpljfbmploaa
