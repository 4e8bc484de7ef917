import Derived.Test.YtlkjpljfbmploaaCA
import Derived.Deep.RegionHeld3
namespace Go.Proofs.Ytlkjpljfbmploaa
open Go.RowKit

/-- what a call of a writer makes of it -/
def WS.opW (s : WS) (f : Fd) : WS := if f.kind = 1 then s.put (numB f.n 1) else if f.kind = 2 then s.put (numB f.n 2) else if f.kind = 4 then s.put (numB f.n 4) else if f.kind = 8 then s.put (numB f.n 8) else if f.kind = 0 then s.put f.l else if f.kind = 3 then s.short f.l else
  if f.kind = 5 then (if 1048576 < f.k ∧ f.k ≤ s.most then s else s.fill f.k) else s
def nW (f : Fd) (n : Nat) : Nat := if f.kind = 6 then n + 1 else n
theorem kinds8 (k : Int) : k = 1 ∨ k = 2 ∨ k = 4 ∨ k = 8 ∨ k = 0 ∨ k = 3 ∨ k = 5 ∨ k = 6 ∨ (k ≠ 1 ∧ k ≠ 2 ∧ k ≠ 4 ∧ k ≠ 8 ∧ k ≠ 0 ∧ k ≠ 3 ∧ k ≠ 5 ∧ k ≠ 6) := by omega
theorem spF_int (l : List Nat) : ∃ h : Nat → Int, ∀ i, spF l i = .int .u8 (h i) := by
  refine ⟨fun i => if i < l.length then ((l.getD i 0 : Nat) : Int) else bits .xor .i64 165 (i : Int) % 256, fun i => ?_⟩
  dsimp only
  unfold spF
  by_cases h : i < l.length
  · rw [if_pos h, if_pos h]
  · rw [if_neg h, if_neg h]

/-- the end of a call of write -/
theorem work_done {w w2 w4 w6 : World} {F : Nat → Prop} {bx bw : Nat} {aw : Option Addr} {cw br : Nat} {ar : Option Addr} {cr : Nat} {at' : Option Addr} {ct n : Nat} {A : Nat → Option Addr} {C : Nat → Nat} {L : Nat → List Nat} {s : WS} {g : Nat}
    (c4 : Core w4 bx bw aw cw br ar cr at' ct n A C L s s) (hnew : ∀ k, CF bx bw aw br ar at' n A k → F k ∨ w2.heap.size ≤ k) (hF : ∀ k, F k → k < w.heap.size) (hg : w.heap.size ≤ g) (hg2 : g < w2.heap.size) (hs4 : w2.heap.size ≤ w4.heap.size) (hb : But (fun k => k = g) w4 w6) :
    Work w6 bx (ext F w w6) n s := by
  have hs := hb.size
  refine ⟨fun k hk => ?_, bw, aw, cw, br, ar, cr, at', ct, A, C, L, c4.but hb fun k hk e => ?_, fun k hk => ?_⟩
  · rcases hk with hk | hk
    · have := hF k hk; omega
    · exact hk.2
  · rcases hnew k hk with h | h
    · have := hF k h; omega
    · omega
  · rcases hnew k hk with h | h
    · exact .inl h
    · exact .inr ⟨by omega, by have := c4.lt hk; omega⟩
theorem but_op {w w2 w3 : World} {S : Nat → Prop} {v : Value} {i : Nat} (hS : ∀ k, S k → k < w.heap.size) (hb : But S w2 w3) (d : w2.cell? ⟨w.heap.size, i, none⟩ = some v) : w3.cell? ⟨w.heap.size, i, none⟩ = some v :=
  (hb.cell (p := ⟨w.heap.size, i, none⟩) (block_lt_of_cell d) fun h => by have : w.heap.size < w.heap.size := hS _ h; omega).trans d
theorem but_F {w w2 w3 : World} {F S : Nat → Prop} (h : But F w w2) (hb : But S w2 w3) (hS : ∀ k, S k → F k ∨ w.heap.size ≤ k) : But F w w3 := h.trans hb fun k hk hs => by
  rcases hS k hs with h | h
  · exact h
  · omega

theorem But.fromDrew {S : Nat → Prop} {w w' : World} (h : But S w w') : But S w.drew w' := ⟨h.os, h.tape, h.output, h.size, h.block⟩
theorem two_but {w2 w3 w4 : World} {F : Nat → Prop} {bx bw : Nat} {aw : Option Addr} {br : Nat} {ar : Option Addr} {at' : Option Addr} {n : Nat} {A : Nat → Option Addr} (hcl : ∀ k, CF bx bw aw br ar at' n A k → F k) (h3 : But (Ft bw aw) w2.drew w3) (h4 : But (Ft br ar) w3.drew w4) : But F w2 w4 :=
  (((But.refl F w2).drew.trans h3 fun k _ hk => hcl k (.inr (.inl hk))).drew).trans h4 fun k _ hk => hcl k (.inr (.inr (.inl hk)))
theorem two_new {w2 w3 : World} {F : Nat → Prop} {bx bw : Nat} {aw aw3 : Option Addr} {br : Nat} {ar ar4 : Option Addr} {at' : Option Addr} {n : Nat} {A : Nat → Option Addr} (hcl : ∀ k, CF bx bw aw br ar at' n A k → F k) (h3 : New w2.drew aw aw3) (h4 : New w3.drew ar ar4) (hs : w2.drew.heap.size ≤ w3.heap.size) :
    ∀ k, CF bx bw aw3 br ar4 at' n A k → F k ∨ w2.heap.size ≤ k := by
  have hs' : w2.heap.size ≤ w3.heap.size := hs
  rintro k (e | (e | ⟨x, hx, e⟩) | (e | ⟨x, hx, e⟩) | hk)
  · exact .inl (hcl k (.inl e))
  · exact .inl (hcl k (.inr (.inl (.inl e))))
  · rcases h3 x hx with ⟨y, hy, e2⟩ | h
    · exact .inl (hcl k (.inr (.inl (.inr ⟨y, hy, e2.trans e⟩))))
    · exact .inr (by have : w2.heap.size ≤ x.block := h; omega)
  · exact .inl (hcl k (.inr (.inr (.inl (.inl e)))))
  · rcases h4 x hx with ⟨y, hy, e2⟩ | h
    · exact .inl (hcl k (.inr (.inr (.inl (.inr ⟨y, hy, e2.trans e⟩)))))
    · exact .inr (by have : w3.heap.size ≤ x.block := h; omega)
  · exact .inl (hcl k (.inr (.inr (.inr hk))))

set_option maxRecDepth 100000 in
set_option maxHeartbeats 16000000 in
theorem write_any (w : World) (bx : Nat) (F : Nat → Prop) (n : Nat) (s : WS) (f : Fd) (h : Work w bx F n s) (hf : f.ok w) (hsep : ∀ x, f.a = some x → f.l ≠ [] → ¬ F x.block) (hn : n + 1 ≤ 2932031007410) :
    Calls Try.prog 9 #[.pointer (some ⟨bx, 0, none⟩), .agg f.cells] w fun e w' => e = .returned (.bool true) ∧ Work w' bx (ext F w w') (nW f n) (s.opW f) ∧ But F w w' := by
  obtain ⟨hF, bw, aw, cw, br, ar, cr, at', ct, A, C, L, hC, hcl⟩ := h
  obtain ⟨hfn, hfk, hfB, hfl⟩ := hf
  have hb1 : Below w.heap.size w (w.alloc (.cells f.cells 35)) := (Below.refl _ _).alloc (Nat.le_refl _) _
  have SP := hide (Spare_any _ f.a f.l.length f.c f.l (hfB.keep hb1) rfl (by omega))
  have HC := hide hC
  have HCL := hide hcl
  have HF := hide hF
  have HB := hide hfB
  have HSEP := hide hsep
  have HB1 := hide hb1
  have c0 : (w.alloc (.cells f.cells 35)).cell? ⟨w.heap.size, 0, none⟩ = some (.int .i64 f.kind) := by simp [Fd.cells]
  have c1 : (w.alloc (.cells f.cells 35)).cell? ⟨w.heap.size, 1, none⟩ = some (.int .u64 (f.n : Int)) := by simp [Fd.cells]
  have c2 : (w.alloc (.cells f.cells 35)).cell? ⟨w.heap.size, 2, none⟩ = some (.slice f.a f.l.length f.c) := by simp [Fd.cells]
  have c3 : (w.alloc (.cells f.cells 35)).cell? ⟨w.heap.size, 3, none⟩ = some (.int .i64 f.k) := by simp [Fd.cells]
  obtain ⟨kind, fn, fa, fc, l, k⟩ := f
  unfold Fd.cells at *
  dsimp only at *
  rw [size_alloc] at SP
  clear hC hcl hF hfB hsep hb1
  go_enter Try.func9, Try.ntmps9
  go_wp2_with fail
  refine SP.out.mono ?_
  rintro e w2 ⟨rfl, hrow, hb2⟩
  have d0 := (hb2.cell (p := ⟨w.heap.size, 0, none⟩) (Nat.lt_succ_self _)).trans c0
  have d1 := (hb2.cell (p := ⟨w.heap.size, 1, none⟩) (Nat.lt_succ_self _)).trans c1
  have d2 := (hb2.cell (p := ⟨w.heap.size, 2, none⟩) (Nat.lt_succ_self _)).trans c2
  have d3 := (hb2.cell (p := ⟨w.heap.size, 3, none⟩) (Nat.lt_succ_self _)).trans c3
  have HFW : Hid (∀ k, Ft bw aw k → k < w.heap.size) := fun k hk => HC.out.lt (.inr (.inl hk))
  have HFR : Hid (∀ k, Ft br ar k → k < w.heap.size) := fun k hk => HC.out.lt (.inr (.inr (.inl hk)))
  have HW2 := hide (bt HB1.out (by rw [size_alloc]; exact hb2))
  have C2 := hide (HC.out.keep HW2.out)
  have HROW := hide hrow
  have HSZ : Hid (w.heap.size + 1 < w2.heap.size) := hrow.lt
  clear c0 c1 c2 c3 hrow hb2 SP
  rcases kinds8 kind with rfl | rfl | rfl | rfl | rfl | rfl | rfl | rfl | ⟨h1, h2, h4, h8, h0, h3, h5, h6⟩
  · have e0 := C2.out.fx0
    have hw8 : IntKind.u8.wrap (fn : Int) = ((fn % 256 : Nat) : Int) := by rw [IntKind.wrap_u8']; omega
    have PT := hide (Put8_any w2.drew bw aw cw s (fn % 256) (Nat.mod_lt _ (by decide)) (C2.out.p.drew))
    rw [show numB (fn % 256) 1 = numB fn 1 from numB_mod fn 1 1 (Nat.le_refl _)] at PT
    generalize hx : fn % 256 = x at *
    clear hx
    go_wp2
    go_region_held3 (fun w' => w'.cell? ⟨bx, 0, none⟩ = some (.pointer (some ⟨bw, 0, none⟩)) ∧ w'.cell? ⟨w.heap.size, 1, none⟩ = some (.int .u64 (fn : Int)))
      (first | exact ⟨e0, d1⟩ | exact ⟨HC3.out.fx0, k1⟩)
      (first | (go_at_call 32; refine PT.out.mono ?_; rintro e w3 ⟨rfl, h3⟩; obtain ⟨aw3, cw3, hc3, hn3, hb3⟩ := (C2.out.keep ((Below.refl _ _).drew)).doW h3; have k1 := but_op HFW.out hb3 d1; have HC3 := hide hc3; have HN3 := hide hn3; have HB3 := hide hb3; clear h3 hc3 hn3 hb3))
    have e1 := HC3.out.fx1
    have RT := hide (rPut_any w3.drew br ar cr s fn 1 hfn (by decide) (HC3.out.r.drew))
    go_wp2
    go_region_held3 (fun w' => w'.cell? ⟨bx, 1, none⟩ = some (.pointer (some ⟨br, 0, none⟩)) ∧ w'.cell? ⟨w.heap.size, 1, none⟩ = some (.int .u64 (fn : Int)))
      (first | exact ⟨e1, k1⟩ | exact ⟨HC4.out.fx1, k2⟩)
      (first | (go_at_call 33; refine RT.out.mono ?_; rintro e w4 ⟨rfl, h4⟩; obtain ⟨ar4, cr4, hc4, hn4, hb4⟩ := (HC3.out.keep ((Below.refl _ _).drew)).doR h4; have k2 := but_op HFR.out hb4 k1; have HC4 := hide hc4; have HN4 := hide hn4; have HB4 := hide hb4; clear h4 hc4 hn4 hb4))
    have HBL := hide (two_but HCL.out HB3.out HB4.out)
    have HNEW := hide (two_new HCL.out HN3.out HN4.out HB3.out.size)
    have TBL : Hid (But F w2 w4) := HBL.out
    have dd2 := but_op (w := w) HF.out HBL.out d2
    have hrL := rowIs_but HROW.out HBL.out (fun h => by have : w.heap.size + 1 < w.heap.size := HF.out _ h; omega)
    have hbL := (HB.out.keep HW2.out).but HBL.out (fun x hx h0 => HSEP.out x hx h0)
    have KP := hide (Kept_any w4 (w.heap.size + 1) (l.length + 64) fa l.length l.length fc l hrL hbL rfl rfl rfl (by omega))
    have HRL := hide hrL
    clear hrL hbL
    go_wp2_with fail
    refine KP.out.mono ?_
    rintro e w5 ⟨rfl, hb5⟩
    obtain ⟨hz, hhz⟩ := spF_int l
    have HR5 := hide ((rowIs_below HRL.out hb5).congr (g := fun i => .int .u8 (hz i)) fun i _ => hhz i)
    have HB5 := hide hb5
    clear hhz hb5
    go_wp2
    go_loopw [11] (fun i wx => ∃ (j : Nat) (q : Nat → Int), j ≤ l.length ∧ i = .int .i64 j ∧ (wx.rowIs (w.heap.size + 1) 5 (l.length + 64) (fun i => .int .u8 (q i)) ∧ But (fun k => k = w.heap.size + 1) w5 wx)) (fun i _ => l.length - (intOf i).toNat)
    case atStart => exact ⟨0, hz, Nat.zero_le _, rfl, HR5.out, But.refl _ _⟩
    case round =>
      obtain ⟨j, q, hj, rfl, hG⟩ := hrel
      have HG := hide hG
      clear hG
      by_cases hlt : j < l.length
      · have hi : (j : Int) < (l.length : Int) := by omega
        have cg := HG.out.1.cell (i := j) (by omega)
        have fg := HG.out.1.frozen j
        generalize hq : q j = qj at cg
        go_wp2
        go_roundw
        case rel =>
          refine ⟨j + 1, fun i => if i = j then (bits BinOp.xor IntKind.u8 (if IntKind.u8.signed = true then -1 else IntKind.u8.max) qj) else q i, by omega, by go_num, (HG.out.1.set j _).congr fun i hi => ?_, HG.out.2.setCell (p := ⟨w.heap.size + 1, j, none⟩) (fun _ => rfl) _⟩
          dsimp only
          split <;> rfl
        case measure => simp [intOf]; omega
      · obtain rfl : j = l.length := by omega
        go_wp2
        go_ret
        refine ⟨rfl, ?_, ?_⟩
        · rw [show nW (⟨1, fn, fa, fc, l, k⟩ : Fd) n = n from rfl, show s.opW (⟨1, fn, fa, fc, l, k⟩ : Fd) = s.put (numB fn 1) by unfold WS.opW; simp]
          exact work_done (w2 := w2) (HC4.out.keep HB5.out) HNEW.out HF.out (Nat.le_succ _) HSZ.out (Nat.le_trans HBL.out.size HB5.out.size) HG.out.2
        · exact but_F (but_F (but_F (But.ofBelow HW2.out) HBL.out fun k hk => .inl hk) (But.ofBelow (S := fun _ => False) HB5.out) fun k hk => hk.elim) HG.out.2 fun k hk => .inr (by rw [hk]; exact Nat.le_succ _)
  · have e0 := C2.out.fx0
    have hw8 : IntKind.u16.wrap (fn : Int) = ((fn % 65536 : Nat) : Int) := by rw [IntKind.wrap_u16]; omega
    have PT := hide (Put16_any w2.drew bw aw cw s (fn % 65536) (Nat.mod_lt _ (by decide)) (C2.out.p.drew))
    rw [show numB (fn % 65536) 2 = numB fn 2 from numB_mod fn 2 2 (Nat.le_refl _)] at PT
    generalize hx : fn % 65536 = x at *
    clear hx
    go_wp2
    go_region_held3 (fun w' => w'.cell? ⟨bx, 0, none⟩ = some (.pointer (some ⟨bw, 0, none⟩)) ∧ w'.cell? ⟨w.heap.size, 1, none⟩ = some (.int .u64 (fn : Int)))
      (first | exact ⟨e0, d1⟩ | exact ⟨HC3.out.fx0, k1⟩)
      (first | (go_at_call 34; refine PT.out.mono ?_; rintro e w3 ⟨rfl, h3⟩; obtain ⟨aw3, cw3, hc3, hn3, hb3⟩ := (C2.out.keep ((Below.refl _ _).drew)).doW h3; have k1 := but_op HFW.out hb3 d1; have HC3 := hide hc3; have HN3 := hide hn3; have HB3 := hide hb3; clear h3 hc3 hn3 hb3))
    have e1 := HC3.out.fx1
    have RT := hide (rPut_any w3.drew br ar cr s fn 2 hfn (by decide) (HC3.out.r.drew))
    go_wp2
    go_region_held3 (fun w' => w'.cell? ⟨bx, 1, none⟩ = some (.pointer (some ⟨br, 0, none⟩)) ∧ w'.cell? ⟨w.heap.size, 1, none⟩ = some (.int .u64 (fn : Int)))
      (first | exact ⟨e1, k1⟩ | exact ⟨HC4.out.fx1, k2⟩)
      (first | (go_at_call 33; refine RT.out.mono ?_; rintro e w4 ⟨rfl, h4⟩; obtain ⟨ar4, cr4, hc4, hn4, hb4⟩ := (HC3.out.keep ((Below.refl _ _).drew)).doR h4; have k2 := but_op HFR.out hb4 k1; have HC4 := hide hc4; have HN4 := hide hn4; have HB4 := hide hb4; clear h4 hc4 hn4 hb4))
    have HBL := hide (two_but HCL.out HB3.out HB4.out)
    have HNEW := hide (two_new HCL.out HN3.out HN4.out HB3.out.size)
    have TBL : Hid (But F w2 w4) := HBL.out
    have dd2 := but_op (w := w) HF.out HBL.out d2
    have hrL := rowIs_but HROW.out HBL.out (fun h => by have : w.heap.size + 1 < w.heap.size := HF.out _ h; omega)
    have hbL := (HB.out.keep HW2.out).but HBL.out (fun x hx h0 => HSEP.out x hx h0)
    have KP := hide (Kept_any w4 (w.heap.size + 1) (l.length + 64) fa l.length l.length fc l hrL hbL rfl rfl rfl (by omega))
    have HRL := hide hrL
    clear hrL hbL
    go_wp2_with fail
    refine KP.out.mono ?_
    rintro e w5 ⟨rfl, hb5⟩
    obtain ⟨hz, hhz⟩ := spF_int l
    have HR5 := hide ((rowIs_below HRL.out hb5).congr (g := fun i => .int .u8 (hz i)) fun i _ => hhz i)
    have HB5 := hide hb5
    clear hhz hb5
    go_wp2
    go_loopw [11] (fun i wx => ∃ (j : Nat) (q : Nat → Int), j ≤ l.length ∧ i = .int .i64 j ∧ (wx.rowIs (w.heap.size + 1) 5 (l.length + 64) (fun i => .int .u8 (q i)) ∧ But (fun k => k = w.heap.size + 1) w5 wx)) (fun i _ => l.length - (intOf i).toNat)
    case atStart => exact ⟨0, hz, Nat.zero_le _, rfl, HR5.out, But.refl _ _⟩
    case round =>
      obtain ⟨j, q, hj, rfl, hG⟩ := hrel
      have HG := hide hG
      clear hG
      by_cases hlt : j < l.length
      · have hi : (j : Int) < (l.length : Int) := by omega
        have cg := HG.out.1.cell (i := j) (by omega)
        have fg := HG.out.1.frozen j
        generalize hq : q j = qj at cg
        go_wp2
        go_roundw
        case rel =>
          refine ⟨j + 1, fun i => if i = j then (bits BinOp.xor IntKind.u8 (if IntKind.u8.signed = true then -1 else IntKind.u8.max) qj) else q i, by omega, by go_num, (HG.out.1.set j _).congr fun i hi => ?_, HG.out.2.setCell (p := ⟨w.heap.size + 1, j, none⟩) (fun _ => rfl) _⟩
          dsimp only
          split <;> rfl
        case measure => simp [intOf]; omega
      · obtain rfl : j = l.length := by omega
        go_wp2
        go_ret
        refine ⟨rfl, ?_, ?_⟩
        · rw [show nW (⟨2, fn, fa, fc, l, k⟩ : Fd) n = n from rfl, show s.opW (⟨2, fn, fa, fc, l, k⟩ : Fd) = s.put (numB fn 2) by unfold WS.opW; simp]
          exact work_done (w2 := w2) (HC4.out.keep HB5.out) HNEW.out HF.out (Nat.le_succ _) HSZ.out (Nat.le_trans HBL.out.size HB5.out.size) HG.out.2
        · exact but_F (but_F (but_F (But.ofBelow HW2.out) HBL.out fun k hk => .inl hk) (But.ofBelow (S := fun _ => False) HB5.out) fun k hk => hk.elim) HG.out.2 fun k hk => .inr (by rw [hk]; exact Nat.le_succ _)
  · have e0 := C2.out.fx0
    have hw8 : IntKind.u32.wrap (fn : Int) = ((fn % 4294967296 : Nat) : Int) := by rw [IntKind.wrap_u32']; omega
    have PT := hide (Put32_any w2.drew bw aw cw s (fn % 4294967296) (Nat.mod_lt _ (by decide)) (C2.out.p.drew))
    rw [show numB (fn % 4294967296) 4 = numB fn 4 from numB_mod fn 4 4 (Nat.le_refl _)] at PT
    generalize hx : fn % 4294967296 = x at *
    clear hx
    go_wp2
    go_region_held3 (fun w' => w'.cell? ⟨bx, 0, none⟩ = some (.pointer (some ⟨bw, 0, none⟩)) ∧ w'.cell? ⟨w.heap.size, 1, none⟩ = some (.int .u64 (fn : Int)))
      (first | exact ⟨e0, d1⟩ | exact ⟨HC3.out.fx0, k1⟩)
      (first | (go_at_call 35; refine PT.out.mono ?_; rintro e w3 ⟨rfl, h3⟩; obtain ⟨aw3, cw3, hc3, hn3, hb3⟩ := (C2.out.keep ((Below.refl _ _).drew)).doW h3; have k1 := but_op HFW.out hb3 d1; have HC3 := hide hc3; have HN3 := hide hn3; have HB3 := hide hb3; clear h3 hc3 hn3 hb3))
    have e1 := HC3.out.fx1
    have RT := hide (rPut_any w3.drew br ar cr s fn 4 hfn (by decide) (HC3.out.r.drew))
    go_wp2
    go_region_held3 (fun w' => w'.cell? ⟨bx, 1, none⟩ = some (.pointer (some ⟨br, 0, none⟩)) ∧ w'.cell? ⟨w.heap.size, 1, none⟩ = some (.int .u64 (fn : Int)))
      (first | exact ⟨e1, k1⟩ | exact ⟨HC4.out.fx1, k2⟩)
      (first | (go_at_call 33; refine RT.out.mono ?_; rintro e w4 ⟨rfl, h4⟩; obtain ⟨ar4, cr4, hc4, hn4, hb4⟩ := (HC3.out.keep ((Below.refl _ _).drew)).doR h4; have k2 := but_op HFR.out hb4 k1; have HC4 := hide hc4; have HN4 := hide hn4; have HB4 := hide hb4; clear h4 hc4 hn4 hb4))
    have HBL := hide (two_but HCL.out HB3.out HB4.out)
    have HNEW := hide (two_new HCL.out HN3.out HN4.out HB3.out.size)
    have TBL : Hid (But F w2 w4) := HBL.out
    have dd2 := but_op (w := w) HF.out HBL.out d2
    have hrL := rowIs_but HROW.out HBL.out (fun h => by have : w.heap.size + 1 < w.heap.size := HF.out _ h; omega)
    have hbL := (HB.out.keep HW2.out).but HBL.out (fun x hx h0 => HSEP.out x hx h0)
    have KP := hide (Kept_any w4 (w.heap.size + 1) (l.length + 64) fa l.length l.length fc l hrL hbL rfl rfl rfl (by omega))
    have HRL := hide hrL
    clear hrL hbL
    go_wp2_with fail
    refine KP.out.mono ?_
    rintro e w5 ⟨rfl, hb5⟩
    obtain ⟨hz, hhz⟩ := spF_int l
    have HR5 := hide ((rowIs_below HRL.out hb5).congr (g := fun i => .int .u8 (hz i)) fun i _ => hhz i)
    have HB5 := hide hb5
    clear hhz hb5
    go_wp2
    go_loopw [11] (fun i wx => ∃ (j : Nat) (q : Nat → Int), j ≤ l.length ∧ i = .int .i64 j ∧ (wx.rowIs (w.heap.size + 1) 5 (l.length + 64) (fun i => .int .u8 (q i)) ∧ But (fun k => k = w.heap.size + 1) w5 wx)) (fun i _ => l.length - (intOf i).toNat)
    case atStart => exact ⟨0, hz, Nat.zero_le _, rfl, HR5.out, But.refl _ _⟩
    case round =>
      obtain ⟨j, q, hj, rfl, hG⟩ := hrel
      have HG := hide hG
      clear hG
      by_cases hlt : j < l.length
      · have hi : (j : Int) < (l.length : Int) := by omega
        have cg := HG.out.1.cell (i := j) (by omega)
        have fg := HG.out.1.frozen j
        generalize hq : q j = qj at cg
        go_wp2
        go_roundw
        case rel =>
          refine ⟨j + 1, fun i => if i = j then (bits BinOp.xor IntKind.u8 (if IntKind.u8.signed = true then -1 else IntKind.u8.max) qj) else q i, by omega, by go_num, (HG.out.1.set j _).congr fun i hi => ?_, HG.out.2.setCell (p := ⟨w.heap.size + 1, j, none⟩) (fun _ => rfl) _⟩
          dsimp only
          split <;> rfl
        case measure => simp [intOf]; omega
      · obtain rfl : j = l.length := by omega
        go_wp2
        go_ret
        refine ⟨rfl, ?_, ?_⟩
        · rw [show nW (⟨4, fn, fa, fc, l, k⟩ : Fd) n = n from rfl, show s.opW (⟨4, fn, fa, fc, l, k⟩ : Fd) = s.put (numB fn 4) by unfold WS.opW; simp]
          exact work_done (w2 := w2) (HC4.out.keep HB5.out) HNEW.out HF.out (Nat.le_succ _) HSZ.out (Nat.le_trans HBL.out.size HB5.out.size) HG.out.2
        · exact but_F (but_F (but_F (But.ofBelow HW2.out) HBL.out fun k hk => .inl hk) (But.ofBelow (S := fun _ => False) HB5.out) fun k hk => hk.elim) HG.out.2 fun k hk => .inr (by rw [hk]; exact Nat.le_succ _)
  · have e0 := C2.out.fx0
    have PT := hide (Put64_any w2.drew bw aw cw s fn hfn (C2.out.p.drew))
    go_wp2
    go_region_held3 (fun w' => w'.cell? ⟨bx, 0, none⟩ = some (.pointer (some ⟨bw, 0, none⟩)) ∧ w'.cell? ⟨w.heap.size, 1, none⟩ = some (.int .u64 (fn : Int)))
      (first | exact ⟨e0, d1⟩ | exact ⟨HC3.out.fx0, k1⟩)
      (first | (go_at_call 36; refine PT.out.mono ?_; rintro e w3 ⟨rfl, h3⟩; obtain ⟨aw3, cw3, hc3, hn3, hb3⟩ := (C2.out.keep ((Below.refl _ _).drew)).doW h3; have k1 := but_op HFW.out hb3 d1; have HC3 := hide hc3; have HN3 := hide hn3; have HB3 := hide hb3; clear h3 hc3 hn3 hb3))
    have e1 := HC3.out.fx1
    have RT := hide (rPut_any w3.drew br ar cr s fn 8 hfn (by decide) (HC3.out.r.drew))
    go_wp2
    go_region_held3 (fun w' => w'.cell? ⟨bx, 1, none⟩ = some (.pointer (some ⟨br, 0, none⟩)) ∧ w'.cell? ⟨w.heap.size, 1, none⟩ = some (.int .u64 (fn : Int)))
      (first | exact ⟨e1, k1⟩ | exact ⟨HC4.out.fx1, k2⟩)
      (first | (go_at_call 33; refine RT.out.mono ?_; rintro e w4 ⟨rfl, h4⟩; obtain ⟨ar4, cr4, hc4, hn4, hb4⟩ := (HC3.out.keep ((Below.refl _ _).drew)).doR h4; have k2 := but_op HFR.out hb4 k1; have HC4 := hide hc4; have HN4 := hide hn4; have HB4 := hide hb4; clear h4 hc4 hn4 hb4))
    have HBL := hide (two_but HCL.out HB3.out HB4.out)
    have HNEW := hide (two_new HCL.out HN3.out HN4.out HB3.out.size)
    have TBL : Hid (But F w2 w4) := HBL.out
    have dd2 := but_op (w := w) HF.out HBL.out d2
    have hrL := rowIs_but HROW.out HBL.out (fun h => by have : w.heap.size + 1 < w.heap.size := HF.out _ h; omega)
    have hbL := (HB.out.keep HW2.out).but HBL.out (fun x hx h0 => HSEP.out x hx h0)
    have KP := hide (Kept_any w4 (w.heap.size + 1) (l.length + 64) fa l.length l.length fc l hrL hbL rfl rfl rfl (by omega))
    have HRL := hide hrL
    clear hrL hbL
    go_wp2_with fail
    refine KP.out.mono ?_
    rintro e w5 ⟨rfl, hb5⟩
    obtain ⟨hz, hhz⟩ := spF_int l
    have HR5 := hide ((rowIs_below HRL.out hb5).congr (g := fun i => .int .u8 (hz i)) fun i _ => hhz i)
    have HB5 := hide hb5
    clear hhz hb5
    go_wp2
    go_loopw [11] (fun i wx => ∃ (j : Nat) (q : Nat → Int), j ≤ l.length ∧ i = .int .i64 j ∧ (wx.rowIs (w.heap.size + 1) 5 (l.length + 64) (fun i => .int .u8 (q i)) ∧ But (fun k => k = w.heap.size + 1) w5 wx)) (fun i _ => l.length - (intOf i).toNat)
    case atStart => exact ⟨0, hz, Nat.zero_le _, rfl, HR5.out, But.refl _ _⟩
    case round =>
      obtain ⟨j, q, hj, rfl, hG⟩ := hrel
      have HG := hide hG
      clear hG
      by_cases hlt : j < l.length
      · have hi : (j : Int) < (l.length : Int) := by omega
        have cg := HG.out.1.cell (i := j) (by omega)
        have fg := HG.out.1.frozen j
        generalize hq : q j = qj at cg
        go_wp2
        go_roundw
        case rel =>
          refine ⟨j + 1, fun i => if i = j then (bits BinOp.xor IntKind.u8 (if IntKind.u8.signed = true then -1 else IntKind.u8.max) qj) else q i, by omega, by go_num, (HG.out.1.set j _).congr fun i hi => ?_, HG.out.2.setCell (p := ⟨w.heap.size + 1, j, none⟩) (fun _ => rfl) _⟩
          dsimp only
          split <;> rfl
        case measure => simp [intOf]; omega
      · obtain rfl : j = l.length := by omega
        go_wp2
        go_ret
        refine ⟨rfl, ?_, ?_⟩
        · rw [show nW (⟨8, fn, fa, fc, l, k⟩ : Fd) n = n from rfl, show s.opW (⟨8, fn, fa, fc, l, k⟩ : Fd) = s.put (numB fn 8) by unfold WS.opW; simp]
          exact work_done (w2 := w2) (HC4.out.keep HB5.out) HNEW.out HF.out (Nat.le_succ _) HSZ.out (Nat.le_trans HBL.out.size HB5.out.size) HG.out.2
        · exact but_F (but_F (but_F (But.ofBelow HW2.out) HBL.out fun k hk => .inl hk) (But.ofBelow (S := fun _ => False) HB5.out) fun k hk => hk.elim) HG.out.2 fun k hk => .inr (by rw [hk]; exact Nat.le_succ _)
  · have e0 := C2.out.fx0
    have PT := hide (Raw_any w2 bw aw cw s (some ⟨w.heap.size + 1, 0, none⟩) l.length (l.length + 64) l C2.out.p (spare_bs HROW.out (by omega) HB.out.1 HB.out.2.1) rfl)
    go_wp2_with fail
    refine PT.out.mono ?_
    rintro e w3 ⟨rfl, h3⟩
    obtain ⟨aw3, cw3, hc3, hn3, hb3⟩ := C2.out.doW h3
    have k2 := but_op HFW.out hb3 d2
    have hb3' := hb3.fromDrew
    have HC3 := hide hc3
    have HN3 := hide hn3
    have HB3 := hide hb3'
    clear h3 hc3 hn3 hb3 hb3'
    have e1 := HC3.out.fx1
    have RT := hide (rRaw_any w3.drew br ar cr s fa l.length fc l (HC3.out.r.drew) ((((HB.out.keep HW2.out).keep (Below.refl _ _).drew).but HB3.out (fun x hx h0 h => HSEP.out x hx h0 (HCL.out _ (.inr (.inl h))))).keep (Below.refl _ _).drew) rfl (fun x hx h0 h => HSEP.out x hx h0 (HCL.out _ (.inr (.inr (.inl h))))) (by omega))
    go_wp2
    go_region_held3 (fun w' => w'.cell? ⟨bx, 1, none⟩ = some (.pointer (some ⟨br, 0, none⟩)) ∧ w'.cell? ⟨w.heap.size, 2, none⟩ = some (.slice fa l.length fc))
      (first | exact ⟨e1, k2⟩ | exact ⟨HC4.out.fx1, k3⟩)
      (first | (go_at_call 38; refine RT.out.mono ?_; rintro e w4 ⟨rfl, h4⟩; obtain ⟨ar4, cr4, hc4, hn4, hb4⟩ := (HC3.out.keep ((Below.refl _ _).drew)).doR h4; have k3 := but_op HFR.out hb4 k2; have HC4 := hide hc4; have HN4 := hide hn4; have HB4 := hide hb4; clear h4 hc4 hn4 hb4))
    have HBL := hide (two_but HCL.out HB3.out HB4.out)
    have HNEW := hide (two_new HCL.out HN3.out HN4.out HB3.out.size)
    have TBL : Hid (But F w2 w4) := HBL.out
    have dd2 := but_op (w := w) HF.out HBL.out d2
    have hrL := rowIs_but HROW.out HBL.out (fun h => by have : w.heap.size + 1 < w.heap.size := HF.out _ h; omega)
    have hbL := (HB.out.keep HW2.out).but HBL.out (fun x hx h0 => HSEP.out x hx h0)
    have KP := hide (Kept_any w4 (w.heap.size + 1) (l.length + 64) fa l.length l.length fc l hrL hbL rfl rfl rfl (by omega))
    have HRL := hide hrL
    clear hrL hbL
    go_wp2_with fail
    refine KP.out.mono ?_
    rintro e w5 ⟨rfl, hb5⟩
    obtain ⟨hz, hhz⟩ := spF_int l
    have HR5 := hide ((rowIs_below HRL.out hb5).congr (g := fun i => .int .u8 (hz i)) fun i _ => hhz i)
    have HB5 := hide hb5
    clear hhz hb5
    go_wp2
    go_loopw [11] (fun i wx => ∃ (j : Nat) (q : Nat → Int), j ≤ l.length ∧ i = .int .i64 j ∧ (wx.rowIs (w.heap.size + 1) 5 (l.length + 64) (fun i => .int .u8 (q i)) ∧ But (fun k => k = w.heap.size + 1) w5 wx)) (fun i _ => l.length - (intOf i).toNat)
    case atStart => exact ⟨0, hz, Nat.zero_le _, rfl, HR5.out, But.refl _ _⟩
    case round =>
      obtain ⟨j, q, hj, rfl, hG⟩ := hrel
      have HG := hide hG
      clear hG
      by_cases hlt : j < l.length
      · have hi : (j : Int) < (l.length : Int) := by omega
        have cg := HG.out.1.cell (i := j) (by omega)
        have fg := HG.out.1.frozen j
        generalize hq : q j = qj at cg
        go_wp2
        go_roundw
        case rel =>
          refine ⟨j + 1, fun i => if i = j then (bits BinOp.xor IntKind.u8 (if IntKind.u8.signed = true then -1 else IntKind.u8.max) qj) else q i, by omega, by go_num, (HG.out.1.set j _).congr fun i hi => ?_, HG.out.2.setCell (p := ⟨w.heap.size + 1, j, none⟩) (fun _ => rfl) _⟩
          dsimp only
          split <;> rfl
        case measure => simp [intOf]; omega
      · obtain rfl : j = l.length := by omega
        go_wp2
        go_ret
        refine ⟨rfl, ?_, ?_⟩
        · rw [show nW (⟨0, fn, fa, fc, l, k⟩ : Fd) n = n from rfl, show s.opW (⟨0, fn, fa, fc, l, k⟩ : Fd) = s.put l by unfold WS.opW; simp]
          exact work_done (w2 := w2) (HC4.out.keep HB5.out) HNEW.out HF.out (Nat.le_succ _) HSZ.out (Nat.le_trans HBL.out.size HB5.out.size) HG.out.2
        · exact but_F (but_F (but_F (But.ofBelow HW2.out) HBL.out fun k hk => .inl hk) (But.ofBelow (S := fun _ => False) HB5.out) fun k hk => hk.elim) HG.out.2 fun k hk => .inr (by rw [hk]; exact Nat.le_succ _)
  · have e0 := C2.out.fx0
    have PT := hide (Short_any w2 bw aw cw s (some ⟨w.heap.size + 1, 0, none⟩) l.length (l.length + 64) l C2.out.p (spare_bs HROW.out (by omega) HB.out.1 HB.out.2.1) rfl (fun x hx _ h => by simp only [Option.some.injEq] at hx; subst hx; have : w.heap.size + 1 < w.heap.size := HFW.out _ h; omega))
    go_wp2_with fail
    refine PT.out.mono ?_
    rintro e w3 ⟨rfl, h3⟩
    obtain ⟨aw3, cw3, hc3, hn3, hb3⟩ := C2.out.doW h3
    have k2 := but_op HFW.out hb3 d2
    have hb3' := hb3.fromDrew
    have HC3 := hide hc3
    have HN3 := hide hn3
    have HB3 := hide hb3'
    clear h3 hc3 hn3 hb3 hb3'
    have e1 := HC3.out.fx1
    have RT := hide (rShort_any w3.drew br ar cr s fa l.length fc l (HC3.out.r.drew) ((((HB.out.keep HW2.out).keep (Below.refl _ _).drew).but HB3.out (fun x hx h0 h => HSEP.out x hx h0 (HCL.out _ (.inr (.inl h))))).keep (Below.refl _ _).drew) rfl (fun x hx h0 h => HSEP.out x hx h0 (HCL.out _ (.inr (.inr (.inl h))))) (by omega))
    go_wp2
    go_region_held3 (fun w' => w'.cell? ⟨bx, 1, none⟩ = some (.pointer (some ⟨br, 0, none⟩)) ∧ w'.cell? ⟨w.heap.size, 2, none⟩ = some (.slice fa l.length fc))
      (first | exact ⟨e1, k2⟩ | exact ⟨HC4.out.fx1, k3⟩)
      (first | (go_at_call 40; refine RT.out.mono ?_; rintro e w4 ⟨rfl, h4⟩; obtain ⟨ar4, cr4, hc4, hn4, hb4⟩ := (HC3.out.keep ((Below.refl _ _).drew)).doR h4; have k3 := but_op HFR.out hb4 k2; have HC4 := hide hc4; have HN4 := hide hn4; have HB4 := hide hb4; clear h4 hc4 hn4 hb4))
    have HBL := hide (two_but HCL.out HB3.out HB4.out)
    have HNEW := hide (two_new HCL.out HN3.out HN4.out HB3.out.size)
    have TBL : Hid (But F w2 w4) := HBL.out
    have dd2 := but_op (w := w) HF.out HBL.out d2
    have hrL := rowIs_but HROW.out HBL.out (fun h => by have : w.heap.size + 1 < w.heap.size := HF.out _ h; omega)
    have hbL := (HB.out.keep HW2.out).but HBL.out (fun x hx h0 => HSEP.out x hx h0)
    have KP := hide (Kept_any w4 (w.heap.size + 1) (l.length + 64) fa l.length l.length fc l hrL hbL rfl rfl rfl (by omega))
    have HRL := hide hrL
    clear hrL hbL
    go_wp2_with fail
    refine KP.out.mono ?_
    rintro e w5 ⟨rfl, hb5⟩
    obtain ⟨hz, hhz⟩ := spF_int l
    have HR5 := hide ((rowIs_below HRL.out hb5).congr (g := fun i => .int .u8 (hz i)) fun i _ => hhz i)
    have HB5 := hide hb5
    clear hhz hb5
    go_wp2
    go_loopw [11] (fun i wx => ∃ (j : Nat) (q : Nat → Int), j ≤ l.length ∧ i = .int .i64 j ∧ (wx.rowIs (w.heap.size + 1) 5 (l.length + 64) (fun i => .int .u8 (q i)) ∧ But (fun k => k = w.heap.size + 1) w5 wx)) (fun i _ => l.length - (intOf i).toNat)
    case atStart => exact ⟨0, hz, Nat.zero_le _, rfl, HR5.out, But.refl _ _⟩
    case round =>
      obtain ⟨j, q, hj, rfl, hG⟩ := hrel
      have HG := hide hG
      clear hG
      by_cases hlt : j < l.length
      · have hi : (j : Int) < (l.length : Int) := by omega
        have cg := HG.out.1.cell (i := j) (by omega)
        have fg := HG.out.1.frozen j
        generalize hq : q j = qj at cg
        go_wp2
        go_roundw
        case rel =>
          refine ⟨j + 1, fun i => if i = j then (bits BinOp.xor IntKind.u8 (if IntKind.u8.signed = true then -1 else IntKind.u8.max) qj) else q i, by omega, by go_num, (HG.out.1.set j _).congr fun i hi => ?_, HG.out.2.setCell (p := ⟨w.heap.size + 1, j, none⟩) (fun _ => rfl) _⟩
          dsimp only
          split <;> rfl
        case measure => simp [intOf]; omega
      · obtain rfl : j = l.length := by omega
        go_wp2
        go_ret
        refine ⟨rfl, ?_, ?_⟩
        · rw [show nW (⟨3, fn, fa, fc, l, k⟩ : Fd) n = n from rfl, show s.opW (⟨3, fn, fa, fc, l, k⟩ : Fd) = s.short l by unfold WS.opW; simp]
          exact work_done (w2 := w2) (HC4.out.keep HB5.out) HNEW.out HF.out (Nat.le_succ _) HSZ.out (Nat.le_trans HBL.out.size HB5.out.size) HG.out.2
        · exact but_F (but_F (but_F (But.ofBelow HW2.out) HBL.out fun k hk => .inl hk) (But.ofBelow (S := fun _ => False) HB5.out) fun k hk => hk.elim) HG.out.2 fun k hk => .inr (by rw [hk]; exact Nat.le_succ _)
  · have e0 := C2.out.fx0
    have e1 := C2.out.fx1
    have m0 := C2.out.r.c0
    have LT : Hid (∀ w' : World, Calls Try.prog 21 #[.int .i64 k] w' fun x w'' => x = .returned (.bool (decide (1048576 < k))) ∧ w'' = w') := fun w' => Long_any w' k
    by_cases hl1 : 1048576 < k
    · rw [decide_eq_true hl1] at LT
      by_cases hl2 : k ≤ (s.most : Int)
      · have hop : s.opW (⟨5, fn, fa, fc, l, k⟩ : Fd) = s := by unfold WS.opW; simp [hl1, hl2]
        have HOP := hide hop
        clear hop
        go_wp2
        go_quiet (first | (go_at_call 21; exact Calls.quiet_of_same (LT.out _)))
        go_wp2
        go_ret
        refine ⟨rfl, ?_, But.ofBelow (bt HW2.out (drN _ _))⟩
        rw [show nW (⟨5, fn, fa, fc, l, k⟩ : Fd) n = n from rfl, HOP.out]
        exact work_done (w2 := w2) (C2.out.keep (drN _ _)) (fun k hk => .inl (HCL.out k hk)) HF.out (Nat.le_succ _) HSZ.out (Nat.le_refl _) (But.refl _ _)
      · have hlong : ¬ (1048576 < k ∧ k ≤ (s.most : Int)) := fun h => hl2 h.2
        have hop : s.opW (⟨5, fn, fa, fc, l, k⟩ : Fd) = s.fill k := by unfold WS.opW; simp [hlong]
        have HOP := hide hop
        clear hop
        go_wp2
        go_quiet (first | (go_at_call 21; exact Calls.quiet_of_same (LT.out _)))
        go_wp2
        generalize hwd : w2.drewN nq = wd at *
        have hBd : Below w2.heap.size w2 wd := by rw [← hwd]; exact drN _ _
        have g3 := (hBd.cell (p := ⟨w.heap.size, 3, none⟩) (block_lt_of_cell d3)).trans d3
        have g2 := (hBd.cell (p := ⟨w.heap.size, 2, none⟩) (block_lt_of_cell d2)).trans d2
        have CD := hide (C2.out.keep hBd)
        have HBD := hide hBd
        clear hwd hBd e0 e1 m0
        have e0 := CD.out.fx0
        have PT := hide (Fill_any wd.drew bw aw cw s k (CD.out.p.drew) hfk)
        go_region_held3 (fun w' => w'.cell? ⟨bx, 0, none⟩ = some (.pointer (some ⟨bw, 0, none⟩)) ∧ w'.cell? ⟨w.heap.size, 3, none⟩ = some (.int .i64 k))
          (first | exact ⟨e0, g3⟩ | exact ⟨HC3.out.fx0, k1⟩)
          (first | (go_at_call 23; refine PT.out.mono ?_; rintro e w3 ⟨rfl, h3⟩; obtain ⟨aw3, cw3, hc3, hn3, hb3⟩ := (CD.out.keep ((Below.refl _ _).drew)).doW h3; have k1 := but_op HFW.out hb3 g3; have HC3 := hide hc3; have HN3 := hide hn3; have HB3 := hide hb3; clear h3 hc3 hn3 hb3))
        have e1 := HC3.out.fx1
        have RT := hide (rFill_any w3.drew br ar cr s k (HC3.out.r.drew))
        go_wp2
        go_region_held3 (fun w' => w'.cell? ⟨bx, 1, none⟩ = some (.pointer (some ⟨br, 0, none⟩)) ∧ w'.cell? ⟨w.heap.size, 3, none⟩ = some (.int .i64 k))
          (first | exact ⟨e1, k1⟩ | exact ⟨HC4.out.fx1, k2⟩)
          (first | (go_at_call 41; refine RT.out.mono ?_; rintro e w4 ⟨rfl, h4⟩; obtain ⟨ar4, cr4, hc4, hn4, hb4⟩ := (HC3.out.keep ((Below.refl _ _).drew)).doR h4; have k2 := but_op HFR.out hb4 k1; have HC4 := hide hc4; have HN4 := hide hn4; have HB4 := hide hb4; clear h4 hc4 hn4 hb4))
        have HBL : Hid (But F w2 w4) := (But.ofBelow (S := F) HBD.out).trans (two_but HCL.out HB3.out HB4.out) fun _ _ h => h
        have HNEW : Hid (∀ k, CF bx bw aw3 br ar4 at' n A k → F k ∨ w2.heap.size ≤ k) := fun k hk => (two_new HCL.out HN3.out HN4.out HB3.out.size k hk).imp id fun h => Nat.le_trans HBD.out.size h
        have TBL : Hid (But F w2 w4) := HBL.out
        have dd2 := but_op (w := w) HF.out HBL.out d2
        have hrL := rowIs_but HROW.out HBL.out (fun h => by have : w.heap.size + 1 < w.heap.size := HF.out _ h; omega)
        have hbL := (HB.out.keep HW2.out).but HBL.out (fun x hx h0 => HSEP.out x hx h0)
        have KP := hide (Kept_any w4 (w.heap.size + 1) (l.length + 64) fa l.length l.length fc l hrL hbL rfl rfl rfl (by omega))
        have HRL := hide hrL
        clear hrL hbL
        go_wp2_with fail
        refine KP.out.mono ?_
        rintro e w5 ⟨rfl, hb5⟩
        obtain ⟨hz, hhz⟩ := spF_int l
        have HR5 := hide ((rowIs_below HRL.out hb5).congr (g := fun i => .int .u8 (hz i)) fun i _ => hhz i)
        have HB5 := hide hb5
        clear hhz hb5
        go_wp2
        go_loopw [11] (fun i wx => ∃ (j : Nat) (q : Nat → Int), j ≤ l.length ∧ i = .int .i64 j ∧ (wx.rowIs (w.heap.size + 1) 5 (l.length + 64) (fun i => .int .u8 (q i)) ∧ But (fun k => k = w.heap.size + 1) w5 wx)) (fun i _ => l.length - (intOf i).toNat)
        case atStart => exact ⟨0, hz, Nat.zero_le _, rfl, HR5.out, But.refl _ _⟩
        case round =>
          obtain ⟨j, q, hj, rfl, hG⟩ := hrel
          have HG := hide hG
          clear hG
          by_cases hlt : j < l.length
          · have hi : (j : Int) < (l.length : Int) := by omega
            have cg := HG.out.1.cell (i := j) (by omega)
            have fg := HG.out.1.frozen j
            generalize hq : q j = qj at cg
            go_wp2
            go_roundw
            case rel =>
              refine ⟨j + 1, fun i => if i = j then (bits BinOp.xor IntKind.u8 (if IntKind.u8.signed = true then -1 else IntKind.u8.max) qj) else q i, by omega, by go_num, (HG.out.1.set j _).congr fun i hi => ?_, HG.out.2.setCell (p := ⟨w.heap.size + 1, j, none⟩) (fun _ => rfl) _⟩
              dsimp only
              split <;> rfl
            case measure => simp [intOf]; omega
          · obtain rfl : j = l.length := by omega
            go_wp2
            go_ret
            refine ⟨rfl, ?_, ?_⟩
            · rw [show nW (⟨5, fn, fa, fc, l, k⟩ : Fd) n = n from rfl, HOP.out]
              exact work_done (w2 := w2) (HC4.out.keep HB5.out) HNEW.out HF.out (Nat.le_succ _) HSZ.out (Nat.le_trans HBL.out.size HB5.out.size) HG.out.2
            · exact but_F (but_F (but_F (But.ofBelow HW2.out) HBL.out fun k hk => .inl hk) (But.ofBelow (S := fun _ => False) HB5.out) fun k hk => hk.elim) HG.out.2 fun k hk => .inr (by rw [hk]; exact Nat.le_succ _)
    · rw [decide_eq_false hl1] at LT
      have hlong : ¬ (1048576 < k ∧ k ≤ (s.most : Int)) := fun h => hl1 h.1
      have hop : s.opW (⟨5, fn, fa, fc, l, k⟩ : Fd) = s.fill k := by unfold WS.opW; simp [hlong]
      have HOP := hide hop
      clear hop
      go_wp2
      go_quiet (first | (go_at_call 21; exact Calls.quiet_of_same (LT.out _)))
      go_wp2
      generalize hwd : w2.drewN nq = wd at *
      have hBd : Below w2.heap.size w2 wd := by rw [← hwd]; exact drN _ _
      have g3 := (hBd.cell (p := ⟨w.heap.size, 3, none⟩) (block_lt_of_cell d3)).trans d3
      have g2 := (hBd.cell (p := ⟨w.heap.size, 2, none⟩) (block_lt_of_cell d2)).trans d2
      have CD := hide (C2.out.keep hBd)
      have HBD := hide hBd
      clear hwd hBd e0 e1 m0
      have e0 := CD.out.fx0
      have PT := hide (Fill_any wd.drew bw aw cw s k (CD.out.p.drew) hfk)
      go_region_held3 (fun w' => w'.cell? ⟨bx, 0, none⟩ = some (.pointer (some ⟨bw, 0, none⟩)) ∧ w'.cell? ⟨w.heap.size, 3, none⟩ = some (.int .i64 k))
        (first | exact ⟨e0, g3⟩ | exact ⟨HC3.out.fx0, k1⟩)
        (first | (go_at_call 23; refine PT.out.mono ?_; rintro e w3 ⟨rfl, h3⟩; obtain ⟨aw3, cw3, hc3, hn3, hb3⟩ := (CD.out.keep ((Below.refl _ _).drew)).doW h3; have k1 := but_op HFW.out hb3 g3; have HC3 := hide hc3; have HN3 := hide hn3; have HB3 := hide hb3; clear h3 hc3 hn3 hb3))
      have e1 := HC3.out.fx1
      have RT := hide (rFill_any w3.drew br ar cr s k (HC3.out.r.drew))
      go_wp2
      go_region_held3 (fun w' => w'.cell? ⟨bx, 1, none⟩ = some (.pointer (some ⟨br, 0, none⟩)) ∧ w'.cell? ⟨w.heap.size, 3, none⟩ = some (.int .i64 k))
        (first | exact ⟨e1, k1⟩ | exact ⟨HC4.out.fx1, k2⟩)
        (first | (go_at_call 41; refine RT.out.mono ?_; rintro e w4 ⟨rfl, h4⟩; obtain ⟨ar4, cr4, hc4, hn4, hb4⟩ := (HC3.out.keep ((Below.refl _ _).drew)).doR h4; have k2 := but_op HFR.out hb4 k1; have HC4 := hide hc4; have HN4 := hide hn4; have HB4 := hide hb4; clear h4 hc4 hn4 hb4))
      have HBL : Hid (But F w2 w4) := (But.ofBelow (S := F) HBD.out).trans (two_but HCL.out HB3.out HB4.out) fun _ _ h => h
      have HNEW : Hid (∀ k, CF bx bw aw3 br ar4 at' n A k → F k ∨ w2.heap.size ≤ k) := fun k hk => (two_new HCL.out HN3.out HN4.out HB3.out.size k hk).imp id fun h => Nat.le_trans HBD.out.size h
      have TBL : Hid (But F w2 w4) := HBL.out
      have dd2 := but_op (w := w) HF.out HBL.out d2
      have hrL := rowIs_but HROW.out HBL.out (fun h => by have : w.heap.size + 1 < w.heap.size := HF.out _ h; omega)
      have hbL := (HB.out.keep HW2.out).but HBL.out (fun x hx h0 => HSEP.out x hx h0)
      have KP := hide (Kept_any w4 (w.heap.size + 1) (l.length + 64) fa l.length l.length fc l hrL hbL rfl rfl rfl (by omega))
      have HRL := hide hrL
      clear hrL hbL
      go_wp2_with fail
      refine KP.out.mono ?_
      rintro e w5 ⟨rfl, hb5⟩
      obtain ⟨hz, hhz⟩ := spF_int l
      have HR5 := hide ((rowIs_below HRL.out hb5).congr (g := fun i => .int .u8 (hz i)) fun i _ => hhz i)
      have HB5 := hide hb5
      clear hhz hb5
      go_wp2
      go_loopw [11] (fun i wx => ∃ (j : Nat) (q : Nat → Int), j ≤ l.length ∧ i = .int .i64 j ∧ (wx.rowIs (w.heap.size + 1) 5 (l.length + 64) (fun i => .int .u8 (q i)) ∧ But (fun k => k = w.heap.size + 1) w5 wx)) (fun i _ => l.length - (intOf i).toNat)
      case atStart => exact ⟨0, hz, Nat.zero_le _, rfl, HR5.out, But.refl _ _⟩
      case round =>
        obtain ⟨j, q, hj, rfl, hG⟩ := hrel
        have HG := hide hG
        clear hG
        by_cases hlt : j < l.length
        · have hi : (j : Int) < (l.length : Int) := by omega
          have cg := HG.out.1.cell (i := j) (by omega)
          have fg := HG.out.1.frozen j
          generalize hq : q j = qj at cg
          go_wp2
          go_roundw
          case rel =>
            refine ⟨j + 1, fun i => if i = j then (bits BinOp.xor IntKind.u8 (if IntKind.u8.signed = true then -1 else IntKind.u8.max) qj) else q i, by omega, by go_num, (HG.out.1.set j _).congr fun i hi => ?_, HG.out.2.setCell (p := ⟨w.heap.size + 1, j, none⟩) (fun _ => rfl) _⟩
            dsimp only
            split <;> rfl
          case measure => simp [intOf]; omega
        · obtain rfl : j = l.length := by omega
          go_wp2
          go_ret
          refine ⟨rfl, ?_, ?_⟩
          · rw [show nW (⟨5, fn, fa, fc, l, k⟩ : Fd) n = n from rfl, HOP.out]
            exact work_done (w2 := w2) (HC4.out.keep HB5.out) HNEW.out HF.out (Nat.le_succ _) HSZ.out (Nat.le_trans HBL.out.size HB5.out.size) HG.out.2
          · exact but_F (but_F (but_F (But.ofBelow HW2.out) HBL.out fun k hk => .inl hk) (But.ofBelow (S := fun _ => False) HB5.out) fun k hk => hk.elim) HG.out.2 fun k hk => .inr (by rw [hk]; exact Nat.le_succ _)
  · by_cases he : s.e = 0
    · skip
      have e0 := C2.out.fx0
      have DN := hide (Done_ok w2 bw aw cw s C2.out.p he)
      go_wp2_with fail
      refine DN.out.mono ?_
      rintro e w3 ⟨a5, c5, rfl, h5R, h5n, h5b⟩
      have DR := hide (rDone_ok w3 br ar cr s (C2.out.r.keep h5b) he)
      have e1 := (C2.out.keep h5b).fx1
      have R5 := hide h5R
      have N5 := hide h5n
      have B5 := hide h5b
      clear h5R h5n h5b
      go_wp2_with fail
      refine DR.out.mono ?_
      rintro e w4 ⟨a6, c6, rfl, h6R, h6n, h6b⟩
      have EQ := hide (EqBytes_same w4 a5 a6 s.l.length s.l.length c5 c6 s.l ((R5.out.keep h6b).bs HC.out.p.2.2.2.2 R5.out.len_le) (h6R.bs HC.out.p.2.2.2.2 h6R.len_le) rfl rfl)
      have B6 := hide h6b
      clear h6R h6n h6b
      go_wp2_with fail
      refine EQ.out.mono ?_
      rintro e w5 ⟨rfl, hb5⟩
      have B7 := hide (bt (bt B5.out B6.out) hb5)
      have R7 := hide ((R5.out.keep B6.out).keep hb5)
      clear hb5
      have C5 := hide (C2.out.keep B7.out)
      have e2 := C5.out.fx2
      have hlx := (Array.getElem?_eq_some_iff.1 C5.out.x).1
      have hvl : ((List.range n).map fun i => Value.slice (A i) (L i).length (C i)).length = n := by simp
      have HFRS : Hid (∀ x, (a5 : Option Addr) = some x → ∀ k, CF bx bw aw br ar at' n A k → k ≠ x.block) := fun x hx k hk e => by
        rcases N5.out x hx with ⟨y, hy, _⟩ | h
        · cases hy
        · have := C2.out.lt hk; omega
      have HTL : Hid (∀ w6 g cap' o, Ar w6 (some ⟨g, 0, none⟩) cap' (((List.range n).map fun i => Value.slice (A i) (L i).length (C i)) ++ [.slice a5 s.l.length c5]) → New (w5.alloc o) at' (some ⟨g, 0, none⟩) → (w5.alloc o).grownBy w6 (at'.map Addr.block) → _) := fun w6 g cap' o h1 h2 h3 => C5.out.tell (gl := s.l) R7.out HFRS.out (by have := HC.out.p.2.2.1; have := HC.out.p.2.2.2.1; first | omega | (show 0 + 20 ≤ _; decide)) h1 h2 h3
      have HAR := hide C5.out.told.1
      generalize ((List.range n).map fun i => Value.slice (A i) (L i).length (C i)) = vs at HAR hvl HTL
      go_wp2_with (at_builtin; refine wpList_apR rfl _ _ rfl at' n ct vs ?qo1 hvl.symm (HAR.out.keep ((Below.refl _ _).alloc (Nat.le_refl _) _)) ⟨w5.heap.size, 0, none⟩ 1 (.slice a5 s.l.length c5) ?qo2 ?qo3 rfl (by omega) ?_)
      try case qo1 => rfl
      try case qo2 => rfl
      try case qo3 => simp
      intro g cap' w6 hR6 hN6 hg6
      obtain ⟨q2, qf, CT⟩ := HTL.out w6 g cap' _ hR6 hN6 hg6
      have HN6 : Hid (New w5 at' (some ⟨g, 0, none⟩)) := hN6.mono (by rw [size_alloc]; omega)
      have hq6 : w6.cell? ⟨w.heap.size, 2, none⟩ = some (.slice fa l.length fc) := but_op (w := w) (S := fun q => ∃ x, at' = some x ∧ x.block = q) (fun q ⟨x, hx, e⟩ => HC.out.lt (.inr (.inr (.inr (.inl ⟨x, hx, e⟩))))) (grown_but hg6) (by
        have h7 := (B7.out.cell (p := ⟨w.heap.size, 2, none⟩) (block_lt_of_cell d2)).trans d2
        exact (World.cell?_alloc_lt w5 _ ⟨w.heap.size, 2, none⟩ (block_lt_of_cell h7)).trans h7)
      have hneb : ¬ bx = w.heap.size := fun e => by have := HC.out.lt (k := bx) (.inl rfl); omega
      have hneb2 : ¬ w.heap.size = bx := fun e => hneb e.symm
      clear hR6 hN6 hg6 HTL HAR
      go_wp2_with fail
      clear hq6
      generalize w6.setCell ⟨bx, 2, none⟩ (.slice (some ⟨g, 0, none⟩) (n + 1) cap') = w7 at *
      have HC7 := hide CT.out.1
      have HBL : Hid (But F w2 w7) := (But.ofBelow B7.out).trans CT.out.2 fun k _ hk => by
        rcases hk with rfl | ⟨x, hx, e⟩
        · exact HCL.out _ (.inl rfl)
        · exact HCL.out _ (.inr (.inr (.inr (.inl ⟨x, hx, e⟩))))
      have HNEW : Hid (∀ k, CF bx bw aw br ar (some ⟨g, 0, none⟩) (n + 1) (fun i => if i = n then a5 else A i) k → F k ∨ w2.heap.size ≤ k) := by
        rintro k (e | e | e | ⟨x, hx, e⟩ | ⟨i, hi, x, hx, e⟩)
        · exact .inl (HCL.out _ (.inl e))
        · exact .inl (HCL.out _ (.inr (.inl e)))
        · exact .inl (HCL.out _ (.inr (.inr (.inl e))))
        · rcases HN6.out x hx with ⟨y, hy, e2⟩ | h
          · exact .inl (HCL.out _ (.inr (.inr (.inr (.inl ⟨y, hy, e2.trans e⟩)))))
          · exact .inr (by have := B7.out.size; omega)
        · dsimp only at hx
          by_cases e3 : i = n
          · rw [if_pos e3] at hx
            rcases N5.out x hx with ⟨y, hy, _⟩ | h
            · cases hy
            · exact .inr (by omega)
          · rw [if_neg e3] at hx
            exact .inl (HCL.out _ (.inr (.inr (.inr (.inr ⟨i, by omega, x, hx, e⟩)))))
      have TBL : Hid (But F w2 w7) := HBL.out
      have dd2 := but_op (w := w) HF.out HBL.out d2
      have hrL := rowIs_but HROW.out HBL.out (fun h => by have : w.heap.size + 1 < w.heap.size := HF.out _ h; omega)
      have hbL := (HB.out.keep HW2.out).but HBL.out (fun x hx h0 => HSEP.out x hx h0)
      have KP := hide (Kept_any w7 (w.heap.size + 1) (l.length + 64) fa l.length l.length fc l hrL hbL rfl rfl rfl (by omega))
      have HRL := hide hrL
      clear hrL hbL
      try go_wp2_with fail
      refine KP.out.mono ?_
      rintro e w5 ⟨rfl, hb5⟩
      obtain ⟨hz, hhz⟩ := spF_int l
      have HR5 := hide ((rowIs_below HRL.out hb5).congr (g := fun i => .int .u8 (hz i)) fun i _ => hhz i)
      have HB5 := hide hb5
      clear hhz hb5
      go_wp2
      go_loopw [11] (fun i wx => ∃ (j : Nat) (q : Nat → Int), j ≤ l.length ∧ i = .int .i64 j ∧ (wx.rowIs (w.heap.size + 1) 5 (l.length + 64) (fun i => .int .u8 (q i)) ∧ But (fun k => k = w.heap.size + 1) w5 wx)) (fun i _ => l.length - (intOf i).toNat)
      case atStart => exact ⟨0, hz, Nat.zero_le _, rfl, HR5.out, But.refl _ _⟩
      case round =>
        obtain ⟨j, q, hj, rfl, hG⟩ := hrel
        have HG := hide hG
        clear hG
        by_cases hlt : j < l.length
        · have hi : (j : Int) < (l.length : Int) := by omega
          have cg := HG.out.1.cell (i := j) (by omega)
          have fg := HG.out.1.frozen j
          generalize hq : q j = qj at cg
          go_wp2
          go_roundw
          case rel =>
            refine ⟨j + 1, fun i => if i = j then (bits BinOp.xor IntKind.u8 (if IntKind.u8.signed = true then -1 else IntKind.u8.max) qj) else q i, by omega, by go_num, (HG.out.1.set j _).congr fun i hi => ?_, HG.out.2.setCell (p := ⟨w.heap.size + 1, j, none⟩) (fun _ => rfl) _⟩
            dsimp only
            split <;> rfl
          case measure => simp [intOf]; omega
        · obtain rfl : j = l.length := by omega
          go_wp2
          go_ret
          refine ⟨rfl, ?_, ?_⟩
          · rw [show nW (⟨6, fn, fa, fc, l, k⟩ : Fd) n = n + 1 from rfl, show s.opW (⟨6, fn, fa, fc, l, k⟩ : Fd) = s by unfold WS.opW; simp]
            exact work_done (w2 := w2) (HC7.out.keep HB5.out) HNEW.out HF.out (Nat.le_succ _) HSZ.out (Nat.le_trans HBL.out.size HB5.out.size) HG.out.2
          · exact but_F (but_F (but_F (But.ofBelow HW2.out) HBL.out fun k hk => .inl hk) (But.ofBelow (S := fun _ => False) HB5.out) fun k hk => hk.elim) HG.out.2 fun k hk => .inr (by rw [hk]; exact Nat.le_succ _)
    · skip
      have e0 := C2.out.fx0
      have DN := hide (Done_err w2 bw aw cw s C2.out.p he)
      go_wp2_with fail
      refine DN.out.mono ?_
      rintro e w3 ⟨rfl, h5b⟩
      have DR := hide (rDone_err w3 br ar cr s (C2.out.r.keep h5b) he)
      have e1 := (C2.out.keep h5b).fx1
      have B5 := hide h5b
      clear h5b
      go_wp2_with fail
      refine DR.out.mono ?_
      rintro e w4 ⟨rfl, h6b⟩
      have EQ := hide (EqBytes_same w4 none none 0 0 0 0 [] (Bs.nil _) (Bs.nil _) rfl rfl)
      have B6 := hide h6b
      clear h6b
      go_wp2_with fail
      refine EQ.out.mono ?_
      rintro e w5 ⟨rfl, hb5⟩
      have B7 := hide (bt (bt B5.out B6.out) hb5)
      have R7 := hide (Rw.nil w5)
      have N5 := hide (New.none w2 (none : Option Addr))
      clear hb5
      have C5 := hide (C2.out.keep B7.out)
      have e2 := C5.out.fx2
      have hlx := (Array.getElem?_eq_some_iff.1 C5.out.x).1
      have hvl : ((List.range n).map fun i => Value.slice (A i) (L i).length (C i)).length = n := by simp
      have HFRS : Hid (∀ x, (none : Option Addr) = some x → ∀ k, CF bx bw aw br ar at' n A k → k ≠ x.block) := fun x hx k hk e => by
        rcases N5.out x hx with ⟨y, hy, _⟩ | h
        · cases hy
        · have := C2.out.lt hk; omega
      have HTL : Hid (∀ w6 g cap' o, Ar w6 (some ⟨g, 0, none⟩) cap' (((List.range n).map fun i => Value.slice (A i) (L i).length (C i)) ++ [.slice none 0 0]) → New (w5.alloc o) at' (some ⟨g, 0, none⟩) → (w5.alloc o).grownBy w6 (at'.map Addr.block) → _) := fun w6 g cap' o h1 h2 h3 => C5.out.tell (gl := ([] : List Nat)) R7.out HFRS.out (by have := HC.out.p.2.2.1; have := HC.out.p.2.2.2.1; first | omega | (show 0 + 20 ≤ _; decide)) h1 h2 h3
      have HAR := hide C5.out.told.1
      generalize ((List.range n).map fun i => Value.slice (A i) (L i).length (C i)) = vs at HAR hvl HTL
      go_wp2_with (at_builtin; refine wpList_apR rfl _ _ rfl at' n ct vs ?qe1 hvl.symm (HAR.out.keep ((Below.refl _ _).alloc (Nat.le_refl _) _)) ⟨w5.heap.size, 0, none⟩ 1 (.slice none 0 0) ?qe2 ?qe3 rfl (by omega) ?_)
      try case qe1 => rfl
      try case qe2 => rfl
      try case qe3 => simp
      intro g cap' w6 hR6 hN6 hg6
      obtain ⟨q2, qf, CT⟩ := HTL.out w6 g cap' _ hR6 hN6 hg6
      have HN6 : Hid (New w5 at' (some ⟨g, 0, none⟩)) := hN6.mono (by rw [size_alloc]; omega)
      have hq6 : w6.cell? ⟨w.heap.size, 2, none⟩ = some (.slice fa l.length fc) := but_op (w := w) (S := fun q => ∃ x, at' = some x ∧ x.block = q) (fun q ⟨x, hx, e⟩ => HC.out.lt (.inr (.inr (.inr (.inl ⟨x, hx, e⟩))))) (grown_but hg6) (by
        have h7 := (B7.out.cell (p := ⟨w.heap.size, 2, none⟩) (block_lt_of_cell d2)).trans d2
        exact (World.cell?_alloc_lt w5 _ ⟨w.heap.size, 2, none⟩ (block_lt_of_cell h7)).trans h7)
      have hneb : ¬ bx = w.heap.size := fun e => by have := HC.out.lt (k := bx) (.inl rfl); omega
      have hneb2 : ¬ w.heap.size = bx := fun e => hneb e.symm
      clear hR6 hN6 hg6 HTL HAR
      go_wp2_with fail
      clear hq6
      generalize w6.setCell ⟨bx, 2, none⟩ (.slice (some ⟨g, 0, none⟩) (n + 1) cap') = w7 at *
      have HC7 := hide CT.out.1
      have HBL : Hid (But F w2 w7) := (But.ofBelow B7.out).trans CT.out.2 fun k _ hk => by
        rcases hk with rfl | ⟨x, hx, e⟩
        · exact HCL.out _ (.inl rfl)
        · exact HCL.out _ (.inr (.inr (.inr (.inl ⟨x, hx, e⟩))))
      have HNEW : Hid (∀ k, CF bx bw aw br ar (some ⟨g, 0, none⟩) (n + 1) (fun i => if i = n then none else A i) k → F k ∨ w2.heap.size ≤ k) := by
        rintro k (e | e | e | ⟨x, hx, e⟩ | ⟨i, hi, x, hx, e⟩)
        · exact .inl (HCL.out _ (.inl e))
        · exact .inl (HCL.out _ (.inr (.inl e)))
        · exact .inl (HCL.out _ (.inr (.inr (.inl e))))
        · rcases HN6.out x hx with ⟨y, hy, e2⟩ | h
          · exact .inl (HCL.out _ (.inr (.inr (.inr (.inl ⟨y, hy, e2.trans e⟩)))))
          · exact .inr (by have := B7.out.size; omega)
        · dsimp only at hx
          by_cases e3 : i = n
          · rw [if_pos e3] at hx
            rcases N5.out x hx with ⟨y, hy, _⟩ | h
            · cases hy
            · exact .inr (by omega)
          · rw [if_neg e3] at hx
            exact .inl (HCL.out _ (.inr (.inr (.inr (.inr ⟨i, by omega, x, hx, e⟩)))))
      have TBL : Hid (But F w2 w7) := HBL.out
      have dd2 := but_op (w := w) HF.out HBL.out d2
      have hrL := rowIs_but HROW.out HBL.out (fun h => by have : w.heap.size + 1 < w.heap.size := HF.out _ h; omega)
      have hbL := (HB.out.keep HW2.out).but HBL.out (fun x hx h0 => HSEP.out x hx h0)
      have KP := hide (Kept_any w7 (w.heap.size + 1) (l.length + 64) fa l.length l.length fc l hrL hbL rfl rfl rfl (by omega))
      have HRL := hide hrL
      clear hrL hbL
      try go_wp2_with fail
      refine KP.out.mono ?_
      rintro e w5 ⟨rfl, hb5⟩
      obtain ⟨hz, hhz⟩ := spF_int l
      have HR5 := hide ((rowIs_below HRL.out hb5).congr (g := fun i => .int .u8 (hz i)) fun i _ => hhz i)
      have HB5 := hide hb5
      clear hhz hb5
      go_wp2
      go_loopw [11] (fun i wx => ∃ (j : Nat) (q : Nat → Int), j ≤ l.length ∧ i = .int .i64 j ∧ (wx.rowIs (w.heap.size + 1) 5 (l.length + 64) (fun i => .int .u8 (q i)) ∧ But (fun k => k = w.heap.size + 1) w5 wx)) (fun i _ => l.length - (intOf i).toNat)
      case atStart => exact ⟨0, hz, Nat.zero_le _, rfl, HR5.out, But.refl _ _⟩
      case round =>
        obtain ⟨j, q, hj, rfl, hG⟩ := hrel
        have HG := hide hG
        clear hG
        by_cases hlt : j < l.length
        · have hi : (j : Int) < (l.length : Int) := by omega
          have cg := HG.out.1.cell (i := j) (by omega)
          have fg := HG.out.1.frozen j
          generalize hq : q j = qj at cg
          go_wp2
          go_roundw
          case rel =>
            refine ⟨j + 1, fun i => if i = j then (bits BinOp.xor IntKind.u8 (if IntKind.u8.signed = true then -1 else IntKind.u8.max) qj) else q i, by omega, by go_num, (HG.out.1.set j _).congr fun i hi => ?_, HG.out.2.setCell (p := ⟨w.heap.size + 1, j, none⟩) (fun _ => rfl) _⟩
            dsimp only
            split <;> rfl
          case measure => simp [intOf]; omega
        · obtain rfl : j = l.length := by omega
          go_wp2
          go_ret
          refine ⟨rfl, ?_, ?_⟩
          · rw [show nW (⟨6, fn, fa, fc, l, k⟩ : Fd) n = n + 1 from rfl, show s.opW (⟨6, fn, fa, fc, l, k⟩ : Fd) = s by unfold WS.opW; simp]
            exact work_done (w2 := w2) (HC7.out.keep HB5.out) HNEW.out HF.out (Nat.le_succ _) HSZ.out (Nat.le_trans HBL.out.size HB5.out.size) HG.out.2
          · exact but_F (but_F (but_F (But.ofBelow HW2.out) HBL.out fun k hk => .inl hk) (But.ofBelow (S := fun _ => False) HB5.out) fun k hk => hk.elim) HG.out.2 fun k hk => .inr (by rw [hk]; exact Nat.le_succ _)
  · have q1 := eqf h1
    have q2 := eqf h2
    have q4 := eqf h4
    have q8 := eqf h8
    have q0 := eqf h0
    have q3 := eqf h3
    have q5 := eqf h5
    have q6 := eqf h6
    have hop : s.opW (⟨kind, fn, fa, fc, l, k⟩ : Fd) = s := by unfold WS.opW; simp [h1, h2, h4, h8, h0, h3, h5]
    have hnw : nW (⟨kind, fn, fa, fc, l, k⟩ : Fd) n = n := by unfold nW; rw [if_neg h6]
    have HOP := hide hop
    have HNW := hide hnw
    have e0 := C2.out.fx0
    have e1 := C2.out.fx1
    have m1 := C2.out.r.c1
    clear h1 h2 h4 h8 h0 h3 h5 h6 hop hnw
    have LN : Hid (∀ m, Calls Try.prog 25 #[.pointer (some ⟨bw, 0, none⟩)] (w2.drewN m) fun x w' => x = .returned (.int .i64 (s.l.length : Int)) ∧ w' = w2.drewN m) := fun m => Len_any _ bw aw cw s (C2.out.p.keep (drN _ _))
    go_wp2
    go_quiet (first | (go_at_call 25; exact Calls.quiet_of_same (LN.out _)))
    generalize hwd : w2.drewN nq = wd at *
    have hBd : Below w2.heap.size w2 wd := by rw [← hwd]; exact drN _ _
    have HC4 := hide (C2.out.keep hBd)
    have HBL : Hid (But F w2 wd) := But.ofBelow hBd
    have HNEW : Hid (∀ k, CF bx bw aw br ar at' n A k → F k ∨ w2.heap.size ≤ k) := fun k hk => .inl (HCL.out k hk)
    clear hwd hBd e0 e1 m1
    have TBL : Hid (But F w2 wd) := HBL.out
    have dd2 := but_op (w := w) HF.out HBL.out d2
    have hrL := rowIs_but HROW.out HBL.out (fun h => by have : w.heap.size + 1 < w.heap.size := HF.out _ h; omega)
    have hbL := (HB.out.keep HW2.out).but HBL.out (fun x hx h0 => HSEP.out x hx h0)
    have KP := hide (Kept_any wd (w.heap.size + 1) (l.length + 64) fa l.length l.length fc l hrL hbL rfl rfl rfl (by omega))
    have HRL := hide hrL
    clear hrL hbL
    go_wp2_with fail
    refine KP.out.mono ?_
    rintro e w5 ⟨rfl, hb5⟩
    obtain ⟨hz, hhz⟩ := spF_int l
    have HR5 := hide ((rowIs_below HRL.out hb5).congr (g := fun i => .int .u8 (hz i)) fun i _ => hhz i)
    have HB5 := hide hb5
    clear hhz hb5
    go_wp2
    go_loopw [11] (fun i wx => ∃ (j : Nat) (q : Nat → Int), j ≤ l.length ∧ i = .int .i64 j ∧ (wx.rowIs (w.heap.size + 1) 5 (l.length + 64) (fun i => .int .u8 (q i)) ∧ But (fun k => k = w.heap.size + 1) w5 wx)) (fun i _ => l.length - (intOf i).toNat)
    case atStart => exact ⟨0, hz, Nat.zero_le _, rfl, HR5.out, But.refl _ _⟩
    case round =>
      obtain ⟨j, q, hj, rfl, hG⟩ := hrel
      have HG := hide hG
      clear hG
      by_cases hlt : j < l.length
      · have hi : (j : Int) < (l.length : Int) := by omega
        have cg := HG.out.1.cell (i := j) (by omega)
        have fg := HG.out.1.frozen j
        generalize hq : q j = qj at cg
        go_wp2
        go_roundw
        case rel =>
          refine ⟨j + 1, fun i => if i = j then (bits BinOp.xor IntKind.u8 (if IntKind.u8.signed = true then -1 else IntKind.u8.max) qj) else q i, by omega, by go_num, (HG.out.1.set j _).congr fun i hi => ?_, HG.out.2.setCell (p := ⟨w.heap.size + 1, j, none⟩) (fun _ => rfl) _⟩
          dsimp only
          split <;> rfl
        case measure => simp [intOf]; omega
      · obtain rfl : j = l.length := by omega
        go_wp2
        go_ret
        refine ⟨rfl, ?_, ?_⟩
        · rw [HNW.out, HOP.out]
          exact work_done (w2 := w2) (HC4.out.keep HB5.out) HNEW.out HF.out (Nat.le_succ _) HSZ.out (Nat.le_trans HBL.out.size HB5.out.size) HG.out.2
        · exact but_F (but_F (but_F (But.ofBelow HW2.out) HBL.out fun k hk => .inl hk) (But.ofBelow (S := fun _ => False) HB5.out) fun k hk => hk.elim) HG.out.2 fun k hk => .inr (by rw [hk]; exact Nat.le_succ _)
end Go.Proofs.Ytlkjpljfbmploaa
