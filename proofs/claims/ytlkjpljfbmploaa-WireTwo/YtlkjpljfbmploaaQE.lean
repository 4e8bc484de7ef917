import Derived.Test.YtlkjpljfbmploaaQD
import Derived.Deep.RegionHeld3
namespace Go.Proofs.Ytlkjpljfbmploaa
open Go.RowKit

theorem Get8_any (w : World) (b : Nat) (a : Option Addr) (cap : Nat) (s : RS) (h : Rd w b a cap s) :
    Calls Try.prog 45 #[.pointer (some ⟨b, 0, none⟩)] w fun x w' => x = .returned (.int .u8 (numV (s.raw 1).1 : Int)) ∧ DidR w w' b a (s.raw 1).2 := by
  by_cases hf : s.fail 1 = 0
  · obtain ⟨he, _, hk⟩ := RS.fail_zero hf
    have hr : s.raw 1 = (s.l.take 1, ⟨s.l.drop 1, 0⟩) := by unfold RS.raw; rw [hf, if_neg (by decide)]; rfl
    rw [hr]
    have h7 := Get8_ok w b a cap s h he (by omega)
    rw [he] at h7
    exact h7
  · have hr : s.raw 1 = ([], ⟨s.l, s.fail 1⟩) := by unfold RS.raw; rw [if_pos hf]
    rw [hr]
    exact Get8_pan w b a cap s h hf
theorem Get16_any (w : World) (b : Nat) (a : Option Addr) (cap : Nat) (s : RS) (h : Rd w b a cap s) :
    Calls Try.prog 47 #[.pointer (some ⟨b, 0, none⟩)] w fun x w' => x = .returned (.int .u16 (numV (s.raw 2).1 : Int)) ∧ DidR w w' b a (s.raw 2).2 := by
  by_cases hf : s.fail 2 = 0
  · obtain ⟨he, _, hk⟩ := RS.fail_zero hf
    have hr : s.raw 2 = (s.l.take 2, ⟨s.l.drop 2, 0⟩) := by unfold RS.raw; rw [hf, if_neg (by decide)]; rfl
    rw [hr]
    have h7 := Get16_ok w b a cap s h he (by omega)
    rw [he] at h7
    exact h7
  · have hr : s.raw 2 = ([], ⟨s.l, s.fail 2⟩) := by unfold RS.raw; rw [if_pos hf]
    rw [hr]
    exact Get16_pan w b a cap s h hf
theorem Get32_any (w : World) (b : Nat) (a : Option Addr) (cap : Nat) (s : RS) (h : Rd w b a cap s) :
    Calls Try.prog 48 #[.pointer (some ⟨b, 0, none⟩)] w fun x w' => x = .returned (.int .u32 (numV (s.raw 4).1 : Int)) ∧ DidR w w' b a (s.raw 4).2 := by
  by_cases hf : s.fail 4 = 0
  · obtain ⟨he, _, hk⟩ := RS.fail_zero hf
    have hr : s.raw 4 = (s.l.take 4, ⟨s.l.drop 4, 0⟩) := by unfold RS.raw; rw [hf, if_neg (by decide)]; rfl
    rw [hr]
    have h7 := Get32_ok w b a cap s h he (by omega)
    rw [he] at h7
    exact h7
  · have hr : s.raw 4 = ([], ⟨s.l, s.fail 4⟩) := by unfold RS.raw; rw [if_pos hf]
    rw [hr]
    exact Get32_pan w b a cap s h hf
theorem Get64_any (w : World) (b : Nat) (a : Option Addr) (cap : Nat) (s : RS) (h : Rd w b a cap s) :
    Calls Try.prog 49 #[.pointer (some ⟨b, 0, none⟩)] w fun x w' => x = .returned (.int .u64 (numV (s.raw 8).1 : Int)) ∧ DidR w w' b a (s.raw 8).2 := by
  by_cases hf : s.fail 8 = 0
  · obtain ⟨he, _, hk⟩ := RS.fail_zero hf
    have hr : s.raw 8 = (s.l.take 8, ⟨s.l.drop 8, 0⟩) := by unfold RS.raw; rw [hf, if_neg (by decide)]; rfl
    rw [hr]
    have h7 := Get64_ok w b a cap s h he (by omega)
    rw [he] at h7
    exact h7
  · have hr : s.raw 8 = ([], ⟨s.l, s.fail 8⟩) := by unfold RS.raw; rw [if_pos hf]
    rw [hr]
    exact Get64_pan w b a cap s h hf
theorem rGet_at (w : World) (b : Nat) (a : Option Addr) (cap : Nat) (full : List Nat) (s : RS) (k : Nat) (kk : Int) (e : kk = (k : Int)) (hk : k ≤ 8) (h : Rq w b a cap full s) :
    Calls Try.prog 46 #[.pointer (some ⟨b, 0, none⟩), .int .i64 kk] w fun x w' => x = .returned (.int .u64 (numV (s.raw kk).1 : Int)) ∧ DidQ w w' b a cap full (s.raw kk).2 := by
  subst e
  exact rRGet_any w b a cap full s k hk h
theorem rqLeft_any (w : World) (b : Nat) (a : Option Addr) (cap : Nat) (full : List Nat) (s : RS) (h : Rq w b a cap full s) :
    Calls Try.prog 18 #[.pointer (some ⟨b, 0, none⟩)] w fun x w' => x = .returned (.int .i64 (s.l.length : Int)) ∧ Below w.heap.size w w' := by
  obtain ⟨p, h, hl⟩ := h
  rw [hl, List.length_drop]
  exact rLeft_any w b a cap full p s.e h
theorem Rq.keep {w w' : World} {b : Nat} {a : Option Addr} {cap : Nat} {full : List Nat} {s : RS} (h : Rq w b a cap full s) (hb : Below w.heap.size w w') : Rq w' b a cap full s := h.but (S := fun _ => False) (But.ofBelow hb) fun _ _ hf => hf
theorem raw_lt (s : RS) (k : Nat) (kk : Int) (e : kk = (k : Int)) (h : ∀ x ∈ s.l, x < 256) : numV (s.raw kk).1 < 256 ^ k := by
  subst e
  have h1 := numV_lt (s.raw (k : Int)).1 fun x hx => h x ((raw_le s _).2 x hx)
  have h2 : (s.raw (k : Int)).1.length ≤ k := by
    unfold RS.raw
    split
    · exact Nat.zero_le _
    · rw [Int.toNat_natCast, List.length_take]; omega
  exact Nat.lt_of_lt_of_le h1 (Nat.pow_le_pow_right (by decide) h2)
theorem kinds9 (k : Int) : k = 1 ∨ k = 2 ∨ k = 4 ∨ k = 8 ∨ k = 0 ∨ k = 3 ∨ k = 5 ∨ k = 6 ∨ k = 7 ∨ (k ≠ 1 ∧ k ≠ 2 ∧ k ≠ 4 ∧ k ≠ 8 ∧ k ≠ 0 ∧ k ≠ 3 ∧ k ≠ 5 ∧ k ≠ 6 ∧ k ≠ 7) := by omega
section
variable {F : Nat → Prop} {w w1 w3 w4 w5 : World} {bx bp : Nat} {ap ap3 : Option Addr} {bq : Nat} {aq : Option Addr} {at' at2 : Option Addr} {n m2 : Nat} {A A2 : Nat → Option Addr} {s s3 : RS}
theorem LF_old (ha : ∀ k, AF ap3 s3 k → AF ap s k) : ∀ k, LF bx bp ap3 s3 bq aq at' n A k → LF bx bp ap s bq aq at' n A k := by
  rintro k (e | e | e | e | e)
  · exact .inl e
  · exact .inr (.inl e)
  · exact .inr (.inr (.inl (ha k e)))
  · exact .inr (.inr (.inr (.inl e)))
  · exact .inr (.inr (.inr (.inr e)))
theorem read_but (hcl : ∀ k, LF bx bp ap s bq aq at' n A k → F k) (hb1 : Below w.heap.size w w1) (h3 : But (fun k => k = bp) w1 w3) (h4 : But (fun k => k = bq) w3 w4) : But F w w4 :=
  ((But.ofBelow hb1).trans h3 fun k _ e => hcl k (.inr (.inl e))).trans h4 fun k _ e => hcl k (.inr (.inr (.inr (.inl (.inl e)))))
theorem fresh_ne {a3 : Option Addr} (hN : New w1 none a3) (ha : ∀ k, AF ap3 s3 k → AF ap s k) (hlt : ∀ k, LF bx bp ap s bq aq at' n A k → k < w1.heap.size) : ∀ x, a3 = some x → ∀ k, LF bx bp ap3 s3 bq aq at' n A k → k ≠ x.block := fun x hx k hk e => by
  have h1 := hlt k (LF_old ha k hk)
  rcases hN x hx with ⟨y, hy, _⟩ | h
  · cases hy
  · omega
theorem told_new {a3 : Option Addr} (hcl : ∀ k, LF bx bp ap s bq aq at' n A k → F k) (hN : New w1 none a3) (ha : ∀ k, AF ap3 s3 k → AF ap s k) (hs1 : w.heap.size ≤ w1.heap.size) (hs : w.heap.size ≤ w4.heap.size) (ht : ∀ k, TF at2 m2 A2 k → TF at' n A k ∨ w4.heap.size ≤ k ∨ ∃ x, a3 = some x ∧ x.block = k) :
    ∀ k, LF bx bp ap3 s3 bq aq at2 m2 A2 k → F k ∨ w.heap.size ≤ k := by
  rintro k (e | e | e | e | e)
  · exact .inl (hcl k (.inl e))
  · exact .inl (hcl k (.inr (.inl e)))
  · exact .inl (hcl k (.inr (.inr (.inl (ha k e)))))
  · exact .inl (hcl k (.inr (.inr (.inr (.inl e)))))
  · rcases ht k e with h | h | ⟨x, hx, rfl⟩
    · exact .inl (hcl k (.inr (.inr (.inr (.inr h)))))
    · exact .inr (by omega)
    · rcases hN x hx with ⟨y, hy, _⟩ | h
      · cases hy
      · exact .inr (by omega)
theorem told_but (hcl : ∀ k, LF bx bp ap s bq aq at' n A k → F k) (h : But F w w4) (h5 : But (fun k => k = bx ∨ ∃ x, at' = some x ∧ x.block = k) w4 w5) : But F w w5 := h.trans h5 fun k _ hk => by
  rcases hk with e | e
  · exact hcl k (.inl e)
  · exact hcl k (.inr (.inr (.inr (.inr (.inl e)))))
theorem Rw.past {a3 : Option Addr} {c3 : Nat} {l : List Nat} (hR : Rw w3 a3 c3 l) (hN : New w1 none a3) (hlt : bq < w1.heap.size) (hb : But (fun k => k = bq) w3 w4) : Rw w4 a3 c3 l := hR.but hb fun x hx e => by
  rcases hN x hx with ⟨y, hy, _⟩ | h
  · cases hy
  · have : x.block = bq := e
    omega
end

set_option maxRecDepth 100000 in
set_option maxHeartbeats 16000000 in
theorem read_any (w : World) (bx : Nat) (F : Nat → Prop) (N : Nat) (b : Bool) (f : Fd) (h : Look w bx F N b) (hfk : f.k ≤ 9223372036854775807) (hN : N + 1 ≤ 2932031007410) :
    Calls Try.prog 15 #[.pointer (some ⟨bx, 0, none⟩), .agg f.cells] w fun e w' => e = .returned (.bool true) ∧ Look w' bx (ext F w w') (N + 1) b ∧ But F w w' := by
  obtain ⟨hF, bp, ap, cp, bq, aq, cq, full, at', ct, n, A, C, L, s, hnN, hC, hcl⟩ := h
  have hb1 : Below w.heap.size w (w.alloc (.cells f.cells 35)) := (Below.refl _ _).alloc (Nat.le_refl _) _
  have C1 := hide ((hC.keep hb1).keep (Below.refl _ _).drew)
  have HLE := hide (show ∀ k, LF bx bp ap s bq aq at' (trk b n) A k → k < (w.alloc (.cells f.cells 35)).drew.heap.size from fun k hk => C1.out.lt hk)
  have HCL := hide hcl
  have HF := hide hF
  have H256 := hide hC.r.left
  have HHL := hide hC.hl
  have HBP : Hid (∀ k, k = bp → k < w.heap.size) := fun k hk => hC.lt (.inr (.inl hk))
  have HBQ : Hid (∀ k, k = bq → k < w.heap.size) := fun k hk => hC.lt (.inr (.inr (.inr (.inl (.inl hk)))))
  have HBT : Hid (∀ k, (k = bx ∨ ∃ x, at' = some x ∧ x.block = k) → k < w.heap.size) := fun k hk => by
    rcases hk with e | e
    · exact hC.lt (.inl e)
    · exact hC.lt (.inr (.inr (.inr (.inr (.inl e)))))
  have e0 := (hC.keep hb1).fx0
  have e1 := (hC.keep hb1).fx1
  have e2 := (hC.keep hb1).fe
  have C0 := hide (hC.keep hb1)
  have HB0 := hide hb1
  have HB1 : Hid (Below w.heap.size w (w.alloc (.cells f.cells 35)).drew) := hb1.drew
  have HS1 : Hid (w.heap.size ≤ (w.alloc (.cells f.cells 35)).drew.heap.size) := hb1.size
  have c0 : (w.alloc (.cells f.cells 35)).cell? ⟨w.heap.size, 0, none⟩ = some (.int .i64 f.kind) := by simp [Fd.cells]
  have c3 : (w.alloc (.cells f.cells 35)).cell? ⟨w.heap.size, 3, none⟩ = some (.int .i64 f.k) := by simp [Fd.cells]
  obtain ⟨kind, fn, fa, fc, l, k⟩ := f
  unfold Fd.cells at *
  dsimp only at *
  clear hC hcl hF hb1
  rcases kinds9 kind with rfl | rfl | rfl | rfl | rfl | rfl | rfl | rfl | rfl | ⟨h1, h2, h4, h8, h0, h3, h5, h6, h7⟩
  · have PT := hide (Get8_any _ bp ap cp s C1.out.p)
    have hV := raw_lt s 1 1 rfl H256.out.2
    have RT : Hid (∀ wx, Rq wx bq aq cq full s → _) := fun wx hx => rGet_at wx bq aq cq full s 1 1 rfl (by decide) hx
    have HRN := hide (raw_nil s 1)
    generalize hV0 : numV (s.raw 1).1 = V at *
    have hcv : IntKind.u64.wrap (V : Int) = (V : Int) := by rw [IntKind.wrap_u64]; omega
    generalize (s.raw 1).2 = s2 at *
    clear hV0 hV
    go_enter Try.func15, Try.ntmps15
    go_wp2
    generalize w.alloc (.cells #[.int .i64 1, .int .u64 (fn : Int), .slice fa l.length fc, .int .i64 k] 35) = w1 at *
    go_region_held3 (fun w' => w'.cell? ⟨bx, 0, none⟩ = some (.pointer (some ⟨bp, 0, none⟩)) ∧ w'.cell? ⟨bx, 1, none⟩ = some (.pointer (some ⟨bq, 0, none⟩)))
      (first | exact ⟨e0, e1⟩ | exact ⟨HC3.out.fx0, HC3.out.fx1⟩ | exact ⟨HC4.out.fx0, HC4.out.fx1⟩)
      (first | (go_at_call 45; refine PT.out.mono ?_; rintro e w3 ⟨rfl, h3⟩; obtain ⟨ap3, cp3, hc3, hb3, ha3⟩ := C1.out.doP h3 HRN.out; have HC3 := hide hc3; have HB3 := hide hb3; have HA3 := hide ha3; have RT3 := hide (RT.out w3 HC3.out.r); clear h3 hc3 hb3 ha3) | (go_at_call 46; refine RT3.out.mono ?_; rintro e w4 ⟨rfl, h4⟩; obtain ⟨hc4, hb4⟩ := HC3.out.doQ h4; have HC4 := hide hc4; have HB4 := hide hb4; clear h4 hc4 hb4))
    go_wp2
    go_ret
    exact ⟨by simp, look_done (by omega) HC4.out (fun k hk => .inl (HCL.out k (LF_old HA3.out k hk))) HF.out (read_but HCL.out HB1.out HB3.out HB4.out)⟩
  · have PT := hide (Get16_any _ bp ap cp s C1.out.p)
    have hV := raw_lt s 2 2 rfl H256.out.2
    have RT : Hid (∀ wx, Rq wx bq aq cq full s → _) := fun wx hx => rGet_at wx bq aq cq full s 2 2 rfl (by decide) hx
    have HRN := hide (raw_nil s 2)
    generalize hV0 : numV (s.raw 2).1 = V at *
    have hcv : IntKind.u64.wrap (V : Int) = (V : Int) := by rw [IntKind.wrap_u64]; omega
    generalize (s.raw 2).2 = s2 at *
    clear hV0 hV
    go_enter Try.func15, Try.ntmps15
    go_wp2
    generalize w.alloc (.cells #[.int .i64 2, .int .u64 (fn : Int), .slice fa l.length fc, .int .i64 k] 35) = w1 at *
    go_region_held3 (fun w' => w'.cell? ⟨bx, 0, none⟩ = some (.pointer (some ⟨bp, 0, none⟩)) ∧ w'.cell? ⟨bx, 1, none⟩ = some (.pointer (some ⟨bq, 0, none⟩)))
      (first | exact ⟨e0, e1⟩ | exact ⟨HC3.out.fx0, HC3.out.fx1⟩ | exact ⟨HC4.out.fx0, HC4.out.fx1⟩)
      (first | (go_at_call 47; refine PT.out.mono ?_; rintro e w3 ⟨rfl, h3⟩; obtain ⟨ap3, cp3, hc3, hb3, ha3⟩ := C1.out.doP h3 HRN.out; have HC3 := hide hc3; have HB3 := hide hb3; have HA3 := hide ha3; have RT3 := hide (RT.out w3 HC3.out.r); clear h3 hc3 hb3 ha3) | (go_at_call 46; refine RT3.out.mono ?_; rintro e w4 ⟨rfl, h4⟩; obtain ⟨hc4, hb4⟩ := HC3.out.doQ h4; have HC4 := hide hc4; have HB4 := hide hb4; clear h4 hc4 hb4))
    go_wp2
    go_ret
    exact ⟨by simp, look_done (by omega) HC4.out (fun k hk => .inl (HCL.out k (LF_old HA3.out k hk))) HF.out (read_but HCL.out HB1.out HB3.out HB4.out)⟩
  · have PT := hide (Get32_any _ bp ap cp s C1.out.p)
    have hV := raw_lt s 4 4 rfl H256.out.2
    have RT : Hid (∀ wx, Rq wx bq aq cq full s → _) := fun wx hx => rGet_at wx bq aq cq full s 4 4 rfl (by decide) hx
    have HRN := hide (raw_nil s 4)
    generalize hV0 : numV (s.raw 4).1 = V at *
    have hcv : IntKind.u64.wrap (V : Int) = (V : Int) := by rw [IntKind.wrap_u64]; omega
    generalize (s.raw 4).2 = s2 at *
    clear hV0 hV
    go_enter Try.func15, Try.ntmps15
    go_wp2
    generalize w.alloc (.cells #[.int .i64 4, .int .u64 (fn : Int), .slice fa l.length fc, .int .i64 k] 35) = w1 at *
    go_region_held3 (fun w' => w'.cell? ⟨bx, 0, none⟩ = some (.pointer (some ⟨bp, 0, none⟩)) ∧ w'.cell? ⟨bx, 1, none⟩ = some (.pointer (some ⟨bq, 0, none⟩)))
      (first | exact ⟨e0, e1⟩ | exact ⟨HC3.out.fx0, HC3.out.fx1⟩ | exact ⟨HC4.out.fx0, HC4.out.fx1⟩)
      (first | (go_at_call 48; refine PT.out.mono ?_; rintro e w3 ⟨rfl, h3⟩; obtain ⟨ap3, cp3, hc3, hb3, ha3⟩ := C1.out.doP h3 HRN.out; have HC3 := hide hc3; have HB3 := hide hb3; have HA3 := hide ha3; have RT3 := hide (RT.out w3 HC3.out.r); clear h3 hc3 hb3 ha3) | (go_at_call 46; refine RT3.out.mono ?_; rintro e w4 ⟨rfl, h4⟩; obtain ⟨hc4, hb4⟩ := HC3.out.doQ h4; have HC4 := hide hc4; have HB4 := hide hb4; clear h4 hc4 hb4))
    go_wp2
    go_ret
    exact ⟨by simp, look_done (by omega) HC4.out (fun k hk => .inl (HCL.out k (LF_old HA3.out k hk))) HF.out (read_but HCL.out HB1.out HB3.out HB4.out)⟩
  · have PT := hide (Get64_any _ bp ap cp s C1.out.p)
    have hV := raw_lt s 8 8 rfl H256.out.2
    have RT : Hid (∀ wx, Rq wx bq aq cq full s → _) := fun wx hx => rGet_at wx bq aq cq full s 8 8 rfl (by decide) hx
    have HRN := hide (raw_nil s 8)
    generalize hV0 : numV (s.raw 8).1 = V at *
    have hcv : IntKind.u64.wrap (V : Int) = (V : Int) := by rw [IntKind.wrap_u64]; omega
    generalize (s.raw 8).2 = s2 at *
    clear hV0 hV
    go_enter Try.func15, Try.ntmps15
    go_wp2
    generalize w.alloc (.cells #[.int .i64 8, .int .u64 (fn : Int), .slice fa l.length fc, .int .i64 k] 35) = w1 at *
    go_region_held3 (fun w' => w'.cell? ⟨bx, 0, none⟩ = some (.pointer (some ⟨bp, 0, none⟩)) ∧ w'.cell? ⟨bx, 1, none⟩ = some (.pointer (some ⟨bq, 0, none⟩)))
      (first | exact ⟨e0, e1⟩ | exact ⟨HC3.out.fx0, HC3.out.fx1⟩ | exact ⟨HC4.out.fx0, HC4.out.fx1⟩)
      (first | (go_at_call 49; refine PT.out.mono ?_; rintro e w3 ⟨rfl, h3⟩; obtain ⟨ap3, cp3, hc3, hb3, ha3⟩ := C1.out.doP h3 HRN.out; have HC3 := hide hc3; have HB3 := hide hb3; have HA3 := hide ha3; have RT3 := hide (RT.out w3 HC3.out.r); clear h3 hc3 hb3 ha3) | (go_at_call 46; refine RT3.out.mono ?_; rintro e w4 ⟨rfl, h4⟩; obtain ⟨hc4, hb4⟩ := HC3.out.doQ h4; have HC4 := hide hc4; have HB4 := hide hb4; clear h4 hc4 hb4))
    go_wp2
    go_ret
    exact ⟨by simp, look_done (by omega) HC4.out (fun k hk => .inl (HCL.out k (LF_old HA3.out k hk))) HF.out (read_but HCL.out HB1.out HB3.out HB4.out)⟩
  · have PT := hide (RRaw_any _ bp ap cp s k C1.out.p)
    have RT : Hid (∀ wx, Rq wx bq aq cq full s → _) := fun wx hx => rRRaw_any wx bq aq cq full s k hx hfk
    have HRN := hide (raw_nil s k)
    have hgl : (s.raw k).1.length + 20 ≤ 140737488355328 := by have h8 := (raw_le s k).1; have h9 := H256.out.1; have h10 := HHL.out; omega
    have HG2 := hide (show ∀ x ∈ (s.raw k).1, x < 256 from fun x hx => H256.out.2 x ((raw_le s k).2 x hx))
    have hn2 : n + 1 ≤ 2932031007410 := by omega
    generalize s.raw k = R at *
    obtain ⟨gl, s2⟩ := R
    dsimp only at *
    go_enter Try.func15, Try.ntmps15
    go_wp2
    generalize w.alloc (.cells #[.int .i64 0, .int .u64 (fn : Int), .slice fa l.length fc, .int .i64 k] 35) = w1 at *
    go_region_held3 (fun w' => w'.cell? ⟨bx, 0, none⟩ = some (.pointer (some ⟨bp, 0, none⟩)) ∧ w'.cell? ⟨w.heap.size, 3, none⟩ = some (.int .i64 k))
      (first | exact ⟨e0, c3⟩ | exact ⟨HC3.out.fx0, k3⟩)
      (first | (go_at_call 50; refine PT.out.mono ?_; rintro e w3 ⟨a3, cc3, rfl, hR3, hN3, h3⟩; obtain ⟨ap3, cp3, hc3, hb3, ha3⟩ := C1.out.doP h3 HRN.out; have k3 := but_op HBP.out hb3 c3; have HC3 := hide hc3; have HB3 := hide hb3; have HA3 := hide ha3; have HR3 := hide hR3; have HN3 := hide hN3; clear h3 hc3 hb3 ha3 hR3 hN3))
    have g1 := HC3.out.fx1
    have C3 := hide (HC3.out.keep (Below.refl _ _).drew)
    have R3 := hide (HR3.out.keep (Below.refl _ _).drew)
    have RT3 := hide (RT.out w3.drew C3.out.r)
    have hfr := fresh_ne HN3.out HA3.out HLE.out
    have HFR := hide hfr
    have HQL : Hid (bq < w1.drew.heap.size) := HLE.out _ (.inr (.inr (.inr (.inl (.inl rfl)))))
    clear hfr
    go_wp2
    go_region_held3 (fun w' => w'.cell? ⟨bx, 1, none⟩ = some (.pointer (some ⟨bq, 0, none⟩)) ∧ w'.cell? ⟨w.heap.size, 3, none⟩ = some (.int .i64 k))
      (first | exact ⟨g1, k3⟩ | exact ⟨HC4.out.fx1, k4⟩ | exact ⟨HC5.out.fx1, k5⟩)
      (first | (go_at_call 52; refine RT3.out.mono ?_; rintro e w4 ⟨a4, cc4, rfl, hR4, hN4, h4⟩; obtain ⟨hc4, hb4⟩ := C3.out.doQ h4; have k4 := but_op HBQ.out hb4 k3; have HC4 := hide hc4; have HB4 := hide hb4; have BT := hide (bytes_any w4 bx bp ap3 cp3 bq aq cq full at' ct n (trk b n) A C L s2 s2 HC4.out (trk b (n + 1)) (trk_next b n) a3 cc3 gl (R3.out.past HN3.out HQL.out HB4.out) HG2.out a4 cc4 (hR4.bs HG2.out hR4.len_le) HFR.out hgl hn2); clear h4 hc4 hb4 hR4 hN4) | (go_at_call 51; refine BT.out.mono ?_; rintro e w5 ⟨rfl, at2, ct2, A2, C2, L2, hc5, hb5, ht5⟩; have k5 := but_op HBT.out hb5 k4; have HC5 := hide hc5; have HB5 := hide hb5; have HT5 := hide ht5; clear hc5 hb5 ht5))
    go_wp2
    go_ret
    have hB := read_but HCL.out HB1.out HB3.out.drew HB4.out
    exact ⟨rfl, look_done (by omega) HC5.out (told_new HCL.out HN3.out HA3.out HS1.out hB.size HT5.out) HF.out (told_but HCL.out hB HB5.out)⟩
  · have PT := hide (RShort_any _ bp ap cp s k C1.out.p)
    have RT : Hid (∀ wx, Rq wx bq aq cq full s → _) := fun wx hx => rRShort_any wx bq aq cq full s k hx
    have HRN := hide (short_nil s k)
    have hgl : (s.short k).1.length + 20 ≤ 140737488355328 := by have h8 := (short_le s k).1; have h9 := H256.out.1; have h10 := HHL.out; omega
    have HG2 := hide (show ∀ x ∈ (s.short k).1, x < 256 from fun x hx => H256.out.2 x ((short_le s k).2 x hx))
    have hn2 : n + 1 ≤ 2932031007410 := by omega
    generalize s.short k = R at *
    obtain ⟨gl, s2⟩ := R
    dsimp only at *
    go_enter Try.func15, Try.ntmps15
    go_wp2
    generalize w.alloc (.cells #[.int .i64 3, .int .u64 (fn : Int), .slice fa l.length fc, .int .i64 k] 35) = w1 at *
    go_region_held3 (fun w' => w'.cell? ⟨bx, 0, none⟩ = some (.pointer (some ⟨bp, 0, none⟩)) ∧ w'.cell? ⟨w.heap.size, 3, none⟩ = some (.int .i64 k))
      (first | exact ⟨e0, c3⟩ | exact ⟨HC3.out.fx0, k3⟩)
      (first | (go_at_call 53; refine PT.out.mono ?_; rintro e w3 ⟨a3, cc3, rfl, hR3, hN3, h3⟩; obtain ⟨ap3, cp3, hc3, hb3, ha3⟩ := C1.out.doP h3 HRN.out; have k3 := but_op HBP.out hb3 c3; have HC3 := hide hc3; have HB3 := hide hb3; have HA3 := hide ha3; have HR3 := hide hR3; have HN3 := hide hN3; clear h3 hc3 hb3 ha3 hR3 hN3))
    have g1 := HC3.out.fx1
    have C3 := hide (HC3.out.keep (Below.refl _ _).drew)
    have R3 := hide (HR3.out.keep (Below.refl _ _).drew)
    have RT3 := hide (RT.out w3.drew C3.out.r)
    have hfr := fresh_ne HN3.out HA3.out HLE.out
    have HFR := hide hfr
    have HQL : Hid (bq < w1.drew.heap.size) := HLE.out _ (.inr (.inr (.inr (.inl (.inl rfl)))))
    clear hfr
    go_wp2
    go_region_held3 (fun w' => w'.cell? ⟨bx, 1, none⟩ = some (.pointer (some ⟨bq, 0, none⟩)) ∧ w'.cell? ⟨w.heap.size, 3, none⟩ = some (.int .i64 k))
      (first | exact ⟨g1, k3⟩ | exact ⟨HC4.out.fx1, k4⟩ | exact ⟨HC5.out.fx1, k5⟩)
      (first | (go_at_call 54; refine RT3.out.mono ?_; rintro e w4 ⟨a4, cc4, rfl, hR4, hN4, h4⟩; obtain ⟨hc4, hb4⟩ := C3.out.doQ h4; have k4 := but_op HBQ.out hb4 k3; have HC4 := hide hc4; have HB4 := hide hb4; have BT := hide (bytes_any w4 bx bp ap3 cp3 bq aq cq full at' ct n (trk b n) A C L s2 s2 HC4.out (trk b (n + 1)) (trk_next b n) a3 cc3 gl (R3.out.past HN3.out HQL.out HB4.out) HG2.out a4 cc4 (hR4.bs HG2.out hR4.len_le) HFR.out hgl hn2); clear h4 hc4 hb4 hR4 hN4) | (go_at_call 51; refine BT.out.mono ?_; rintro e w5 ⟨rfl, at2, ct2, A2, C2, L2, hc5, hb5, ht5⟩; have k5 := but_op HBT.out hb5 k4; have HC5 := hide hc5; have HB5 := hide hb5; have HT5 := hide ht5; clear hc5 hb5 ht5))
    go_wp2
    go_ret
    have hB := read_but HCL.out HB1.out HB3.out.drew HB4.out
    exact ⟨rfl, look_done (by omega) HC5.out (told_new HCL.out HN3.out HA3.out HS1.out hB.size HT5.out) HF.out (told_but HCL.out hB HB5.out)⟩
  · have PT := hide (Zeros_any _ bp ap cp s C0.out.p)
    have RT : Hid (∀ wx, Rq wx bq aq cq full s → _) := fun wx hx => rRZeros_any wx bq aq cq full s hx
    have HRN := hide (zeros_nil s)
    generalize s.zeros = s2 at *
    go_enter Try.func15, Try.ntmps15
    go_wp2_with fail
    generalize w.alloc (.cells #[.int .i64 5, .int .u64 (fn : Int), .slice fa l.length fc, .int .i64 k] 35) = w1 at *
    refine PT.out.mono ?_
    rintro e w3 ⟨rfl, h3⟩
    obtain ⟨ap3, cp3, hc3, hb3, ha3⟩ := C0.out.doP h3 HRN.out
    have g1 := hc3.fx1
    have HC3 := hide hc3
    have HB3 := hide hb3
    have HA3 := hide ha3
    have RT3 := hide (RT.out w3 HC3.out.r)
    clear h3 hc3 hb3 ha3
    go_wp2_with fail
    refine RT3.out.mono ?_
    rintro e w4 ⟨rfl, h4⟩
    obtain ⟨hc4, hb4⟩ := HC3.out.doQ h4
    have HC4 := hide hc4
    have HB4 := hide hb4
    clear h4 hc4 hb4
    go_wp2
    go_ret
    exact ⟨rfl, look_done (by omega) HC4.out (fun k hk => .inl (HCL.out k (LF_old HA3.out k hk))) HF.out (read_but HCL.out HB0.out HB3.out HB4.out)⟩
  · have PT := hide (End_any _ bp ap cp s C1.out.p)
    have RT := hide (rREnd_any _ bq aq cq full s C1.out.r)
    generalize s.fin = V at *
    go_enter Try.func15, Try.ntmps15
    go_wp2
    generalize w.alloc (.cells #[.int .i64 6, .int .u64 (fn : Int), .slice fa l.length fc, .int .i64 k] 35) = w1 at *
    go_region_held3 (fun w' => w'.cell? ⟨bx, 0, none⟩ = some (.pointer (some ⟨bp, 0, none⟩)) ∧ w'.cell? ⟨bx, 1, none⟩ = some (.pointer (some ⟨bq, 0, none⟩)))
      (first | exact ⟨e0, e1⟩ | exact ⟨C1.out.fx0, C1.out.fx1⟩ | exact ⟨HC4.out.fx0, HC4.out.fx1⟩)
      (first | (go_at_call 28; refine PT.out.mono ?_; rintro e w3 ⟨rfl, hw3⟩; subst w3) | (go_at_call 56; refine RT.out.mono ?_; rintro e w4 ⟨rfl, hb4⟩; have HC4 := hide (C1.out.keep hb4); have HB4 := hide hb4; clear hb4))
    go_wp2
    go_ret
    exact ⟨by simp, look_done (by omega) HC4.out (fun k hk => .inl (HCL.out k hk)) HF.out (But.ofBelow (bt HB1.out HB4.out))⟩
  · have PT := hide (Err_any _ bp ap cp s C1.out.p)
    generalize hV0 : s.e = V at PT e2
    go_enter Try.func15, Try.ntmps15
    go_wp2
    generalize w.alloc (.cells #[.int .i64 7, .int .u64 (fn : Int), .slice fa l.length fc, .int .i64 k] 35) = w1 at *
    go_region_held3 (fun w' => w'.cell? ⟨bx, 0, none⟩ = some (.pointer (some ⟨bp, 0, none⟩)) ∧ w'.cell? ⟨bx, 1, none⟩ = some (.pointer (some ⟨bq, 0, none⟩)) ∧ w'.cell? ⟨bq, 2, none⟩ = some (.int .i64 (V : Int)))
      (first | exact ⟨e0, e1, e2⟩ | exact ⟨C1.out.fx0, C1.out.fx1, by rw [← hV0]; exact C1.out.fe⟩)
      (first | (go_at_call 57; refine PT.out.mono ?_; rintro e w3 ⟨rfl, hw3⟩; subst w3))
    go_wp2
    go_ret
    exact ⟨by simp, look_done (by omega) C1.out (fun k hk => .inl (HCL.out k hk)) HF.out (But.ofBelow HB1.out)⟩
  · have PT := hide (Left_any _ bp ap cp s C1.out.p)
    have RT := hide (rqLeft_any _ bq aq cq full s C1.out.r)
    generalize s.l.length = V at PT RT
    go_enter Try.func15, Try.ntmps15
    go_wp2
    generalize w.alloc (.cells #[.int .i64 kind, .int .u64 (fn : Int), .slice fa l.length fc, .int .i64 k] 35) = w1 at *
    go_region_held3 (fun w' => w'.cell? ⟨bx, 0, none⟩ = some (.pointer (some ⟨bp, 0, none⟩)) ∧ w'.cell? ⟨bx, 1, none⟩ = some (.pointer (some ⟨bq, 0, none⟩)))
      (first | exact ⟨e0, e1⟩ | exact ⟨C1.out.fx0, C1.out.fx1⟩ | exact ⟨HC4.out.fx0, HC4.out.fx1⟩)
      (first | (go_at_call 29; refine PT.out.mono ?_; rintro e w3 ⟨rfl, hw3⟩; subst w3) | (go_at_call 18; refine RT.out.mono ?_; rintro e w4 ⟨rfl, hb4⟩; have HC4 := hide (C1.out.keep hb4); have HB4 := hide hb4; clear hb4))
    go_wp2
    go_ret
    exact ⟨by simp, look_done (by omega) HC4.out (fun k hk => .inl (HCL.out k hk)) HF.out (But.ofBelow (bt HB1.out HB4.out))⟩
end Go.Proofs.Ytlkjpljfbmploaa
