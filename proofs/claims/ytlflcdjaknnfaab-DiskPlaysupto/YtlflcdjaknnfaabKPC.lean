import Derived.Test.YtlflcdjaknnfaabKPB
set_option linter.unusedVariables false
namespace Go.Proofs.Ytlflcdjaknnfaab
open Go.RowKit

/-- the call that is played, in its box -/
def Bx (U : World) (n : Nat) (k i : Int) (aB : Option Addr) (nB cB : Nat) (aK : Option Addr) (nK cK : Nat) : Prop :=
  U.cell? ⟨n, 0, none⟩ = some (.int .i64 k) ∧ U.cell? ⟨n, 1, none⟩ = some (.int .i64 i) ∧ U.cell? ⟨n, 2, none⟩ = some (.slice aB nB cB) ∧ U.cell? ⟨n, 3, none⟩ = some (.slice aK nK cK)
theorem Bx.but {T : Nat → Prop} {U U' : World} {n : Nat} {k i : Int} {aB : Option Addr} {nB cB : Nat} {aK : Option Addr} {nK cK : Nat} (h : Bx U n k i aB nB cB aK nK cK) (hb : But T U U') (hn : ¬ T n) : Bx U' n k i aB nB cB aK nK cK := by
  obtain ⟨h0, h1, h2, h3⟩ := h
  exact ⟨(hb.cell (p := ⟨n, 0, none⟩) (block_lt_of_cell h0) hn).trans h0, (hb.cell (p := ⟨n, 1, none⟩) (block_lt_of_cell h1) hn).trans h1, (hb.cell (p := ⟨n, 2, none⟩) (block_lt_of_cell h2) hn).trans h2, (hb.cell (p := ⟨n, 3, none⟩) (block_lt_of_cell h3) hn).trans h3⟩
theorem Bx.keep {U U' : World} {n : Nat} {k i : Int} {aB : Option Addr} {nB cB : Nat} {aK : Option Addr} {nK cK : Nat} (h : Bx U n k i aB nB cB aK nK cK) (hb : Below U.heap.size U U') : Bx U' n k i aB nB cB aK nK cK := h.but (T := fun _ => False) (But.ofBelow hb) (fun h => h)
theorem Bs.low {w V : World} {F : Nat → Prop} {a : Option Addr} {l : List Nat} (h : Bs w a l) (hF : ∀ k, F k → w.heap.size ≤ k) : ∀ x, a = some x → l ≠ [] → ¬ F x.block := by
  intro x hx h0 hf
  rcases h.2.2 with e | ⟨b, off, e, hc⟩
  · exact h0 e
  · have := hF _ hf
    have := block_lt_of_cell (hc 0 (List.length_pos_iff.2 h0))
    rw [hx] at e
    cases e
    simp only at *
    omega
theorem Kb.low {w : World} {F : Nat → Prop} {a : Option Addr} {l : List Bool} (h : Kb w a l) (hF : ∀ k, F k → w.heap.size ≤ k) : ∀ x, a = some x → l ≠ [] → ¬ F x.block := by
  intro x hx h0 hf
  rcases h.2 with e | ⟨b, off, e, hc⟩
  · exact h0 e
  · have := hF _ hf
    have := block_lt_of_cell (hc 0 (List.length_pos_iff.2 h0))
    rw [hx] at e
    cases e
    simp only at *
    omega
/-- what a call may have touched -/
structure Nx (F G : Nat → Prop) (V : World) (F' G' : Nat → Prop) (V' : World) : Prop where
  f : ∀ k, F' k → F k ∨ V.heap.size ≤ k
  g : ∀ k, G' k → G k ∨ V.heap.size ≤ k
  b : But (fun k => F k ∨ G k) V V'
theorem Nx.refl (F G : Nat → Prop) (V : World) : Nx F G V F G V := ⟨fun _ h => .inl h, fun _ h => .inl h, But.refl _ _⟩
theorem Nx.keep {F G F' G' : Nat → Prop} {V V' V'' : World} (h : Nx F G V F' G' V') (hb : Below V'.heap.size V' V'') : Nx F G V F' G' V'' := ⟨h.f, h.g, h.b.andBelow hb⟩
theorem Nx.do1 {F G F' G' : Nat → Prop} {V V' V'' : World} (h : Nx F G V F' G' V') (hb : But F' V' V'') : Nx F G V (ext F' V' V'') G' V'' := by
  have hs := h.b.size
  refine ⟨fun k hk => ?_, h.g, h.b.trans hb (fun k hk hf => ?_)⟩
  · rcases hk with hk | hk
    · exact h.f k hk
    · exact .inr (by omega)
  · rcases h.f k hf with h1 | h1
    · exact .inl h1
    · omega
theorem Nx.do2 {F G F' G' : Nat → Prop} {V V' V'' : World} (h : Nx F G V F' G' V') (hb : But G' V' V'') : Nx F G V F' (ext G' V' V'') V'' := by
  have hs := h.b.size
  refine ⟨h.f, fun k hk => ?_, h.b.trans hb (fun k hk hf => ?_)⟩
  · rcases hk with hk | hk
    · exact h.g k hk
    · exact .inr (by omega)
  · rcases h.g k hf with h1 | h1
    · exact .inr h1
    · omega
structure Bn (w V0 : World) (F0 G0 : Nat → Prop) (V : World) (F G : Nat → Prop) (p q : Nat) (S T : Sd) : Prop extends Bt w V F G p q S T where
  n : Nx F0 G0 V0 F G V
section
variable {w V0 V V' : World} {F0 G0 F G : Nat → Prop} {p q : Nat} {S T S' T' : Sd}
theorem Bn.start (h : Bt w V F G p q S T) : Bn w V F G V F G p q S T := { h with n := Nx.refl _ _ _ }
theorem Bn.keep (h : Bn w V0 F0 G0 V F G p q S T) (hb : Below V.heap.size V V') : Bn w V0 F0 G0 V' F G p q S T := { h.toBt.keep hb with n := h.n.keep hb }
theorem Bn.do1 (h : Bn w V0 F0 G0 V F G p q S T) (h1 : Dk (ext F V V') V' p S') (hb : But F V V') : Bn w V0 F0 G0 V' (ext F V V') G p q S' T := { h.toBt.do1 h1 hb with n := h.n.do1 hb }
theorem Bn.do2 (h : Bn w V0 F0 G0 V F G p q S T) (h1 : Hk (ext G V V') V' q T') (hb : But G V V') : Bn w V0 F0 G0 V' F (ext G V V') p q S T' := { h.toBt.do2 h1 hb with n := h.n.do2 hb }
end
section
variable {w V V' : World} {F G : Nat → Prop} {p q : Nat} {S : Sd}
set_option maxRecDepth 10000 in
set_option maxHeartbeats 3000000 in
theorem plays_write (h : Bt w V F G p q S S) (hfit : S.fit) (i : Int) (hi0 : N64 i) (aB : Option Addr) (B : List Nat) (cB : Nat) (aK : Option Addr) (K : List Bool) (cK : Nat) (hB : Bs w aB B) (hK : Kb w aK K) (hBl : B.length ≤ 1048576) (hKl : K.length ≤ 1048576) (hr1 : S.wr + 1 ≤ 4611686018427387904) (hr2 : S.sy + 1 ≤ 4611686018427387904) (hr3 : S.uns.length + 1 ≤ 268435456) :
    Calls Try.prog 7 #[.pointer (some ⟨p, 0, none⟩), .pointer (some ⟨q, 0, none⟩), .agg #[.int .i64 1, .int .i64 i, .slice aB B.length cB, .slice aK K.length cK]] V fun e V' => e = .returned (.bool true) ∧ ∃ F' G', Bn w V F G V' F' G' p q (S.write i B) (S.write i B) := by
  obtain ⟨W1, hW1⟩ : ∃ W1, W1 = V.alloc (.cells #[.int .i64 1, .int .i64 i, .slice aB B.length cB, .slice aK K.length cK] 34) := ⟨_, rfl⟩
  have hb1 : Below V.heap.size V W1 := by rw [hW1]; exact al _ _
  have hx : Bx W1 V.heap.size 1 i aB B.length cB aK K.length cK := by rw [hW1]; exact box_cells (Below.refl _ _)
  have H := hide ((Bn.start h).keep hb1)
  have HF := hide h.d.lt
  have HG := hide h.m.lt
  have HFG := hide (And.intro h.f h.g)
  have HX := hide hx
  have HW := hide hW1
  have HBB := hide hB
  have HKK := hide hK
  have HFIT := hide hfit
  have hs1 : W1.heap.size = V.heap.size + 1 := by rw [hW1, size_alloc]
  obtain ⟨d0, d1, d2, d3⟩ := hx
  obtain ⟨hi1, hi2⟩ := hi0
  rw [hW1] at d0 d1 d2 d3
  clear h hb1 hW1 hB hK hfit
  have R1 := hide (Spare_any W1 aB B.length cB B (HBB.out.keep H.out.b) rfl (by omega))
  obtain ⟨x1, hx1⟩ : ∃ x1, x1 = W1.heap.size := ⟨_, rfl⟩
  rw [← hx1] at R1 hs1
  have HX1 := hide hx1
  have HS1 := hide hs1
  rw [HW.out] at R1
  clear hx1 hs1
  go_enter Try.func7, Try.ntmps7
  go_wp2_with fail
  refine R1.out.mono ?_
  rintro e w2 ⟨rfl, hr2, hb2⟩
  rw [← HW.out] at hb2
  rw [HX1.out] at hb2
  have H2 := hide (H.out.keep hb2)
  have hB2 := HX.out.keep hb2
  obtain ⟨_, e1, e2, e3⟩ := hB2
  have HX2 := hide (HX.out.keep hb2)
  have HR2 := hide hr2
  have hnF : ¬ F x1 := fun hk => by have := HF.out _ hk; have := HS1.out; omega
  have hnG : ¬ G x1 := fun hk => by have := HG.out _ hk; have := HS1.out; omega
  have R2 := hide (kWrite H2.out.d i (some ⟨x1, 0, none⟩) B.length (B.length + 64) B (spare_bs hr2 (by omega) HBB.out.1 (by omega)) rfl (fun y hy => by cases hy; exact hnF) hr3 hr1)
  generalize hSE : S.writeE i B = e0 at *
  clear hr2 hb2 R1 d0 d1 d2 d3
  go_wp2_with fail
  refine R2.out.mono ?_
  rintro e w3 ⟨rfl, h3, hb3⟩
  have H3 := hide (H2.out.do1 h3 hb3)
  obtain ⟨_, f1, f2, f3⟩ := HX2.out.but hb3 (fun hk => absurd (HF.out _ hk) (Nat.lt_irrefl _))
  have HX3 := hide (HX2.out.but hb3 (fun hk => absurd (HF.out _ hk) (Nat.lt_irrefl _)))
  have HR3 := hide (rowIs_but HR2.out hb3 hnF)
  have R3 := hide (mWrite H3.out.m i aB B.length cB B (HBB.out.keep H3.out.b) rfl (Bs.low (V := V) HBB.out HFG.out.2) hr3 hr1)
  rw [hSE] at R3
  clear h3 hb3 R2 e1 e2 e3 hSE
  go_wp2_with fail
  refine R3.out.mono ?_
  rintro e w4 ⟨rfl, h4, hb4⟩
  have H4 := hide (H3.out.do2 h4 hb4)
  obtain ⟨_, g1, g2, g3⟩ := HX3.out.but hb4 (fun hk => absurd (HG.out _ hk) (Nat.lt_irrefl _))
  have R4 := hide (Kept_any w4 x1 (B.length + 64) aB B.length B.length cB B (rowIs_but HR3.out hb4 hnG) (HBB.out.keep H4.out.b) rfl rfl rfl (by omega))
  have q0 : ((e0 : Int) == (e0 : Int)) = true := by simp
  clear h4 hb4 R3 f1 f2 f3
  go_wp2_with fail
  refine R4.out.mono ?_
  rintro e w5 ⟨rfl, hb5⟩
  have H5 := hide (H4.out.keep hb5)
  clear hb5 R4
  go_wp2
  go_ret
  exact ⟨rfl, _, _, H5.out⟩
set_option maxRecDepth 10000 in
set_option maxHeartbeats 3000000 in
theorem plays_lay (h : Bt w V F G p q S S) (hfit : S.fit) (i : Int) (hi0 : N64 i) (aB : Option Addr) (B : List Nat) (cB : Nat) (aK : Option Addr) (K : List Bool) (cK : Nat) (hB : Bs w aB B) (hK : Kb w aK K) (hBl : B.length ≤ 1048576) (hKl : K.length ≤ 1048576) (hr1 : S.wr + 1 ≤ 4611686018427387904) (hr2 : S.sy + 1 ≤ 4611686018427387904) (hr3 : S.uns.length + 1 ≤ 268435456) :
    Calls Try.prog 7 #[.pointer (some ⟨p, 0, none⟩), .pointer (some ⟨q, 0, none⟩), .agg #[.int .i64 10, .int .i64 i, .slice aB B.length cB, .slice aK K.length cK]] V fun e V' => e = .returned (.bool true) ∧ ∃ F' G', Bn w V F G V' F' G' p q (S.layd i B) (S.layd i B) := by
  obtain ⟨W1, hW1⟩ : ∃ W1, W1 = V.alloc (.cells #[.int .i64 10, .int .i64 i, .slice aB B.length cB, .slice aK K.length cK] 34) := ⟨_, rfl⟩
  have hb1 : Below V.heap.size V W1 := by rw [hW1]; exact al _ _
  have hx : Bx W1 V.heap.size 10 i aB B.length cB aK K.length cK := by rw [hW1]; exact box_cells (Below.refl _ _)
  have H := hide ((Bn.start h).keep hb1)
  have HF := hide h.d.lt
  have HG := hide h.m.lt
  have HFG := hide (And.intro h.f h.g)
  have HX := hide hx
  have HW := hide hW1
  have HBB := hide hB
  have HKK := hide hK
  have HFIT := hide hfit
  have hs1 : W1.heap.size = V.heap.size + 1 := by rw [hW1, size_alloc]
  obtain ⟨d0, d1, d2, d3⟩ := hx
  obtain ⟨hi1, hi2⟩ := hi0
  rw [hW1] at d0 d1 d2 d3
  clear h hb1 hW1 hB hK hfit
  have R1 := hide (Spare_any W1 aB B.length cB B (HBB.out.keep H.out.b) rfl (by omega))
  obtain ⟨x1, hx1⟩ : ∃ x1, x1 = W1.heap.size := ⟨_, rfl⟩
  rw [← hx1] at R1 hs1
  have HX1 := hide hx1
  have HS1 := hide hs1
  rw [HW.out] at R1
  clear hx1 hs1
  go_enter Try.func7, Try.ntmps7
  go_wp2_with fail
  refine R1.out.mono ?_
  rintro e w2 ⟨rfl, hr2, hb2⟩
  rw [← HW.out] at hb2
  rw [HX1.out] at hb2
  have H2 := hide (H.out.keep hb2)
  have hB2 := HX.out.keep hb2
  obtain ⟨_, e1, e2, e3⟩ := hB2
  have HX2 := hide (HX.out.keep hb2)
  have HR2 := hide hr2
  have hnF : ¬ F x1 := fun hk => by have := HF.out _ hk; have := HS1.out; omega
  have hnG : ¬ G x1 := fun hk => by have := HG.out _ hk; have := HS1.out; omega
  have R2 := hide (kLay H2.out.d i (some ⟨x1, 0, none⟩) B.length (B.length + 64) B (spare_bs hr2 (by omega) HBB.out.1 (by omega)) rfl)
  generalize hSE : S.layE i B = e0 at *
  clear hr2 hb2 R1 d0 d1 d2 d3
  go_wp2_with fail
  refine R2.out.mono ?_
  rintro e w3 ⟨rfl, h3, hb3⟩
  have H3 := hide (H2.out.do1 h3 hb3)
  obtain ⟨_, f1, f2, f3⟩ := HX2.out.but hb3 (fun hk => absurd (HF.out _ hk) (Nat.lt_irrefl _))
  have HX3 := hide (HX2.out.but hb3 (fun hk => absurd (HF.out _ hk) (Nat.lt_irrefl _)))
  have HR3 := hide (rowIs_but HR2.out hb3 hnF)
  have R3 := hide (mLay H3.out.m i aB B.length cB B (HBB.out.keep H3.out.b) rfl (Bs.low (V := V) HBB.out HFG.out.2))
  rw [hSE] at R3
  clear h3 hb3 R2 e1 e2 e3 hSE
  go_wp2_with fail
  refine R3.out.mono ?_
  rintro e w4 ⟨rfl, h4, hb4⟩
  have H4 := hide (H3.out.do2 h4 hb4)
  obtain ⟨_, g1, g2, g3⟩ := HX3.out.but hb4 (fun hk => absurd (HG.out _ hk) (Nat.lt_irrefl _))
  have R4 := hide (Kept_any w4 x1 (B.length + 64) aB B.length B.length cB B (rowIs_but HR3.out hb4 hnG) (HBB.out.keep H4.out.b) rfl rfl rfl (by omega))
  clear h4 hb4 R3 f1 f2 f3
  cases e0 with
  | true =>
    go_wp2_with fail
    refine R4.out.mono ?_
    rintro e w5 ⟨rfl, hb5⟩
    have H5 := hide (H4.out.keep hb5)
    clear hb5 R4
    go_wp2
    go_ret
    exact ⟨rfl, _, _, H5.out⟩
  | false =>
    go_wp2_with fail
    refine R4.out.mono ?_
    rintro e w5 ⟨rfl, hb5⟩
    have H5 := hide (H4.out.keep hb5)
    clear hb5 R4
    go_wp2
    go_ret
    exact ⟨rfl, _, _, H5.out⟩
set_option maxRecDepth 10000 in
set_option maxHeartbeats 3000000 in
theorem plays_on (h : Bt w V F G p q S S) (hfit : S.fit) (i : Int) (hi0 : N64 i) (aB : Option Addr) (B : List Nat) (cB : Nat) (aK : Option Addr) (K : List Bool) (cK : Nat) (hB : Bs w aB B) (hK : Kb w aK K) (hBl : B.length ≤ 1048576) (hKl : K.length ≤ 1048576) (hr1 : S.wr + 1 ≤ 4611686018427387904) (hr2 : S.sy + 1 ≤ 4611686018427387904) (hr3 : S.uns.length + 1 ≤ 268435456) :
    Calls Try.prog 7 #[.pointer (some ⟨p, 0, none⟩), .pointer (some ⟨q, 0, none⟩), .agg #[.int .i64 5, .int .i64 i, .slice aB B.length cB, .slice aK K.length cK]] V fun e V' => e = .returned (.bool true) ∧ ∃ F' G', Bn w V F G V' F' G' p q (S.on K) (S.on K) := by
  obtain ⟨W1, hW1⟩ : ∃ W1, W1 = V.alloc (.cells #[.int .i64 5, .int .i64 i, .slice aB B.length cB, .slice aK K.length cK] 34) := ⟨_, rfl⟩
  have hb1 : Below V.heap.size V W1 := by rw [hW1]; exact al _ _
  have hx : Bx W1 V.heap.size 5 i aB B.length cB aK K.length cK := by rw [hW1]; exact box_cells (Below.refl _ _)
  have H := hide ((Bn.start h).keep hb1)
  have HF := hide h.d.lt
  have HG := hide h.m.lt
  have HFG := hide (And.intro h.f h.g)
  have HX := hide hx
  have HW := hide hW1
  have HBB := hide hB
  have HKK := hide hK
  have HFIT := hide hfit
  have hs1 : W1.heap.size = V.heap.size + 1 := by rw [hW1, size_alloc]
  obtain ⟨d0, d1, d2, d3⟩ := hx
  obtain ⟨hi1, hi2⟩ := hi0
  rw [hW1] at d0 d1 d2 d3
  clear h hb1 hW1 hB hK hfit
  have R1 := hide (copyBools_any W1 aK K.length cK K (HKK.out.keep H.out.b) rfl hKl)
  obtain ⟨x1, hx1⟩ : ∃ x1, x1 = W1.heap.size := ⟨_, rfl⟩
  rw [← hx1] at R1 hs1
  have HX1 := hide hx1
  have HS1 := hide hs1
  rw [HW.out] at R1
  clear hx1 hs1
  go_enter Try.func7, Try.ntmps7
  go_wp2_with fail
  refine R1.out.mono ?_
  rintro e w2 ⟨rfl, hr2, hb2⟩
  rw [← HW.out] at hb2
  rw [HX1.out] at hb2
  have H2 := hide (H.out.keep hb2)
  obtain ⟨_, e1, e2, e3⟩ := HX.out.keep hb2
  have HX2 := hide (HX.out.keep hb2)
  have HR2 := hide hr2
  have hnF : ¬ F x1 := fun hk => by have := HF.out _ hk; have := HS1.out; omega
  have hnG : ¬ G x1 := fun hk => by have := HG.out _ hk; have := HS1.out; omega
  have R2 := hide (kOn H2.out.d (some ⟨x1, 0, none⟩) K.length K.length K hr2 rfl (fun y hy => by cases hy; exact hnF))
  clear hr2 hb2 R1 d0 d1 d2 d3
  go_wp2_with fail
  refine R2.out.mono ?_
  rintro e w3 ⟨rfl, h3, hb3⟩
  have H3 := hide (H2.out.do1 h3 hb3)
  obtain ⟨_, f1, f2, f3⟩ := HX2.out.but hb3 (fun hk => absurd (HF.out _ hk) (Nat.lt_irrefl _))
  have HX3 := hide (HX2.out.but hb3 (fun hk => absurd (HF.out _ hk) (Nat.lt_irrefl _)))
  have HR3 := hide (HR2.out.but hb3 (fun y hy => by cases hy; exact hnF))
  have R3 := hide (mOn H3.out.m aK K.length cK K (HKK.out.keep H3.out.b) rfl (HKK.out.low HFG.out.2) HFIT.out)
  clear h3 hb3 R2 e1 e2 e3
  go_wp2_with fail
  refine R3.out.mono ?_
  rintro e w4 ⟨rfl, h4, hb4⟩
  have H4 := hide (H3.out.do2 h4 hb4)
  obtain ⟨_, g1, g2, g3⟩ := HX3.out.but hb4 (fun hk => absurd (HG.out _ hk) (Nat.lt_irrefl _))
  have R4 := hide (eqBools_same w4 (some ⟨x1, 0, none⟩) aK K.length K.length K.length cK K (HR3.out.but hb4 (fun y hy => by cases hy; exact hnG)) (HKK.out.keep H4.out.b) rfl rfl (by omega))
  clear h4 hb4 R3 f1 f2 f3
  go_wp2_with fail
  refine R4.out.mono ?_
  rintro e w5 ⟨rfl, hb5⟩
  have H5 := hide (H4.out.keep hb5)
  clear hb5 R4
  go_wp2
  go_ret
  exact ⟨rfl, _, _, H5.out⟩
set_option maxRecDepth 10000 in
set_option maxHeartbeats 3000000 in
theorem plays_sync (h : Bt w V F G p q S S) (hfit : S.fit) (i : Int) (hi0 : N64 i) (aB : Option Addr) (B : List Nat) (cB : Nat) (aK : Option Addr) (K : List Bool) (cK : Nat) (hB : Bs w aB B) (hK : Kb w aK K) (hBl : B.length ≤ 1048576) (hKl : K.length ≤ 1048576) (hr1 : S.wr + 1 ≤ 4611686018427387904) (hr2 : S.sy + 1 ≤ 4611686018427387904) (hr3 : S.uns.length + 1 ≤ 268435456) :
    Calls Try.prog 7 #[.pointer (some ⟨p, 0, none⟩), .pointer (some ⟨q, 0, none⟩), .agg #[.int .i64 2, .int .i64 i, .slice aB B.length cB, .slice aK K.length cK]] V fun e V' => e = .returned (.bool true) ∧ ∃ F' G', Bn w V F G V' F' G' p q S.sync S.sync := by
  obtain ⟨W1, hW1⟩ : ∃ W1, W1 = V.alloc (.cells #[.int .i64 2, .int .i64 i, .slice aB B.length cB, .slice aK K.length cK] 34) := ⟨_, rfl⟩
  have hb1 : Below V.heap.size V W1 := by rw [hW1]; exact al _ _
  have hx : Bx W1 V.heap.size 2 i aB B.length cB aK K.length cK := by rw [hW1]; exact box_cells (Below.refl _ _)
  have H := hide ((Bn.start h).keep hb1)
  have HF := hide h.d.lt
  have HG := hide h.m.lt
  have HFG := hide (And.intro h.f h.g)
  have HX := hide hx
  have HW := hide hW1
  have HBB := hide hB
  have HKK := hide hK
  have HFIT := hide hfit
  have hs1 : W1.heap.size = V.heap.size + 1 := by rw [hW1, size_alloc]
  obtain ⟨d0, d1, d2, d3⟩ := hx
  obtain ⟨hi1, hi2⟩ := hi0
  rw [hW1] at d0 d1 d2 d3
  clear h hb1 hW1 hB hK hfit
  have R1 := hide (kSync H.out.d hr2)
  rw [HW.out] at R1
  generalize hSE : S.syncE = e0 at *
  clear hs1
  go_enter Try.func7, Try.ntmps7
  go_wp2_with fail
  refine R1.out.mono ?_
  rintro e w3 ⟨rfl, h3, hb3⟩
  rw [← HW.out] at h3 hb3
  have H3 := hide (H.out.do1 h3 hb3)
  obtain ⟨_, f1, f2, f3⟩ := HX.out.but hb3 (fun hk => absurd (HF.out _ hk) (Nat.lt_irrefl _))
  have HX3 := hide (HX.out.but hb3 (fun hk => absurd (HF.out _ hk) (Nat.lt_irrefl _)))
  have R3 := hide (mSync H3.out.m hr2)
  rw [hSE] at R3
  clear hSE
  clear h3 hb3 R1 d0 d1 d2 d3
  go_wp2_with fail
  refine R3.out.mono ?_
  rintro e w4 ⟨rfl, h4, hb4⟩
  have H4 := hide (H3.out.do2 h4 hb4)
  clear h4 hb4 R3 f1 f2 f3
  have q0 : ((e0 : Int) == (e0 : Int)) = true := by simp
  go_wp2
  go_ret
  exact ⟨rfl, _, _, H4.out⟩
set_option maxRecDepth 10000 in
set_option maxHeartbeats 3000000 in
theorem plays_arm (h : Bt w V F G p q S S) (hfit : S.fit) (i : Int) (hi0 : N64 i) (aB : Option Addr) (B : List Nat) (cB : Nat) (aK : Option Addr) (K : List Bool) (cK : Nat) (hB : Bs w aB B) (hK : Kb w aK K) (hBl : B.length ≤ 1048576) (hKl : K.length ≤ 1048576) (hr1 : S.wr + 1 ≤ 4611686018427387904) (hr2 : S.sy + 1 ≤ 4611686018427387904) (hr3 : S.uns.length + 1 ≤ 268435456) :
    Calls Try.prog 7 #[.pointer (some ⟨p, 0, none⟩), .pointer (some ⟨q, 0, none⟩), .agg #[.int .i64 3, .int .i64 i, .slice aB B.length cB, .slice aK K.length cK]] V fun e V' => e = .returned (.bool true) ∧ ∃ F' G', Bn w V F G V' F' G' p q (S.arm i) (S.arm i) := by
  obtain ⟨W1, hW1⟩ : ∃ W1, W1 = V.alloc (.cells #[.int .i64 3, .int .i64 i, .slice aB B.length cB, .slice aK K.length cK] 34) := ⟨_, rfl⟩
  have hb1 : Below V.heap.size V W1 := by rw [hW1]; exact al _ _
  have hx : Bx W1 V.heap.size 3 i aB B.length cB aK K.length cK := by rw [hW1]; exact box_cells (Below.refl _ _)
  have H := hide ((Bn.start h).keep hb1)
  have HF := hide h.d.lt
  have HG := hide h.m.lt
  have HFG := hide (And.intro h.f h.g)
  have HX := hide hx
  have HW := hide hW1
  have HBB := hide hB
  have HKK := hide hK
  have HFIT := hide hfit
  have hs1 : W1.heap.size = V.heap.size + 1 := by rw [hW1, size_alloc]
  obtain ⟨d0, d1, d2, d3⟩ := hx
  obtain ⟨hi1, hi2⟩ := hi0
  rw [hW1] at d0 d1 d2 d3
  clear h hb1 hW1 hB hK hfit
  have R1 := hide (kArm H.out.d i hi2)
  rw [HW.out] at R1
  clear hs1
  go_enter Try.func7, Try.ntmps7
  go_wp2_with fail
  refine R1.out.mono ?_
  rintro e w3 ⟨rfl, h3, hb3⟩
  rw [← HW.out] at h3 hb3
  have H3 := hide (H.out.do1 h3 hb3)
  obtain ⟨_, f1, f2, f3⟩ := HX.out.but hb3 (fun hk => absurd (HF.out _ hk) (Nat.lt_irrefl _))
  have HX3 := hide (HX.out.but hb3 (fun hk => absurd (HF.out _ hk) (Nat.lt_irrefl _)))
  have R3 := hide (mArm H3.out.m i hi2)
  clear h3 hb3 R1 d0 d1 d2 d3
  go_wp2_with fail
  refine R3.out.mono ?_
  rintro e w4 ⟨rfl, h4, hb4⟩
  have H4 := hide (H3.out.do2 h4 hb4)
  clear h4 hb4 R3 f1 f2 f3
  go_wp2
  go_ret
  exact ⟨rfl, _, _, H4.out⟩
set_option maxRecDepth 10000 in
set_option maxHeartbeats 3000000 in
theorem plays_off (h : Bt w V F G p q S S) (hfit : S.fit) (i : Int) (hi0 : N64 i) (aB : Option Addr) (B : List Nat) (cB : Nat) (aK : Option Addr) (K : List Bool) (cK : Nat) (hB : Bs w aB B) (hK : Kb w aK K) (hBl : B.length ≤ 1048576) (hKl : K.length ≤ 1048576) (hr1 : S.wr + 1 ≤ 4611686018427387904) (hr2 : S.sy + 1 ≤ 4611686018427387904) (hr3 : S.uns.length + 1 ≤ 268435456) :
    Calls Try.prog 7 #[.pointer (some ⟨p, 0, none⟩), .pointer (some ⟨q, 0, none⟩), .agg #[.int .i64 4, .int .i64 i, .slice aB B.length cB, .slice aK K.length cK]] V fun e V' => e = .returned (.bool true) ∧ ∃ F' G', Bn w V F G V' F' G' p q S.off S.off := by
  obtain ⟨W1, hW1⟩ : ∃ W1, W1 = V.alloc (.cells #[.int .i64 4, .int .i64 i, .slice aB B.length cB, .slice aK K.length cK] 34) := ⟨_, rfl⟩
  have hb1 : Below V.heap.size V W1 := by rw [hW1]; exact al _ _
  have hx : Bx W1 V.heap.size 4 i aB B.length cB aK K.length cK := by rw [hW1]; exact box_cells (Below.refl _ _)
  have H := hide ((Bn.start h).keep hb1)
  have HF := hide h.d.lt
  have HG := hide h.m.lt
  have HFG := hide (And.intro h.f h.g)
  have HX := hide hx
  have HW := hide hW1
  have HBB := hide hB
  have HKK := hide hK
  have HFIT := hide hfit
  have hs1 : W1.heap.size = V.heap.size + 1 := by rw [hW1, size_alloc]
  obtain ⟨d0, d1, d2, d3⟩ := hx
  obtain ⟨hi1, hi2⟩ := hi0
  rw [hW1] at d0 d1 d2 d3
  clear h hb1 hW1 hB hK hfit
  have R1 := hide (kOff H.out.d)
  rw [HW.out] at R1
  clear hs1
  go_enter Try.func7, Try.ntmps7
  go_wp2_with fail
  refine R1.out.mono ?_
  rintro e w3 ⟨rfl, h3, hb3⟩
  rw [← HW.out] at h3 hb3
  have H3 := hide (H.out.do1 h3 hb3)
  obtain ⟨_, f1, f2, f3⟩ := HX.out.but hb3 (fun hk => absurd (HF.out _ hk) (Nat.lt_irrefl _))
  have HX3 := hide (HX.out.but hb3 (fun hk => absurd (HF.out _ hk) (Nat.lt_irrefl _)))
  have R3 := hide (mOff H3.out.m)
  clear h3 hb3 R1 d0 d1 d2 d3
  go_wp2_with fail
  refine R3.out.mono ?_
  rintro e w4 ⟨rfl, h4, hb4⟩
  have H4 := hide (H3.out.do2 h4 hb4)
  clear h4 hb4 R3 f1 f2 f3
  go_wp2
  go_ret
  exact ⟨rfl, _, _, H4.out⟩
set_option maxRecDepth 10000 in
set_option maxHeartbeats 3000000 in
theorem plays_ask (k : Int) (k1 : k ≠ 1) (k2 : k ≠ 2) (k3 : k ≠ 3) (k4 : k ≠ 4) (k5 : k ≠ 5) (k10 : k ≠ 10) (h : Bt w V F G p q S S) (hfit : S.fit) (i : Int) (hi0 : N64 i) (aB : Option Addr) (B : List Nat) (cB : Nat) (aK : Option Addr) (K : List Bool) (cK : Nat) (hB : Bs w aB B) (hK : Kb w aK K) (hBl : B.length ≤ 1048576) (hKl : K.length ≤ 1048576) (hr1 : S.wr + 1 ≤ 4611686018427387904) (hr2 : S.sy + 1 ≤ 4611686018427387904) (hr3 : S.uns.length + 1 ≤ 268435456) :
    Calls Try.prog 7 #[.pointer (some ⟨p, 0, none⟩), .pointer (some ⟨q, 0, none⟩), .agg #[.int .i64 k, .int .i64 i, .slice aB B.length cB, .slice aK K.length cK]] V fun e V' => e = .returned (.bool true) ∧ ∃ F' G', Bn w V F G V' F' G' p q S S := by
  obtain ⟨W1, hW1⟩ : ∃ W1, W1 = V.alloc (.cells #[.int .i64 k, .int .i64 i, .slice aB B.length cB, .slice aK K.length cK] 34) := ⟨_, rfl⟩
  have hb1 : Below V.heap.size V W1 := by rw [hW1]; exact al _ _
  have hx : Bx W1 V.heap.size k i aB B.length cB aK K.length cK := by rw [hW1]; exact box_cells (Below.refl _ _)
  have H := hide ((Bn.start h).keep hb1)
  have HF := hide h.d.lt
  have HG := hide h.m.lt
  have HFG := hide (And.intro h.f h.g)
  have HX := hide hx
  have HW := hide hW1
  have HBB := hide hB
  have HKK := hide hK
  have HFIT := hide hfit
  have hs1 : W1.heap.size = V.heap.size + 1 := by rw [hW1, size_alloc]
  obtain ⟨d0, d1, d2, d3⟩ := hx
  obtain ⟨hi1, hi2⟩ := hi0
  rw [hW1] at d0 d1 d2 d3
  clear h hb1 hW1 hB hK hfit
  have R1 := hide (asks_any H.out.toBt k i aB aK B.length cB K.length cK)
  rw [HW.out] at R1
  have k1' := eqf k1
  have k2' := eqf k2
  have k3' := eqf k3
  have k4' := eqf k4
  have k5' := eqf k5
  have k10' := eqf k10
  clear hs1
  go_enter Try.func7, Try.ntmps7
  go_wp2_with fail
  refine R1.out.mono ?_
  rintro e w2 ⟨rfl, hb2⟩
  rw [← HW.out] at hb2
  have H2 := hide (H.out.keep hb2)
  clear hb2 R1 d0 d1 d2 d3
  go_wp2
  go_ret
  exact ⟨rfl, _, _, H2.out⟩
theorem plays_any (h : Bt w V F G p q S S) (hfit : S.fit) (o : Ov) (ho : o.good w) (hr1 : S.wr + 1 ≤ 4611686018427387904) (hr2 : S.sy + 1 ≤ 4611686018427387904) (hr3 : S.uns.length + 1 ≤ 268435456) :
    Calls Try.prog 7 #[.pointer (some ⟨p, 0, none⟩), .pointer (some ⟨q, 0, none⟩), .agg #[.int .i64 o.k, .int .i64 o.i, .slice o.aB o.B.length o.cB, .slice o.aK o.K.length o.cK]] V fun e V' => e = .returned (.bool true) ∧ ∃ F' G', Bn w V F G V' F' G' p q (S.step o) (S.step o) := by
  obtain ⟨k, i, aB, B, cB, aK, K, cK⟩ := o
  obtain ⟨hk, hi, hb, hkb, hbl, hkl⟩ := ho
  unfold Sd.step
  dsimp only at *
  by_cases k1 : k = 1
  · subst k1
    simpa using plays_write h hfit i hi aB B cB aK K cK hb hkb hbl hkl hr1 hr2 hr3
  by_cases k2 : k = 2
  · subst k2
    simpa using plays_sync h hfit i hi aB B cB aK K cK hb hkb hbl hkl hr1 hr2 hr3
  by_cases k3 : k = 3
  · subst k3
    simpa using plays_arm h hfit i hi aB B cB aK K cK hb hkb hbl hkl hr1 hr2 hr3
  by_cases k4 : k = 4
  · subst k4
    simpa using plays_off h hfit i hi aB B cB aK K cK hb hkb hbl hkl hr1 hr2 hr3
  by_cases k5 : k = 5
  · subst k5
    simpa using plays_on h hfit i hi aB B cB aK K cK hb hkb hbl hkl hr1 hr2 hr3
  by_cases k10 : k = 10
  · subst k10
    simpa using plays_lay h hfit i hi aB B cB aK K cK hb hkb hbl hkl hr1 hr2 hr3
  rw [if_neg k1, if_neg k2, if_neg k3, if_neg k4, if_neg k5, if_neg k10]
  exact plays_ask k k1 k2 k3 k4 k5 k10 h hfit i hi aB B cB aK K cK hb hkb hbl hkl hr1 hr2 hr3
end
end Go.Proofs.Ytlflcdjaknnfaab
