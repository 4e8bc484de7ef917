import Derived.Test.YtlflcdjaknnfaabKPA
namespace Go.Proofs.Ytlflcdjaknnfaab
open Go.RowKit

section
variable {w V V' : World} {F G : Nat → Prop} {p q : Nat} {S : Sd}
set_option maxRecDepth 8000 in
set_option maxHeartbeats 3000000 in
theorem asks_any (h : Bt w V F G p q S S) (k i : Int) (aB aK : Option Addr) (nB cB nK cK : Nat) :
    Calls Try.prog 38 #[.pointer (some ⟨p, 0, none⟩), .pointer (some ⟨q, 0, none⟩), .agg #[.int .i64 k, .int .i64 i, .slice aB nB cB, .slice aK nK cK]] V fun e V' => e = .returned (.bool true) ∧ Below V.heap.size V V' := by
  obtain ⟨W1, hW1⟩ : ∃ W1, W1 = V.alloc (.cells #[.int .i64 k, .int .i64 i, .slice aB nB cB, .slice aK nK cK] 34) := ⟨_, rfl⟩
  have hb1 : Below V.heap.size V W1 := by rw [hW1]; exact al _ _
  have d0 := box_cells (V := V) (k := k) (i := i) (aB := aB) (aK := aK) (nB := nB) (cB := cB) (nK := nK) (cK := cK) (Below.refl _ _)
  have H := hide (h.keep hb1)
  have HB1 := hide hb1
  have HW := hide hW1
  have hok := h.d.ok
  obtain ⟨d0, d1, _, _⟩ := d0
  clear h hb1 hW1
  by_cases k0 : k = 0
  · subst k0
    have R1 := hide (kRead H.out.d i)
    have HR2 := hide fun (U : World) (hb : Below W1.heap.size W1 U) => mRead (H.out.m.keep hb) i
    have hlt : Hid (∀ x ∈ S.read i, x < 256) := by
      intro x hx
      unfold Sd.read at hx
      split at hx
      · cases hx
      · split at hx
        · cases hx
        · exact (hok.show _).2 x hx
    rw [HW.out] at R1
    generalize S.read i = L at *
    generalize S.readE i = e0 at *
    have q0 : ((e0 : Int) == (e0 : Int)) = true := by simp
    go_enter Try.func38, Try.ntmps38
    go_wp2_with fail
    refine R1.out.mono ?_
    rintro e w2 ⟨a2, c2, rfl, hr2, hn2, hb2⟩
    have c1 := (box_cells hb2).2.1
    rw [← HW.out] at hb2
    have H2 := hide (And.intro hr2 hb2)
    have R2 := hide (HR2.out w2 hb2)
    clear hr2 hn2 hb2 R1 HR2
    go_wp2_with fail
    refine R2.out.mono ?_
    rintro e w3 ⟨a3, c3, rfl, hr3, hn3, hb3⟩
    have R3 := hide (EqBytes_same w3 a2 a3 L.length L.length c2 c3 L ((H2.out.1.keep hb3).bs' hlt.out) (hr3.bs' hlt.out) rfl rfl)
    have HB3 := hide (bt HB1.out (bt H2.out.2 hb3))
    clear hr3 hn3 hb3 R2
    go_wp2_with fail
    refine R3.out.mono ?_
    rintro e w4 ⟨rfl, hb4⟩
    have HB4 := hide (bt HB3.out hb4)
    clear hb4 R3
    go_wp2
    go_ret
    exact ⟨rfl, HB4.out⟩
  have k0' := eqf k0
  by_cases k6 : k = 6
  · subst k6
    have R1 := hide (kIsOn H.out.d)
    have R2 := hide (mIsOn H.out.m)
    rw [HW.out] at R1 R2
    have HB1 : Hid (Below V.heap.size V (V.alloc (.cells #[.int .i64 6, .int .i64 i, .slice aB nB cB, .slice aK nK cK] 34))) := al _ _
    clear H hok
    cases hp : S.pow with
    | true =>
      rw [hp] at R1 R2
      go_enter Try.func38, Try.ntmps38
      go_wp2_with (first | (go_at_call 52; refine R1.out.mono ?_; rintro e wq ⟨rfl, e1⟩; have e1 := e1.symm; subst e1) | (go_at_call 53; refine R2.out.mono ?_; rintro e wq ⟨rfl, e1⟩; have e1 := e1.symm; subst e1))
      go_ret
      exact ⟨rfl, HB1.out⟩
    | false =>
      rw [hp] at R1 R2
      go_enter Try.func38, Try.ntmps38
      go_wp2_with (first | (go_at_call 52; refine R1.out.mono ?_; rintro e wq ⟨rfl, e1⟩; have e1 := e1.symm; subst e1) | (go_at_call 53; refine R2.out.mono ?_; rintro e wq ⟨rfl, e1⟩; have e1 := e1.symm; subst e1))
      go_ret
      exact ⟨rfl, HB1.out⟩
  have k6' := eqf k6
  by_cases k7 : k = 7
  · subst k7
    have R1 := hide (kUnsynced H.out.d)
    have HR2 := hide fun (U : World) (hb : Below W1.heap.size W1 U) => mUnsynced (H.out.m.keep hb)
    have hal : S.at.length ≤ 268435456 := by rw [S.at_len]; exact hok.u1
    obtain ⟨x1, hx1⟩ : ∃ x1, x1 = W1.heap.size := ⟨_, rfl⟩
    rw [← hx1] at R1
    have HX1 := hide hx1
    rw [HW.out] at R1
    clear hx1
    generalize S.at = L at *
    go_enter Try.func38, Try.ntmps38
    go_wp2_with fail
    refine R1.out.mono ?_
    rintro e w2 ⟨rfl, hr2, hb2⟩
    rw [← HW.out] at hb2
    have hb2' : Below W1.heap.size W1 w2 := by rw [← HX1.out]; exact hb2
    have H2 := hide (And.intro hr2 (bt HB1.out hb2'))
    have R2 := hide (HR2.out w2 hb2')
    clear hr2 hb2 hb2' R1 HR2
    go_wp2_with fail
    refine R2.out.mono ?_
    rintro e w3 ⟨a3, c3, rfl, hr3, hn3, hb3⟩
    have R3 := hide (EqInts_same w3 (some ⟨x1, 0, none⟩) a3 L.length L.length L.length c3 L ((H2.out.1.keep hb3).ir) hr3.ir rfl rfl hal)
    have HB3 := hide (bt H2.out.2 hb3)
    clear hr3 hn3 hb3 R2
    go_wp2_with fail
    refine R3.out.mono ?_
    rintro e w4 ⟨rfl, hb4⟩
    have HB4 := hide (bt HB3.out hb4)
    clear hb4 R3
    go_wp2
    go_ret
    exact ⟨rfl, HB4.out⟩
  have k7' := eqf k7
  by_cases k8 : k = 8
  · subst k8
    have R1 := hide (kActs H.out.d)
    have HR2 := hide fun (U : World) (hb : Below W1.heap.size W1 U) => mActs (H.out.m.keep hb)
    rw [HW.out] at R1
    generalize S.wr = x1 at *
    generalize S.sy = x2 at *
    have q0 : ((x1 : Int) == (x1 : Int)) = true := by simp
    have q1 : ((x2 : Int) == (x2 : Int)) = true := by simp
    go_enter Try.func38, Try.ntmps38
    go_wp2_with fail
    refine R1.out.mono ?_
    rintro e w2 ⟨rfl, hb2⟩
    rw [← HW.out] at hb2
    have H2 := hide hb2
    have R2 := hide (HR2.out w2 hb2)
    clear hb2 R1 HR2
    go_wp2_with fail
    refine R2.out.mono ?_
    rintro e w3 ⟨rfl, hb3⟩
    have HB3 := hide (bt HB1.out (bt H2.out hb3))
    clear hb3 R2
    go_wp2
    go_ret
    exact ⟨rfl, HB3.out⟩
  have k8' := eqf k8
  by_cases k9 : k = 9
  · subst k9
    obtain ⟨la, lc, c0, hL, _⟩ := H.out.m.lasts
    have HL := hide hL
    have R1 := hide (kImage (H.out.d.keep (drw W1)))
    have hlt := hide hok.imgLt
    have HBD := hide (bt HB1.out (drw W1))
    have c0' : W1.drew.cell? ⟨q, 0, none⟩ = some (.slice (some ⟨la, 0, none⟩) S.img.length lc) := c0
    generalize S.img = I at *
    obtain ⟨x1, hx1⟩ : ∃ x1, x1 = W1.drew.heap.size := ⟨_, rfl⟩
    rw [← hx1] at R1
    have HX1 := hide hx1
    have HC0 := hide c0'
    rw [HW.out] at R1 c0'
    clear hL c0 hx1
    go_enter Try.func38, Try.ntmps38
    go_wp2
    go_region_held3 (fun U => U.cell? ⟨q, 0, none⟩ = some (.slice (some ⟨la, 0, none⟩) I.length lc))
      (first | exact c0' | exact c6 | exact c7)
      (first
        | (go_at_call 17; refine R1.out.mono ?_; rintro e w6 ⟨rfl, hr6, hb6⟩; rw [← HW.out] at hb6; have hb6' : Below W1.drew.heap.size W1.drew w6 := (by rw [← HX1.out]; exact hb6); have c6 : w6.cell? ⟨q, 0, none⟩ = some (.slice (some ⟨la, 0, none⟩) I.length lc) := (hb6'.cell (p := ⟨q, 0, none⟩) (block_lt_of_cell HC0.out)).trans HC0.out; have HB6 := hide (bt HBD.out hb6'); have R9 := hide (EqBytes_same w6 (some ⟨x1, 0, none⟩) (some ⟨la, 0, none⟩) I.length I.length I.length lc I (hr6.bs' hlt.out) ((HL.out.keep (drw W1)).keep hb6') rfl rfl); clear hr6 hb6 hb6')
        | (go_at_call 15; refine R9.out.mono ?_; rintro e w7 ⟨rfl, hb7⟩; have c7 := (hb7.cell (p := ⟨q, 0, none⟩) (block_lt_of_cell c6)).trans c6; have HB7 := hide (bt HB6.out hb7); clear hb7))
    go_wp2
    go_ret
    exact ⟨rfl, HB7.out⟩
  have k9' := eqf k9
  by_cases k11 : k = 11
  · subst k11
    have R1 := hide (kBlocks H.out.d)
    have R2 := hide (hBlocks_any H.out.m)
    rw [HW.out] at R1 R2
    have HB1 : Hid (Below V.heap.size V (V.alloc (.cells #[.int .i64 11, .int .i64 i, .slice aB nB cB, .slice aK nK cK] 34))) := al _ _
    clear H hok
    generalize S.n = n at *
    have q0 : ((n : Int) == (n : Int)) = true := by simp
    go_enter Try.func38, Try.ntmps38
    go_wp2_with (first | (go_at_call 56; refine R1.out.mono ?_; rintro e wq ⟨rfl, e1⟩; have e1 := e1.symm; subst e1) | (go_at_call 57; refine R2.out.mono ?_; rintro e wq ⟨rfl, e1⟩; have e1 := e1.symm; subst e1))
    go_ret
    exact ⟨rfl, HB1.out⟩
  have k11' := eqf k11
  clear H hok
  rw [HW.out] at HB1
  go_enter Try.func38, Try.ntmps38
  go_wp2
  go_ret
  exact ⟨rfl, HB1.out⟩
end
end Go.Proofs.Ytlflcdjaknnfaab
