import Derived.Test.YtienamijmccjbabIY
namespace Go.Proofs.Ytienamijmccjbab
open Go.RowKit

/-! ### is one that spare made as it was? -/
set_option maxRecDepth 8000 in
set_option maxHeartbeats 6400000 in
theorem kept_any (w : World) (s : Su) (g : Nat) (a : Option Addr) (c : Nat) (hX : Jw w (some ⟨g, 0, none⟩) (s.rs.length + 2) (spW s.rs)) (hJ : Js w a s.rs) (hN : s.rs.length ≤ 4398046510976) :
    Calls Try.prog 21 #[suv s (some ⟨g, 0, none⟩) (s.rs.length + 2), suv s a c] w fun y w' => y = .returned (.bool true) ∧ Below w.heap.size w w' := by
  have HL := hide (bt (al w (.cells (suC s (some ⟨g, 0, none⟩) (s.rs.length + 2)) 28)) (al _ (.cells (suC s a c) 28)))
  have HB1 := hide ((Bx.new w 28 (suC s (some ⟨g, 0, none⟩) (s.rs.length + 2))).keep (al _ (.cells (suC s a c) 28)))
  have HB2 : Hid (Bx ((w.alloc (.cells (suC s (some ⟨g, 0, none⟩) (s.rs.length + 2)) 28)).alloc (.cells (suC s a c) 28)) 28 (w.heap.size + 1) (suC s a c)) := by
    show Bx _ _ _ _
    have := Bx.new (w.alloc (.cells (suC s (some ⟨g, 0, none⟩) (s.rs.length + 2)) 28)) 28 (suC s a c)
    rwa [size_alloc] at this
  have EQ := hide fun (w1 : World) (hb : Below w.heap.size w w1) => EqSuper_same w1 s (some ⟨g, 0, none⟩) a (s.rs.length + 2) c ((hX.keep hb).pre.qs) (hJ.keep hb) (by omega)
  have HX := hide hX
  have hq := ne_tree 0 0 0 0 0 0
  have hqe : e3 0 0 0 0 0 0 = true := e3_iff.2 ⟨rfl, rfl, rfl⟩
  simp only [hqe] at hq
  clear hX hJ hqe
  unfold suv suC at *
  go_enter Try.func21, Try.ntmps21
  go_wp2_with fail
  generalize (w.alloc (.cells #[.int .i64 s.gen, .int .i64 s.bl, .int .i64 s.cl, .int .i64 s.rf, .int .i64 s.nx, .slice (some ⟨g, 0, none⟩) s.rs.length (s.rs.length + 2)] 28)).alloc (.cells #[.int .i64 s.gen, .int .i64 s.bl, .int .i64 s.cl, .int .i64 s.rf, .int .i64 s.nx, .slice a s.rs.length c] 28) = W at *
  refine (EQ.out _ HL.out).mono ?_
  rintro y w1 ⟨rfl, hb⟩
  have HL := hide (bt HL.out hb)
  have x5 := (HB1.out.keep hb).cell 5 (v := .slice (some ⟨g, 0, none⟩) s.rs.length (s.rs.length + 2)) rfl
  have y5 := (HB2.out.keep hb).cell 5 (v := .slice a s.rs.length c) rfl
  have hge : (s.rs.length : Int) + 2 ≤ ((s.rs.length + 2 : Nat) : Int) := by omega
  have hcne : ¬ s.rs.length + 2 = 0 := by omega
  clear hb EQ HB1 HB2
  go_wp2
  clear x5 y5
  go_loopw [6] (fun q wx => ∃ j : Nat, s.rs.length ≤ j ∧ j ≤ s.rs.length + 2 ∧ q = .int .i64 j ∧ Below w.heap.size w wx) (fun q _ => s.rs.length + 2 - (intOf q).toNat)
  case atStart => exact ⟨s.rs.length, Nat.le_refl _, by omega, rfl, HL.out⟩
  case round =>
    obtain ⟨j, hj1, hj2, rfl, hBB⟩ := hrel
    have B := hide hBB
    clear hBB
    by_cases hlt : j < s.rs.length + 2
    · have hlti : (j : Int) < (s.rs.length : Int) + 2 := by omega
      obtain ⟨bb, oo, hab, cA⟩ := (HX.out.keep B.out).qs.at (r := j) (by rw [spW_length]; exact hlt)
      simp only [Option.some.injEq, Addr.mk.injEq, and_true] at hab
      obtain ⟨rfl, rfl⟩ := hab
      rw [spW_ge s.rs hj1 hlt] at cA
      obtain ⟨i0, i1, i2, i3⟩ := range4 cA
      unfold mkR at i0 i1 i2 i3
      dsimp only at i0 i1 i2 i3
      rw [Nat.zero_add] at i0 i1 i2 i3
      clear cA
      have hw5 : wrap64 (-5 - (j : Int)) = -5 - (j : Int) := by unfold wrap64; omega
      have h55 : (-5 - (j : Int) == -5 - (j : Int)) = true := by simp
      go_wp2
      go_roundw
      case rel => exact ⟨j + 1, by omega, by omega, by go_num, B.out⟩
      case measure => simp [intOf]; omega
    · obtain rfl : j = s.rs.length + 2 := by omega
      go_wp2
      go_ret
      exact ⟨rfl, B.out⟩
end Go.Proofs.Ytienamijmccjbab
