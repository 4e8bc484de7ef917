import Derived.Test.YtdinhfogclmaaaaUYYA
import Derived.BigQuiet
import Derived.Deep.CutRange
import Derived.Deep.RegionHeld3
import Derived.Test.YtdinhfogclmaaaaUYNC
namespace Go.Proofs.Ytdinhfogclmaaaa
set_option linter.unusedVariables false
open Go.RowKit

/-! ### play: a script from its first call to the last look -/
set_option maxHeartbeats 4000000 in
set_option maxRecDepth 20000 in
theorem play_of (hdo : ∀ (Z : Nat → Prop) (w : World) (X m : Nat) (D : Dat) (o : Opv) (hW : Wk Z w X m D) (ho : o.ok w Z) (hm : m ≤ 1954687338620), Calls Try.prog 6 #[pt X, .agg o.cs.toArray] w (Did Z w X m))
    (hbook : ∀ (Z : Nat → Prop) (w : World) (X m : Nat) (D : Dat) (hW : Wk Z w X m D) (hm : m ≤ 1954687338620), Calls Try.prog 7 #[pt X] w fun e w' => e = .returned (.bool true) ∧ But (fun k => ¬ Z k) w w')
    (w : World) (a : Option Addr) (cap : Nat) (S : List Opv) (h : Os w a S ∧ (∀ o ∈ S, o.good w) ∧ S.length ≤ 1954687338609) :
    Calls Try.prog 4 #[.slice a S.length cap] w fun e w' => e = .returned (.bool true) ∧ Below w.heap.size w w' := by
  obtain ⟨hO, hG, hL⟩ := h
  have HO := hide hO
  have HG := hide hG
  have P0 := hide (Pre.start w (fun _ => 0) (fun _ => 0) (fun _ => none) (fun _ => 0) w.heap.size (Nat.le_refl _))
  have B0 := hide (al w (.cells (bornC 0 (fun _ => 0) (fun _ => 0)).toArray 35))
  have HD := hide hdo
  have HB := hide hbook
  obtain ⟨X, hX⟩ : ∃ X : Nat, w.heap.size = X := ⟨_, rfl⟩
  obtain ⟨ln, hln⟩ : ∃ ln : Nat, S.length = ln := ⟨_, rfl⟩
  rw [hln] at hL ⊢
  clear hO hG hdo hbook
  go_enter Try.func4, Try.ntmps4
  go_wp2
  try rw [hX]
  rw [hX] at P0
  go_loopw [4] (fun i wx => ∃ n : Nat, n ≤ 3 ∧ i = .int .i64 n ∧ (∃ P R pa pc, Pre X wx X n P R pa pc) ∧ But (fun k => k = X) w wx) (fun i _ => 3 - (intOf i).toNat)
  case atStart => exact ⟨0, by omega, rfl, ⟨_, _, _, _, P0.out⟩, But.ofBelow B0.out⟩
  case round =>
    obtain ⟨n, hn, rfl, ⟨P, R, pa, pc, hP⟩, hbw⟩ := hrel
    clear P0 B0
    by_cases hlt : n < 3
    · have nI : (n : Int) < 3 := by omega
      have nI0 : (0 : Int) ≤ (n : Int) := Int.natCast_nonneg n
      go_wp2_with fail
      have HP := hide (hP.keep (show Below wr.heap.size wr wr.drew from drews wr 1))
      have BW := hide (hbw.andBelow (show Below wr.heap.size wr wr.drew from drews wr 1))
      clear hP hbw
      go_region_law
        (first
          | (refine step_call rfl 5 _ _ rfl (enters_of Try.func5 (by kernel_rfl) rfl) _ (by simp [Act.eval]) (New_none wr.drew) ?_; rintro e w8 ⟨b', a', cap', L', rfl, z1, _, z3⟩; refine ⟨_, rfl, ?_⟩; obtain ⟨f1, f2, f3, f4, f5, f6, f7, f8, f9, FA, GA, f10, FC, GC⟩ := HP.out.callA hlt z1 z3; clear z1 z3)
          | (refine step_call rfl 5 _ _ rfl (enters_of Try.func5 (by kernel_rfl) rfl) _ (by simp [Act.eval]) (New_none (wr.drew.alloc (.cells #[.slice none 0 0] 39))) ?_; rintro e w8 ⟨b', a', cap', L', rfl, z1, _, z3⟩; refine ⟨_, rfl, ?_⟩; obtain ⟨f1, f2, f5, f6, f9, FA, GA⟩ := HP.out.callB hlt z1 z3; clear z1 z3))
      all_goals
        go_wp2
        go_roundw
        (case rel => first | exact ⟨n + 1, by omega, by simp, FA.out, BW.out.trans GA.out (fun _ _ h => h)⟩ | exact ⟨n + 1, by omega, by simp, FC.out, BW.out.trans GC.out (fun _ _ h => h)⟩)
        (case measure => simp [intOf]; omega)
    · have hP3 : Pre X wr X 3 P R pa pc := (show n = 3 by omega) ▸ hP
      have nI : ¬ (n : Int) < 3 := by omega
      have box := World.alloc_heap_new wr (.cells #[.int .i64 0, .int .i64 0, .int .i64 0, .int .i64 3, .int .i64 5, .int .i64 0, .slice none 0 0] 41)
      have b1 := al wr (.cells #[.int .i64 0, .int .i64 0, .int .i64 0, .int .i64 3, .int .i64 5, .int .i64 0, .slice none 0 0] 41)
      have sz := size_alloc wr (.cells #[.int .i64 0, .int .i64 0, .int .i64 0, .int .i64 3, .int .i64 5, .int .i64 0, .slice none 0 0] 41)
      have K0 := hide (hP3.work (F := wr.heap.size) b1 (Nat.le_refl _) (by omega))
      have BW := hide (hbw.andBelow b1)
      have XB := hide hP3.hB
      clear hP hbw hP3 b1 sz
      go_wp2_with fail
      obtain ⟨W1, hW1⟩ : ∃ W1, wr.alloc (.cells #[.int .i64 0, .int .i64 0, .int .i64 0, .int .i64 3, .int .i64 5, .int .i64 0, .slice none 0 0] 41) = W1 := ⟨_, rfl⟩
      rw [hW1] at box K0 BW ⊢
      obtain ⟨F, hF⟩ : ∃ F : Nat, wr.heap.size = F := ⟨_, rfl⟩
      rw [hF] at box K0 XB ⊢
      have BOX := hide box
      clear hW1 hF box
      go_loopw [6] (fun q wx => ∃ (m : Nat) (D : Dat), m ≤ ln + 1 ∧ q = .int .i64 ((m : Int) - 1) ∧ Wk (fun k => k < X ∨ k = F) wx X m D ∧ But (fun k => ¬ (k < X ∨ k = F)) W1 wx) (fun q _ => ((ln : Int) - intOf q).toNat)
      case atStart => exact ⟨0, _, by omega, rfl, K0.out, But.refl _ _⟩
      case round =>
        obtain ⟨m, D, hm, rfl, hK, hB⟩ := hrel
        obtain ⟨i, hi⟩ : ∃ i : Int, (m : Int) - 1 = i := ⟨_, rfl⟩
        rw [hi]
        have i0 : -1 ≤ i := by omega
        have i1 : i ≤ (ln : Int) := by omega
        have MI := hide hi
        have box := hB.same BOX.out (fun e => e (.inr rfl))
        have p0 : wr.cell? ⟨F, 0, none⟩ = some (.int .i64 0) := by rw [cell_of_row _ _ _ _ _ _ box]; rfl
        have p1 : wr.cell? ⟨F, 1, none⟩ = some (.int .i64 0) := by rw [cell_of_row _ _ _ _ _ _ box]; rfl
        have p2 : wr.cell? ⟨F, 2, none⟩ = some (.int .i64 0) := by rw [cell_of_row _ _ _ _ _ _ box]; rfl
        have p3 : wr.cell? ⟨F, 3, none⟩ = some (.int .i64 3) := by rw [cell_of_row _ _ _ _ _ _ box]; rfl
        have p4 : wr.cell? ⟨F, 4, none⟩ = some (.int .i64 5) := by rw [cell_of_row _ _ _ _ _ _ box]; rfl
        have p5 : wr.cell? ⟨F, 5, none⟩ = some (.int .i64 0) := by rw [cell_of_row _ _ _ _ _ _ box]; rfl
        have p6 : wr.cell? ⟨F, 6, none⟩ = some (.slice none 0 0) := by rw [cell_of_row _ _ _ _ _ _ box]; rfl
        clear hi box
        by_cases hlt : i < (ln : Int)
        · by_cases hneg : i < 0
          · have K1 := hide (hK.keep (al wr (.cells #[.int .i64 0, .int .i64 0, .int .i64 0, .int .i64 3, .int .i64 5, .int .i64 0, .slice none 0 0] 41)))
            have B1 := hide (hB.andBelow (al wr (.cells #[.int .i64 0, .int .i64 0, .int .i64 0, .int .i64 3, .int .i64 5, .int .i64 0, .slice none 0 0] 41)))
            clear hK hB
            go_wp2_with fail
            refine (HD.out _ _ X m D ⟨0, 0, 0, 3, 5, 0, none, [], 0⟩ K1.out ⟨⟨by decide, by decide⟩, ⟨by decide, by decide⟩, ⟨by decide, by decide⟩, ⟨by decide, by decide⟩, ⟨by decide, by decide⟩, ⟨by decide, by decide⟩, .inl rfl, by simp, by simp, fun x hx => by cases hx⟩ (by omega)).mono ?_
            rintro e w2 ⟨rfl, D', hK2, hB2⟩
            have K2 := hide hK2
            have B2 := hide (B1.out.trans hB2 (fun _ _ h => h))
            clear hK2 hB2
            go_wp2
            go_roundw
            (case rel => have := MI.out; exact ⟨m + 1, D', by omega, congrArg (Value.int IntKind.i64) (by omega), K2.out, B2.out⟩)
            (case measure => simp [intOf]; omega)
          · obtain ⟨j, rfl⟩ : ∃ j : Nat, i = j := ⟨i.toNat, by omega⟩
            have jl : j < ln := by omega
            have jS : j < S.length := by rw [hln]; exact jl
            have hmem : S.getD j Opv.zero ∈ S := by rw [List.getD_eq_getElem?_getD, List.getElem?_eq_getElem jS]; exact List.getElem_mem jS
            have hg := HG.out _ hmem
            rcases HO.out with e | ⟨b, off, rfl, hcells⟩
            · rw [e] at jS; cases jS
            have hc := hcells j jS
            generalize S.getD j Opv.zero = o at hg hc
            have hbX : b < X := by
              have := block_lt_of_cell (hc 0 _ rfl)
              rw [hX] at this
              exact this
            have hcV : ∀ t u, o.cs[t]? = some u → (wr.alloc (.cells #[.int .i64 0, .int .i64 0, .int .i64 0, .int .i64 3, .int .i64 5, .int .i64 0, .slice none 0 0] 41)).cell? ⟨b, off + j * 7 + t, none⟩ = some u := fun t u hu => by
              have k1 := hc t u hu
              have k2 := (BW.out.cell (p := ⟨b, off + j * 7 + t, none⟩) (block_lt_of_cell k1) (fun e => by have e' : b = X := e; omega)).trans k1
              have k3 := (hB.cell (p := ⟨b, off + j * 7 + t, none⟩) (block_lt_of_cell k2) (fun e => e (.inl hbX))).trans k2
              exact ((al wr _).cell (p := ⟨b, off + j * 7 + t, none⟩) (block_lt_of_cell k3)).trans k3
            have hir : Rf.Vs wr o.aL o.L := by
              by_cases hL0 : o.L = []
              · rw [hL0]; exact .inl rfl
              · have lt : ∀ x, o.aL = some x → x.block < X := fun x hx => by have := hg.blk hx hL0; rw [hX] at this; exact this
                exact (hg.ir.but BW.out (fun x hx e => by have := lt x hx; have e' : x.block = X := e; omega)).but hB (fun x hx e => e (.inl (lt x hx)))
            have lt := hide (show ∀ x, o.aL = some x → o.L ≠ [] → (x.block < X ∨ x.block = F) from fun x hx h0 => by have := hg.blk hx h0; rw [hX] at this; exact .inl this)
            have ob := al wr (.cells #[.int .i64 o.k, .int .i64 o.who, .int .i64 o.tt, .int .i64 o.lo, .int .i64 o.hi, .int .i64 o.n, .slice o.aL o.L.length o.cL] 41)
            have K1 := hide (hK.keep ob)
            have B1 := hide (hB.andBelow ob)
            have OK := hide (show o.ok (wr.alloc (.cells #[.int .i64 o.k, .int .i64 o.who, .int .i64 o.tt, .int .i64 o.lo, .int .i64 o.hi, .int .i64 o.n, .slice o.aL o.L.length o.cL] 41)) (fun k => k < X ∨ k = F) from ⟨hg.k, hg.who, hg.tt, hg.lo, hg.hi, hg.n, hir.keep ob, hg.bnd, hg.len, lt.out⟩)
            have g0 := hcV 0 _ rfl
            have g1 := hcV 1 _ rfl
            have g2 := hcV 2 _ rfl
            have g3 := hcV 3 _ rfl
            have g4 := hcV 4 _ rfl
            have g5 := hcV 5 _ rfl
            have g6 := hcV 6 _ rfl
            rw [Nat.add_zero] at g0
            clear hK hB hcV hc hcells hg hmem hir lt ob hbX
            go_wp2_with fail
            refine (HD.out _ _ X m D o K1.out OK.out (by omega)).mono ?_
            rintro e w2 ⟨rfl, D', hK2, hB2⟩
            have K2 := hide hK2
            have B2 := hide (B1.out.trans hB2 (fun _ _ h => h))
            clear hK2 hB2 g0 g1 g2 g3 g4 g5 g6
            go_wp2
            go_roundw
            (case rel => have := MI.out; exact ⟨m + 1, D', by omega, congrArg (Value.int IntKind.i64) (by omega), K2.out, B2.out⟩)
            (case measure => simp [intOf]; omega)
        · have CB := hide (HB.out _ _ X m D hK (by omega))
          have B1 := hide hB
          clear hK hB
          go_wp2_with fail
          refine CB.out.mono ?_
          rintro e w2 ⟨rfl, hB2⟩
          have B2 := hide (((BW.out.mono (fun k hk e (h : k < X) => by have e' : k = X := e; omega)).trans B1.out (fun k hk e h => e (.inl h))).trans hB2 (fun k hk e h => e (.inl h)))
          clear hB2
          go_wp2
          go_ret
          exact ⟨rfl, B2.out.below (fun q hq h => h (by omega))⟩
end Go.Proofs.Ytdinhfogclmaaaa
