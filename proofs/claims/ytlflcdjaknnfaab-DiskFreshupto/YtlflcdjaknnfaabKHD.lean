import Derived.Test.YtlflcdjaknnfaabKHC
namespace Go.Proofs.Ytlflcdjaknnfaab
open Go.RowKit
open Go.ChangeMaps (setBlock)

theorem hl_set {L b : List Nat} {o k : Nat} (hk : k < b.length) (h : o + b.length ≤ L.length) : (lays L o (b.take k)).set (o + k) (b.getD k 0) = lays L o (b.take (k + 1)) := by
  have l1 : (b.take k).length = k := by rw [List.length_take]; omega
  have l2 : (b.take (k + 1)).length = k + 1 := by rw [List.length_take]; omega
  have f1 : o + (b.take k).length ≤ L.length := by omega
  have f2 : o + (b.take (k + 1)).length ≤ L.length := by omega
  refine ext_get (by rw [List.length_set, lays_len f1, lays_len f2]) fun i hi => ?_
  rw [List.length_set, lays_len f1] at hi
  rw [lays_get f2, l2, List.getD_eq_getElem?_getD, List.getElem?_set]
  by_cases e : o + k = i
  · subst e
    rw [if_pos rfl, if_pos (by rw [lays_len f1]; exact hi), if_pos ⟨by omega, by omega⟩, Nat.add_sub_cancel_left]
    simp [List.getD_eq_getElem?_getD]
  · rw [if_neg e, ← List.getD_eq_getElem?_getD, lays_get f1, l1]
    by_cases e2 : o ≤ i ∧ i < o + k
    · rw [if_pos e2, if_pos ⟨e2.1, by omega⟩]
      have : i - o < k := by omega
      simp [List.getD_eq_getElem?_getD, this, show i - o < k + 1 by omega]
    · rw [if_neg e2, if_neg (by omega)]
theorem hl_none (L : List Nat) (o : Nat) : lays L o [] = L := by
  unfold lays
  simp
theorem rw_frozen {w : World} {g cap : Nat} {l : List Nat} (h : Rw w (some ⟨g, 0, none⟩) cap l) (i : Nat) : w.frozen? ⟨g, i, none⟩ = false := by
  rcases h.cases with ⟨e, _⟩ | ⟨g', cur, e, hg, _⟩
  · cases e
  · cases e
    exact frozen_of_row _ _ _ _ _ hg
theorem mul_h {ii oo : Nat} (h : oo = ii * 512) (hb : oo ≤ 33554432) : IntKind.i64.wrap ((ii : Int) * 512) = (oo : Int) := by rw [wrapI (by omega) (by omega)]; omega
theorem add_h {oo kk z : Nat} (h : z = oo + kk) (hb : z ≤ 33554432) : wrap64 ((oo : Int) + (kk : Int)) = (z : Int) := by unfold wrap64; omega
theorem add_h' {oo kk z : Nat} (h : z = oo + kk) (hb : z ≤ 33554432) : IntKind.i64.wrap ((oo : Int) + (kk : Int)) = (z : Int) := by rw [wrapI (by omega) (by omega)]; omega
theorem img_lay {S : Sd} (hok : S.ok) {i : Nat} (hi : i < S.n) {b : List Nat} (hb : Blk b) : (S.lay i b).img = lays S.img (i * 512) b := by
  have h5 : (i + 1) * 512 ≤ S.n * 512 := Nat.mul_le_mul_right _ hi
  have hl := hok.imgLen
  have hfit : i * 512 + b.length ≤ S.img.length := by rw [hl, hb.1]; omega
  symm
  refine img_ext (fun x _ => ((hok.lay (i := i) hb).last x).1) (by rw [lays_len hfit, hl]; rfl) fun x k hx hk => ?_
  rw [lays_get hfit, hb.1]
  show _ = (if x = i then b else S.last x).getD k 0
  by_cases e : x = i
  · subst e
    rw [if_pos ⟨Nat.le_add_right _ _, Nat.add_lt_add_left hk _⟩, if_pos rfl, Nat.add_sub_cancel_left]
  · rw [if_neg (by omega), if_neg e]
    exact imgF_get (fun i _ => (hok.last i).1) hx hk
section
variable {F : Nat → Prop} {w w' : World} {q la lc : Nat} {wa : Option Addr} {wc : Nat} {A : List (Nat × Nat)} {S : Sd}
theorem HkAt.nwl (h : HkAt F w q la lc wa wc A S) : ∀ x, wa = some x → x.block ≠ la := own_row_ne h.u h.l (by decide)
/-- the bytes that last turn -/
theorem HkAt.layd (h : HkAt F w q la lc wa wc A S) {W : World} {i : Nat} {b : List Nat} (hi : i < S.n) (hk : Blk b) (hb : But (· = la) w W) (hr : Rw W (some ⟨la, 0, none⟩) lc (lays S.img (i * 512) b)) : HkAt F W q la lc wa wc A (S.lay i b) := by
  have e := img_lay h.ok hi hk
  have el : (S.lay i b).img.length = S.img.length := by rw [(h.ok.lay hk).imgLen, h.ok.imgLen]; rfl
  exact { ok := h.ok.lay hk, blk := by
            have := (hb.block q (h.lt _ h.fq) (fun e => h.nl e.symm)).trans h.blk
            unfold hc at this ⊢
            rw [el]
            exact this
          l := by rw [e]; exact hr
          u := own_but h.u hb h.nwl
          a := h.a
          r := fun j u x h1 h2 => by
            obtain ⟨r1, r2, r3⟩ := h.r j u x h1 h2
            exact ⟨r1.but hb (fun y hy => by cases hy; exact r2), r2, r3⟩
          fq := h.fq, fl := h.fl, fw := h.fw
          lt := fun k hk => Nat.lt_of_lt_of_le (h.lt k hk) hb.size }
theorem HkAt.capL (h : HkAt F w q la lc wa wc A S) : S.img.length ≤ lc := by
  rcases h.l.cases with ⟨e, _⟩ | ⟨g, cur, _, _, e, _⟩
  · cases e
  · exact e
set_option maxHeartbeats 1000000 in
theorem hlay_any (h : HkAt F w q la lc wa wc A S) (i : Nat) (hi : i < S.n) (a : Option Addr) (c : Nat) (b : List Nat) (hB : Bs w a b) (hk : Blk b) (hA : ∀ x, a = some x → x.block ≠ la) :
    Calls Try.prog 45 #[.pointer (some ⟨q, 0, none⟩), .int .i64 (i : Int), .slice a 512 c] w fun e w' => e = .returned (.tuple #[]) ∧ HkAt F w' q la lc wa wc A (S.lay i b) ∧ But (· = la) w w' := by
  obtain ⟨P, hP⟩ : ∃ P, P = i * 512 := ⟨_, rfl⟩
  have h5 : (i + 1) * 512 ≤ S.n * 512 := Nat.mul_le_mul_right _ hi
  have hlen := h.ok.imgLen
  have hn1 := h.ok.n1
  have hPb : P + 512 ≤ S.img.length := by omega
  have hlb : S.img.length ≤ 33554432 := by omega
  have HF : Hid (∀ W, But (· = la) w W → Rw W (some ⟨la, 0, none⟩) lc (lays S.img P b) → HkAt F W q la lc wa wc A (S.lay i b)) := fun W h1 h2 => h.layd hi hk h1 (by rw [← hP]; exact h2)
  have HD := hide h
  have HB := hide hB
  have HP := hide hP
  have hcp := h.capL
  have hbl := hk.1
  have hm1 := mul_h hP (by omega)
  obtain ⟨ln, hln⟩ : ∃ ln, ln = S.img.length := ⟨_, rfl⟩
  have HLN := hide hln
  clear h hB hlen h5 hP hi
  rw [← hln] at hPb hlb hcp
  clear hln
  go_enter Try.func45, Try.ntmps45
  go_wp2
  go_loopw [6] (fun v wx => ∃ k : Nat, k ≤ 512 ∧ v = .int .i64 k ∧ (Rw wx (some ⟨la, 0, none⟩) lc (lays S.img P (b.take k)) ∧ But (· = la) w wx)) (fun v _ => 512 - (intOf v).toNat)
  case atStart => exact ⟨0, Nat.zero_le _, rfl, by rw [List.take_zero, hl_none]; exact HD.out.l, But.refl _ _⟩
  case round =>
    obtain ⟨k, hk5, rfl, hG⟩ := hrel
    have HG := hide hG
    clear hG
    by_cases hlt : k < 512
    · have j1 : (k : Int) < 512 := by omega
      have hlf : P + b.length ≤ S.img.length := by rw [← HLN.out, hbl]; exact hPb
      have HS := hide (hl_set (L := S.img) (o := P) (b := b) (k := k) (by omega) hlf)
      have hll : (lays S.img P (b.take k)).length = ln := by rw [lays_len (by rw [List.length_take]; omega)]; exact HLN.out.symm
      obtain ⟨bb, ob, rfl, cb⟩ := (HB.out.but HG.out.2 (fun x hx _ => hA x hx)).at (j := k) (by omega)
      have hbb : bb ≠ la := hA _ rfl
      obtain ⟨z, hz⟩ : ∃ z, z = P + k := ⟨_, rfl⟩
      have hzN : z < ln := by omega
      have cz := HG.out.1.cell (i := z) (by rw [hll]; exact hzN)
      have fz := rw_frozen HG.out.1 z
      have c0 : wr.cell? ⟨q, 0, none⟩ = some (.slice (some ⟨la, 0, none⟩) ln lc) := by
        rw [HLN.out]
        exact (HG.out.2.cell (p := ⟨q, 0, none⟩) (HD.out.lt _ HD.out.fq) (fun e => HD.out.nl e.symm)).trans (HD.out.cell 0)
      have v7 : (z : Int) < (ln : Int) := by omega
      have v8 : (0 : Int) ≤ (z : Int) := by omega
      have hzb : z ≤ 33554432 := by omega
      have v5 := add_h hz hzb
      have v6 := add_h' hz hzb
      rw [← hz] at HS
      clear hz hll hlf
      generalize (lays S.img P (b.take k)).getD z 0 = y at *
      generalize hx0 : b.getD k 0 = x at *
      have G1 := hide (show wr.drew.cell? ⟨q, 0, none⟩ = some (.slice (some ⟨la, 0, none⟩) ln lc) ∧ wr.drew.cell? ⟨bb, ob + k, none⟩ = some (.int .u8 ((x : Nat) : Int)) from ⟨((drw wr).cell (p := ⟨q, 0, none⟩) (block_lt_of_cell c0)).trans c0, ((drw wr).cell (p := ⟨bb, ob + k, none⟩) (block_lt_of_cell cb)).trans cb⟩)
      have G2 := hide (show (wr.drew.setCell ⟨la, z, none⟩ (.int .u8 ((x : Nat) : Int))).cell? ⟨q, 0, none⟩ = some (.slice (some ⟨la, 0, none⟩) ln lc) ∧ (wr.drew.setCell ⟨la, z, none⟩ (.int .u8 ((x : Nat) : Int))).cell? ⟨bb, ob + k, none⟩ = some (.int .u8 ((x : Nat) : Int)) from
        ⟨((set_but wr.drew la z _).cell (p := ⟨q, 0, none⟩) (block_lt_of_cell G1.out.1) (fun e => HD.out.nl e.symm)).trans G1.out.1, ((set_but wr.drew la z _).cell (p := ⟨bb, ob + k, none⟩) (block_lt_of_cell G1.out.2) hbb).trans G1.out.2⟩)
      have cz' : wr.drew.cell? ⟨la, z, none⟩ = some (.int .u8 ((y : Nat) : Int)) := ((drw wr).cell (p := ⟨la, z, none⟩) (block_lt_of_cell cz)).trans cz
      have fz' : wr.drew.frozen? ⟨la, z, none⟩ = false := fz
      have HW : Hid (Rw (wr.drew.setCell ⟨la, z, none⟩ (.int .u8 ((x : Nat) : Int))) (some ⟨la, 0, none⟩) lc (lays S.img P (b.take (k + 1))) ∧ But (· = la) w (wr.drew.setCell ⟨la, z, none⟩ (.int .u8 ((x : Nat) : Int)))) := by
        have h1 := (HG.out.1.keep (drw wr)).set z x
        rw [HS.out] at h1
        exact (⟨h1, HG.out.2.drew.trans (set_but _ la z _) (fun _ _ e => e)⟩ : _ ∧ _)
      clear HS HG hx0 c0 cb cz fz
      go_wp2
      go_region_held3 (fun V => V.cell? ⟨q, 0, none⟩ = some (.slice (some ⟨la, 0, none⟩) ln lc) ∧ V.cell? ⟨bb, ob + k, none⟩ = some (.int .u8 ((x : Nat) : Int)))
        (first | exact G1.out | exact G2.out)
        (first | fail)
      clear v5 v6 hm1
      go_wp2
      go_roundw
      case rel => exact ⟨k + 1, hlt, by go_num, HW.out⟩
      case measure => first | exact meas_up _ _ _ rfl hlt | (simp [intOf]; omega)
    · obtain rfl : k = 512 := by omega
      have hG4 := HG.out
      rw [List.take_of_length_le (by omega)] at hG4
      have HG4 := hide hG4
      clear hG4 HG
      have j1 : ¬ ((512 : Nat) : Int) < 512 := by decide
      rw [show ((512 : Nat) : Int) = 512 from rfl]
      go_wp2
      go_end0
      exact ⟨rfl, HF.out _ HG4.out.2 HG4.out.1, HG4.out.2⟩
end
end Go.Proofs.Ytlflcdjaknnfaab
