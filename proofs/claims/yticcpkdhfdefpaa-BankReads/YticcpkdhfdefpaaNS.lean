import Derived.Test.YticcpkdhfdefpaaNX
import Derived.Test.YticcpkdhfdefpaaNRA
import Derived.Test.YticcpkdhfdefpaaPSF
namespace Go.Proofs.Yticcpkdhfdefpaa
open Go.RowKit

/-! ### a list of numbers and its spare room -/
def spI (l : List Int) (i : Nat) : Value := if i < l.length then .int .i64 (l.getD i 0) else .int .i64 (-7 - (i : Int))
theorem spare_ir {w : World} {g n : Nat} {l : List Int} (h : w.rowIs g 3 n (spI l)) (hn : l.length ≤ n) : Ir w (some ⟨g, 0, none⟩) l :=
  .inr ⟨g, 0, rfl, fun i hi => by
    have := h.cell (i := i) (by omega)
    unfold spI at this
    rw [if_pos hi] at this
    rw [Nat.zero_add]; exact this⟩
set_option maxHeartbeats 1600000 in
theorem SpareInts_any (w : World) (aa : Option Addr) (n capa : Nat) (l : List Int) (hB : Ir w aa l) (hn : n = l.length) (hlen : l.length + 64 ≤ 17592186044416) :
    Calls Try.prog 10 #[.slice aa n capa] w fun x w' => x = .returned (.slice (some ⟨w.heap.size, 0, none⟩) l.length (l.length + 64)) ∧ w'.rowIs w.heap.size 3 (l.length + 64) (spI l) ∧ Below w.heap.size w w' := by
  subst hn
  have hmk := make_int (l.length + 64) (by omega)
  have hadd : IntKind.i64.wrap ((l.length : Int) + 64) = ((l.length + 64 : Nat) : Int) := by rw [wrapI (by omega) (by omega)]; omega
  have HB := hide hB
  clear hB
  generalize hN : l.length + 64 = N at *
  have HN := hide hN
  clear hN
  go_enter Try.func10, Try.ntmps10
  go_wp2
  go_loopw [4] (fun i wx => ∃ j : Nat, j ≤ N ∧ i = .int .i64 j ∧ (wx.rowIs w.heap.size 3 N (fun i => if i < j then spI l i else .int .i64 0) ∧ Below w.heap.size w wx)) (fun i _ => N - (intOf i).toNat)
  case atStart => exact ⟨0, Nat.zero_le _, rfl, (World.rowIs_made w (.int .i64 0) N 3).congr fun i _ => by simp, (Below.refl _ _).alloc (Nat.le_refl _) _⟩
  case round =>
    obtain ⟨j, hj, rfl, hG⟩ := hrel
    have HG := hide hG
    clear hG
    by_cases hlt : j < N
    · have hi : (j : Int) < (N : Int) := by omega
      have cg := HG.out.1.cell hlt
      have fg := HG.out.1.frozen j
      simp only [Nat.lt_irrefl, if_false] at cg
      by_cases hl : j < l.length
      · have hi2 : (j : Int) < (l.length : Int) := by omega
        obtain ⟨bs, off, rfl, hcs⟩ := (HB.out.keep HG.out.2).at hl
        have HV : Hid (spI l j = .int .i64 (l.getD j 0)) := by unfold spI; rw [if_pos hl]; exact rfl
        generalize l.getD j 0 = x at *
        go_wp2
        go_roundw
        case rel =>
          refine ⟨j + 1, by omega, by go_num, (HG.out.1.set j _).congr fun i hi => ?_, HG.out.2.setCell (Nat.le_refl _) _⟩
          by_cases e : i = j
          · subst e; rw [if_pos rfl, if_pos (by omega), HV.out]
          · rw [if_neg e]
            by_cases e2 : i < j
            · rw [if_pos e2, if_pos (by omega)]
            · rw [if_neg e2, if_neg (by omega)]
        case measure => simp [intOf]; omega
      · have hi2 : ¬ (j : Int) < (l.length : Int) := by omega
        have HV : Hid (spI l j = .int .i64 (-7 - (j : Int))) := by unfold spI; rw [if_neg hl]; exact rfl
        go_wp2
        go_roundw
        case rel =>
          refine ⟨j + 1, by omega, by go_num, (HG.out.1.set j _).congr fun i hi => ?_, HG.out.2.setCell (Nat.le_refl _) _⟩
          by_cases e : i = j
          · subst e; rw [if_pos rfl, if_pos (by omega), HV.out]
          · rw [if_neg e]
            by_cases e2 : i < j
            · rw [if_pos e2, if_pos (by omega)]
            · rw [if_neg e2, if_neg (by omega)]
        case measure => simp [intOf]; omega
    · obtain rfl : N = j := by omega
      have hI1 : (l.length : Int) ≤ (N : Int) := by have := HN.out; omega
      go_wp2
      go_ret
      exact ⟨rfl, HG.out.1.congr fun i hi => by rw [if_pos hi], HG.out.2⟩

set_option maxHeartbeats 1600000 in
theorem KeptInts_any (w : World) (g N : Nat) (ab : Option Addr) (n m capb : Nat) (l : List Int) (hR : w.rowIs g 3 N (spI l)) (hB : Ir w ab l) (hn : n = l.length) (hm : m = l.length) (hN : N = l.length + 64) (hlen : l.length + 64 ≤ 17592186044416) :
    Calls Try.prog 14 #[.slice (some ⟨g, 0, none⟩) n N, .slice ab m capb] w fun x w' => x = .returned (.bool true) ∧ Below w.heap.size w w' := by
  subst hn hm
  have hadd : IntKind.i64.wrap ((l.length : Int) + 64) = (N : Int) := by rw [wrapI (by omega) (by omega)]; omega
  have HE := hide (EqInts_same w (some ⟨g, 0, none⟩) ab l.length l.length N capb l (spare_ir hR (by omega)) hB rfl rfl (by omega))
  have HR := hide hR
  have HN := hide hN
  have hNb : N ≤ 17592186044416 := by omega
  clear hB hR hN
  have hI1 : (0 : Int) ≤ (N : Int) := by omega
  go_enter Try.func14, Try.ntmps14
  go_wp2_with fail
  refine HE.out.mono ?_
  rintro e w1 ⟨rfl, hb1⟩
  go_wp2
  go_loopw [6] (fun i wx => ∃ j : Nat, l.length ≤ j ∧ j ≤ N ∧ i = .int .i64 j ∧ Below w.heap.size w wx) (fun i _ => N - (intOf i).toNat)
  case atStart => exact ⟨l.length, Nat.le_refl _, by have := HN.out; omega, rfl, hb1⟩
  case round =>
    clear hb1
    obtain ⟨j, hlj, hj, rfl, hb⟩ := hrel
    by_cases hlt : j < N
    · have hi : (j : Int) < (N : Int) := by omega
      have cg := (rowIs_below HR.out hb).cell hlt
      unfold spI at cg
      rw [if_neg (by omega)] at cg
      go_wp2
      go_roundw
      case rel => exact ⟨j + 1, by omega, by omega, by go_num, hb⟩
      case measure => simp [intOf]; omega
    · obtain rfl : N = j := by omega
      go_wp2
      go_ret
      exact ⟨rfl, hb⟩
/-! ### lists of lists -/
set_option maxRecDepth 8000 in
set_option maxHeartbeats 1600000 in
theorem EqRows_same (w : World) (a b : Option Addr) (n m c d : Nat) (T U : List Br) (hT : Bl w a T) (hU : Bl w b U) (h : T.map Br.l = U.map Br.l) (hn : n = T.length) (hm : m = U.length) (hl : T.length ≤ 5864062014634) :
    Calls Try.prog 13 #[.slice a n c, .slice b m d] w fun e w' => e = .returned (.bool true) ∧ Below w.heap.size w w' := by
  subst hn hm
  have hlen : U.length = T.length := by have := congrArg List.length h; rw [List.length_map, List.length_map] at this; exact this.symm
  have HT := hide hT
  have HU := hide hU
  have HL := hide h
  rw [hlen]
  have HLN := hide hlen
  clear hT hU h hlen
  go_enter Try.func13, Try.ntmps13
  go_wp2
  go_loopw [5] (fun i wx => ∃ j : Nat, j ≤ T.length ∧ i = .int .i64 j ∧ (Below w.heap.size w wx)) (fun i _ => T.length - (intOf i).toNat)
  case atStart => exact ⟨0, Nat.zero_le _, rfl, Below.refl _ _⟩
  case round =>
    obtain ⟨j, hj, rfl, hG⟩ := hrel
    have HG := hide hG
    clear hG
    by_cases hlt : j < T.length
    · have hi : (j : Int) < (T.length : Int) := by omega
      have hju : j < U.length := by have := HLN.out; omega
      obtain ⟨b1, o1, rfl, cA⟩ := (HT.out.keep HG.out).c j hlt
      obtain ⟨b2, o2, rfl, cB⟩ := (HU.out.keep HG.out).c j hju
      have e1 : (U.getD j Br0).l = (T.getD j Br0).l := by rw [← map_getD, ← map_getD, HL.out]
      have r1 := (HT.out.r _ (Br0_mem hlt)).1
      have r2 := (HU.out.r _ (Br0_mem hju)).1
      unfold bv at cA cB
      rw [e1] at r2 cB
      have EB := hide fun (w1 : World) (hb : Below wr.heap.size wr w1) => EqBytes_same w1 (T.getD j Br0).a (U.getD j Br0).a (T.getD j Br0).l.length (T.getD j Br0).l.length (T.getD j Br0).c (U.getD j Br0).c (T.getD j Br0).l (r1.keep (bt HG.out hb)) (r2.keep (bt HG.out hb)) rfl rfl
      generalize T.getD j Br0 = t at *
      generalize U.getD j Br0 = u at *
      have CA := hide cA
      have CB := hide cB
      have KA := hide fun (w1 : World) (hb : Below wr.heap.size wr w1) => (hb.cell (p := ⟨b1, o1 + j, none⟩) (block_lt_of_cell CA.out)).trans CA.out
      have KB := hide fun (w1 : World) (hb : Below wr.heap.size wr w1) => (hb.cell (p := ⟨b2, o2 + j, none⟩) (block_lt_of_cell CB.out)).trans CB.out
      have P0 := hide (And.intro (KA.out _ (dr2 wr)) (And.intro (KB.out _ (dr2 wr)) (dr2 wr)))
      clear r1 r2 e1
      go_wp2
      go_region_held3 (fun w' => w'.cell? ⟨b1, o1 + j, none⟩ = some (.slice t.a t.l.length t.c) ∧ w'.cell? ⟨b2, o2 + j, none⟩ = some (.slice u.a t.l.length u.c) ∧ Below wr.heap.size wr w')
        (first | exact P0.out | exact ⟨KA.out _ TB1.out, KB.out _ TB1.out, TB1.out⟩)
        (first | (go_at_call 25; refine (EB.out _ (dr2 wr)).mono ?_; rintro e w1 ⟨rfl, hb1⟩; have TB1 := hide (bt (dr2 wr) hb1)))
      all_goals go_wp2
      all_goals go_roundw
      all_goals first
        | (case rel => exact ⟨j + 1, by omega, by go_num, bt HG.out TB1.out⟩)
        | (case measure => simp [intOf]; omega)
        | skip
    · obtain rfl : j = T.length := by omega
      go_wp2
      go_ret
      exact ⟨rfl, HG.out⟩
end Go.Proofs.Yticcpkdhfdefpaa
