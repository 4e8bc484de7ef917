import Derived.Test.YticcpkdhfdefpaaNJ
namespace Go.Proofs.Yticcpkdhfdefpaa
open Go.RowKit

/-! ### one small bank -/
def sC : List Int := [1, 0, 258]
theorem sC_ok : enE 7 sC = 0 := by decide +kernel
def sB : List Nat := bbk 7 0 3 [1, 0, 258]
theorem sB_bank : bank 7 (nats sC) = [sB] := by rfl
theorem sB_len : sB.length = 512 := bbk_length (by decide)
theorem sB_at : sB.getD 0 0 = 66 ∧ sB.getD 21 0 = 2 ∧ sB.getD 22 0 = 1 := by
  have e : ∀ j, j < 508 → sB.getD j 0 = (padded (bod 7 0 3 [1, 0, 258])).getD j 0 := fun j hj => by
    have h := bbk_take 7 0 3 (cs := [1, 0, 258]) (by decide)
    rw [← h]
    unfold sB
    simp [hj]
  rw [e 0 (by decide), e 21 (by decide), e 22 (by decide)]
  decide +kernel
theorem sB_back : deE 7 3 [sB] = 0 ∧ deC 7 3 [sB] = sC := by
  have h := there_back sC_ok
  rw [show ((7 : Int)).toNat = 7 from rfl, sB_bank] at h
  exact h
theorem Ir.three (w : World) {g : Nat} {x y z : Int} (h : w.heap[g]? = some (.cells #[.int .i64 x, .int .i64 y, .int .i64 z] 3 (0, 0))) : Ir w (some ⟨g, 0, none⟩) [x, y, z] := by
  refine .inr ⟨g, 0, rfl, fun i hi => ?_⟩
  rw [cell_of_row _ _ _ _ _ _ h]
  match i, hi with
  | 0, _ => rfl
  | 1, _ => rfl
  | 2, _ => rfl
theorem one_of_map {T : List Br} {l : List Nat} (h : T.map Br.l = [l]) : ∃ t, T = [t] ∧ t.l = l := by
  match T, h with
  | [t], h => exact ⟨t, rfl, by simpa using h⟩
set_option maxRecDepth 8000 in
set_option maxHeartbeats 3200000 in
theorem works_any (w : World) : Calls Try.prog 7 #[] w fun e w' => e = .returned (.bool true) ∧ Below w.heap.size w w' := by
  have EN := hide (Encode_any (w.alloc (.cells #[.int .i64 1, .int .i64 0, .int .i64 258] 3)) 7 (some ⟨w.heap.size, 0, none⟩) 3 sC (Ir.three _ (heap_alloc_new _ _)) (by decide))
  unfold EnQ at EN
  rw [bank_eqL sC_ok, show ((7 : Int)).toNat = 7 from rfl, sB_bank, sC_ok] at EN
  have DE : Hid (∀ (w1 : World) (a : Option Addr) (c : Nat) (t : Br), Bl w1 a [t] → t.l = sB → Calls Try.prog 17 #[.int .i64 7, .int .i64 3, .slice a 1 c] w1 fun y w' => ∃ a' c', y = .returned (.tuple #[.slice a' 3 c', .int .i64 0]) ∧ IOwn w1 w' a' c' sC) := by
    intro w1 a c t h ht
    have := Decode_any w1 7 3 a 1 c [t] h rfl (by decide)
    unfold DeQ at this
    rw [show [t].map Br.l = [sB] by rw [List.map_cons, List.map_nil, ht], sB_back.1, sB_back.2] at this
    exact this
  have EQ := hide fun (w1 : World) (a b : Option Addr) (n c d : Nat) (h1 : Ir w1 a sC) (h2 : Ir w1 b sC) (hn : n = 3) => EqInts_same w1 a b n 3 c d sC h1 h2 hn rfl (by decide)
  have BL := hide fun w1 => Blocks_any w1 241 (by decide)
  rw [show ((nbl ((241 : Int)).toNat : Nat) : Int) = 2 from rfl] at BL
  obtain ⟨s0, s1, s2⟩ := sB_at
  have S0 := hide s0
  have S1 := hide s1
  have S2 := hide s2
  clear s0 s1 s2
  go_enter Try.func7, Try.ntmps7
  go_wp2_with fail
  refine EN.out.mono ?_
  rintro y w1 ⟨a1, c1, T, rfl, hT, hL⟩
  obtain ⟨t, rfl, ht⟩ := one_of_map hT
  have T1 := hide (bt (al w (.cells #[.int .i64 1, .int .i64 0, .int .i64 258] 3)) hL.x.b)
  have L := hide hL
  have HT := hide ht
  obtain ⟨g, rfl, cA⟩ := hL.x.r.cell (i := 0) (v := bv t) rfl
  unfold bv at cA
  rw [ht, sB_len] at cA
  have hb := (hL.bl.r t (by simp)).1
  rw [ht] at hb
  obtain ⟨b0, o0, e0, k0⟩ := hb.at (j := 0) (by rw [sB_len]; decide)
  obtain ⟨b1, o1, e1, k1⟩ := hb.at (j := 21) (by rw [sB_len]; decide)
  obtain ⟨b2, o2, e2, k2⟩ := hb.at (j := 22) (by rw [sB_len]; decide)
  rw [e0] at e1 e2
  cases e1
  cases e2
  rw [S0.out, Nat.add_zero] at k0
  rw [S1.out] at k1
  rw [S2.out] at k2
  rw [e0] at cA
  clear hT hL ht hb EN e0
  go_wp2_with fail
  refine (DE.out _ _ _ t L.out.bl HT.out).mono ?_
  rintro y w2 ⟨a2, c2, rfl, hO⟩
  have O2 := hide hO
  have T2 := hide (bt T1.out hO.b)
  clear hO
  go_wp2_with fail
  refine (EQ.out _ a2 (some ⟨w2.heap.size, 0, none⟩) _ _ _ (O2.out.r.ir.keep (al _ _)) (Ir.three _ (heap_alloc_new _ _)) rfl).mono ?_
  rintro y w3 ⟨rfl, hb3⟩
  have T3 := hide (bt T2.out (bt (al _ _) hb3))
  clear hb3
  go_wp2_with (go_at_call 8; refine (BL.out _).mono ?_; rintro y w1 ⟨rfl, hww⟩; obtain rfl := hww.symm)
  go_ret
  exact ⟨rfl, T3.out⟩
end Go.Proofs.Yticcpkdhfdefpaa
