import Derived.Test.YtifhkfghjifecaaIU
namespace Go.Proofs.Ytifhkfghjifecaa
open Go.RowKit

theorem Rw.cap {w : World} {a : Option Addr} {cap : Nat} {l : List Nat} (h : Rw w a cap l) : l.length ≤ cap := by
  rcases h.cases with ⟨_, rfl, rfl⟩ | ⟨g, cur, _, _, h1, _⟩
  · exact Nat.le_refl _
  · exact h1
theorem Own.bs {w wx : World} {a : Option Addr} {cap : Nat} {l : List Nat} (h : Own w wx a cap l) (h8 : B8 l) : Bs wx a l := h.r.bs h8 h.r.len_le
theorem pl247 : plA 247 1 2 = .agg #[.int .i64 241, .int .i64 2, .int .i64 6] ∧ plE 247 1 2 = 0 := by
  have h1 : mayB 247 1 2 = true := by decide +kernel
  have h2 : pgs 247 = 241 := by decide +kernel
  have h3 : bnk 247 = 2 := by decide +kernel
  have h4 : fsb 247 = 6 := by decide +kernel
  unfold plA plE
  rw [if_pos h1, if_pos h1, h2, h3, h4]
  exact ⟨rfl, rfl⟩
set_option maxRecDepth 8000 in
set_option maxHeartbeats 3200000 in
theorem works_any (w : World) : Calls Try.prog 11 #[] w fun e w' => e = .returned (.bool true) ∧ Below w.heap.size w w' := by
  have PL := hide fun w1 => Plan_any w1 247 1 2
  rw [pl247.1, pl247.2] at PL
  unfold cfv at PL
  have hq := ne_plan 241 2 6 241 2 6
  have hqe : e3 241 2 6 241 2 6 = true := e3_iff.2 ⟨rfl, rfl, rfl⟩
  simp only [hqe] at hq
  clear hqe
  have EN := hide fun (w1 : World) (a : Option Addr) (c : Nat) (h : Js w1 a sSm.rs) => Encode_any w1 sSm a c h (by decide)
  unfold EnQ at EN
  rw [enB_ok sSm_ok, sSm_ok, lay_length (s := sSm) (by decide)] at EN
  have DE := hide fun (w1 : World) (a : Option Addr) (c : Nat) (h : Bs w1 a (lay sSm)) (hc : 512 ≤ c) => Decode_any w1 a 512 c (lay sSm) h (lay_length (s := sSm) (by decide)).symm (by rw [lay_length (s := sSm) (by decide)]; exact hc)
  unfold DeQ at DE
  rw [(de_back sSm_ok).1, (de_back sSm_ok).2] at DE
  have EQ := hide fun (w1 : World) (a b : Option Addr) (c d : Nat) (h1 : Js w1 a sSm.rs) (h2 : Js w1 b sSm.rs) => EqSuper_same w1 sSm a b c d h1 h2 (by decide)
  have HAT := hide sSm_at
  have HLL := hide (lay_length (s := sSm) (by decide))
  go_enter Try.func11, Try.ntmps11
  go_wp2_with fail
  refine (PL.out _).mono ?_
  rintro y w1 ⟨rfl, hb⟩
  have HL := hide (bt hb (al w1 (.cells #[.int .i64 241, .int .i64 2, .int .i64 6] 63)))
  clear hb PL
  go_wp2_with fail
  generalize w1.alloc (.cells #[.int .i64 241, .int .i64 2, .int .i64 6] 63) = W1 at *
  refine (small_any W1).mono ?_
  rintro y w2 ⟨g, c, rfl, hJ, hb⟩
  have HL := hide (bt HL.out hb)
  have J2 := hide hJ
  clear hb hJ hq
  go_wp2_with fail
  refine (EN.out _ _ _ J2.out).mono ?_
  rintro y w3 ⟨a3, c3, rfl, hO⟩
  have HL := hide (bt HL.out hO.b)
  have O3 := hide hO
  have hBs := hO.bs (lay_b8 sSm)
  obtain ⟨b0, o0, e0, k0⟩ := hBs.at (j := 0) (by rw [HLL.out]; decide)
  obtain ⟨b1, o1, e1, k1⟩ := hBs.at (j := 4) (by rw [HLL.out]; decide)
  rw [e0] at e1
  cases e1
  rw [HAT.out.1] at k0
  rw [HAT.out.2] at k1
  rw [Nat.add_zero] at k0
  have HC : Hid (512 ≤ c3) := by show _ ≤ _; have := O3.out.r.cap; rw [HLL.out] at this; exact this
  have HBS := hide hBs
  rw [e0] at HBS ⊢
  clear hO hBs EN J2 HAT e0
  go_wp2_with fail
  refine (DE.out _ _ _ HBS.out HC.out).mono ?_
  rintro y w4 ⟨a4, c4, rfl, hO⟩
  have J4 := hide ((hO.r.qs).keep (al w4 (.cells (suC sSm a4 c4) 28)))
  have HL := hide (bt HL.out (bt hO.b (al w4 (.cells (suC sSm a4 c4) 28))))
  have HB := hide (Bx.new w4 28 (suC sSm a4 c4))
  clear hO DE k0 k1
  unfold suv suC at *
  go_wp2
  generalize w4.alloc (.cells #[.int .i64 sSm.gen, .int .i64 sSm.bl, .int .i64 sSm.cl, .int .i64 sSm.rf, .int .i64 sSm.nx, .slice a4 sSm.rs.length c4] 28) = W4 at *
  have S0 := hide (fun (w' : World) (hb : Below W4.heap.size W4 w') => (show (w'.cell? ⟨w4.heap.size, 0, none⟩ = some (.int .i64 sSm.gen) ∧ w'.cell? ⟨w4.heap.size, 1, none⟩ = some (.int .i64 sSm.bl) ∧ w'.cell? ⟨w4.heap.size, 2, none⟩ = some (.int .i64 sSm.cl) ∧ w'.cell? ⟨w4.heap.size, 3, none⟩ = some (.int .i64 sSm.rf) ∧ w'.cell? ⟨w4.heap.size, 4, none⟩ = some (.int .i64 sSm.nx) ∧ w'.cell? ⟨w4.heap.size, 5, none⟩ = some (.slice a4 sSm.rs.length c4)) ∧ Below W4.heap.size W4 w' from ⟨su_six (HB.out.keep hb), hb⟩))
  have P0 := hide (S0.out _ (dr2 W4))
  go_region_held3 (fun w' => (w'.cell? ⟨w4.heap.size, 0, none⟩ = some (.int .i64 sSm.gen) ∧ w'.cell? ⟨w4.heap.size, 1, none⟩ = some (.int .i64 sSm.bl) ∧ w'.cell? ⟨w4.heap.size, 2, none⟩ = some (.int .i64 sSm.cl) ∧ w'.cell? ⟨w4.heap.size, 3, none⟩ = some (.int .i64 sSm.rf) ∧ w'.cell? ⟨w4.heap.size, 4, none⟩ = some (.int .i64 sSm.nx) ∧ w'.cell? ⟨w4.heap.size, 5, none⟩ = some (.slice a4 sSm.rs.length c4)) ∧ Below W4.heap.size W4 w')
    (first | exact P0.out | exact S0.out _ TB1.out | exact S0.out _ TB2.out)
    (first | (go_at_call 27; refine (small_any _).mono ?_; rintro e9 w5 ⟨g5, c5, rfl, hJ, hb⟩; have TB1 := hide (bt (dr2 W4) hb); have J5 := hide hJ; clear hb hJ) | (go_at_call 8; refine (EQ.out _ a4 _ c4 _ (J4.out.keep TB1.out) J5.out).mono ?_; rintro e9 w6 ⟨rfl, hb⟩; have TB2 := hide (bt TB1.out hb); clear hb))
  all_goals go_wp2
  all_goals go_ret
  all_goals exact ⟨rfl, bt HL.out TB2.out⟩
end Go.Proofs.Ytifhkfghjifecaa
