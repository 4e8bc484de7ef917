import Derived.Test.YtlneomgjjkfnoabGreatPQC
namespace Go.Proofs.YtlneomgjjkfnoabGreat
open Go.RowKit

theorem leaf_enc : encE 5 258 leafP = 0 := encE_zero.2 ⟨by decide, by decide, leaf_sound⟩
theorem leaf_encB : encB 5 258 leafP = blk 5 258 leafP := by unfold encB; rw [if_pos leaf_enc]
/-- a page with two items -/
theorem pi_two {w : World} {g : Nat} {t : TypeId} {kind level next : Int} {x y : Iv} (h : Bx w t g (x.cs ++ y.cs)) (hx : Ii w x) (hy : Ii w y) (nk : N64 kind) (nl : N64 level) (nn : N64 next) : Pi w ⟨kind, level, some ⟨g, 0, none⟩, 2, [x, y], none, 0, [], next⟩ := by
  refine ⟨⟨fun r hr => ?_, by simp, .inr ⟨g, 0, rfl, fun r hr j u hu => ?_⟩⟩, Nat.le_refl _, Bs.nil w, Nat.le_refl _, nk, nl, nn⟩
  · simp only [List.mem_cons, List.not_mem_nil, or_false] at hr
    rcases hr with rfl | rfl
    · exact hx
    · exact hy
  · have hj : j < 4 := (List.getElem?_eq_some_iff.1 hu).1
    rw [cell_of_row _ _ _ _ _ _ h, Nat.zero_add]
    have hr2 : r = 0 ∨ r = 1 := by simp at hr; omega
    rcases hr2 with rfl | rfl
    · rw [Array.getElem?_append_left (by show 0 * 4 + j < 4; omega)]
      simpa using hu
    · rw [Array.getElem?_append_right (by show 4 ≤ 1 * 4 + j; omega)]
      show y.cs[1 * 4 + j - 4]? = some u
      rw [show 1 * 4 + j - 4 = j by omega]
      simpa using hu
theorem lit23 (w : World) : Ir (w.alloc (.cells #[.int .i64 2, .int .i64 3] 3)) (some ⟨w.heap.size, 0, none⟩) [2, 3] := by
  refine .inr ⟨w.heap.size, 0, rfl, fun i hi => ?_⟩
  rw [cell_of_row _ _ _ _ _ _ (heap_alloc_new _ _), Nat.zero_add]
  have : i = 0 ∨ i = 1 := by simp at hi; omega
  rcases this with rfl | rfl <;> rfl
theorem zero_checks (w : World) : Calls Tryz.prog 24 #[.agg #[.int .i64 0, .int .i64 0, .slice none 0 0, .slice none 0 0, .int .i64 0]] w fun e w' => e = .returned (.int .i64 22) ∧ Below w.heap.size w w' := by
  refine (Check_any w Pv.zero (Pi.zero w)).mono ?_
  rintro e w' ⟨rfl, hb⟩
  have : Pv.zero.pg.check = 22 := zero_check
  rw [this]
  exact ⟨rfl, hb⟩
def idxX : Iv := ⟨none, 0, [], none, 0, [], 2, 0⟩
def idxY (g : Nat) : Iv := ⟨some ⟨g, 0, none⟩, 1, [109], none, 0, [], 3, 0⟩
def idxV (g : Nat) : Pv := ⟨2, 1, some ⟨g + 1, 0, none⟩, 2, [idxX, idxY g], none, 0, [], 0⟩
theorem idx_mem (W : World) (g : Nat) (hg : W.heap.size = g) : Pi ((W.alloc (.cells #[.int .u8 109] 5 (1, 2))).alloc (.cells #[.slice none 0 0, .slice none 0 0, .int .i64 2, .int .i64 0, .slice (some ⟨g, 0, none⟩) 1 1, .slice none 0 0, .int .i64 3, .int .i64 0] 55)) (idxV g) := by
  have b1 := lit1 W (1, 2) 109 5 (g := g) hg (by decide)
  have b3 := Bx.new (W.alloc (.cells #[.int .u8 109] 5 (1, 2))) 55 (idxX.cs ++ (idxY g).cs)
  rw [size_alloc, hg] at b3
  exact pi_two b3 ⟨Bs.nil _, Nat.le_refl _, Bs.nil _, Nat.le_refl _, by simp [N64, idxX], by simp [N64, idxX]⟩ ⟨b1.keep (al _ _), Nat.le_refl _, Bs.nil _, Nat.le_refl _, by simp [N64, idxY], by simp [N64, idxY]⟩ (by simp [N64]) (by simp [N64]) (by simp [N64])
theorem idx_pg (g : Nat) : (idxV g).pg = idxP := rfl
set_option maxRecDepth 16000 in
set_option maxHeartbeats 6400000 in
theorem fixed_any (w : World) : Calls Tryz.prog 4 #[] w fun e w' => e = .returned (.bool true) ∧ Below w.heap.size w w' := by
  have hcv : ∀ (W : World) (C : Array Value) (n c g : Nat), W.heap.size = g → (convert 25 25 (.slice (some ⟨g, 0, none⟩) n c)).run Tryz.prog (W.alloc (.cells C 5)) = .ok (.slice (some ⟨g, 0, none⟩) n c) (W.alloc (.cells C 5 (C.size, C.size + 1))) := by
    intro W C n c g hg
    subst hg
    exact Lib.run_convert_bytes_const W 25 5 C n c Tryz.underlying25 Tryz.underlying5
  go_enter Tryz.func4, Tryz.ntmps4
  go_wp2_with fail
  refine (leaf_any w).mono ?_
  rintro y w1 ⟨P, rfl, hP, hPi, hb1⟩
  have T1 := hide hb1
  have E1 := hide (Encode_any w1 5 258 P hPi)
  rw [hP, leaf_enc, leaf_encB] at E1
  clear hb1 hPi hP
  unfold Pv.vl at E1 ⊢
  go_wp2_with fail
  refine E1.out.mono ?_
  rintro y w2 ⟨a, c, rfl, ho⟩
  have hlen := leaf_sound.blk_length 5 258
  have h8 : B8 (blk 5 258 leafP) := summed_b8 (body_b8 leaf_b8 5 258)
  have D1 := hide (Decode_any w2 5 a 512 c (blk 5 258 leafP) (ho.bs h8) hlen.symm ho.r.cap)
  obtain ⟨dE, dP, dG⟩ := dec_blk (no := 5) (gen := 258) leaf_sound leaf_b8 (by decide) (by decide)
  have HDE := hide dE
  have HDP := hide dP
  have HDG := hide dG
  obtain ⟨l0, l2, l6, l7, l14, l19, l508, l511⟩ := leaf_at
  have HR := hide ho.r
  rcases ho.r.cases with ⟨_, _, h0⟩ | ⟨g, cur, rfl, hg, hl1, _, _, _⟩
  · rw [h0] at hlen; simp at hlen
  have k0 : w2.cell? ⟨g, 0, none⟩ = some (.int .u8 1) := by have h := HR.out.cell (i := 0) (by omega); rw [l0] at h; exact h
  have k2 : w2.cell? ⟨g, 2, none⟩ = some (.int .u8 5) := by have h := HR.out.cell (i := 2) (by omega); rw [l2] at h; exact h
  have k6 : w2.cell? ⟨g, 6, none⟩ = some (.int .u8 2) := by have h := HR.out.cell (i := 6) (by omega); rw [l6] at h; exact h
  have k7 : w2.cell? ⟨g, 7, none⟩ = some (.int .u8 1) := by have h := HR.out.cell (i := 7) (by omega); rw [l7] at h; exact h
  have k14 : w2.cell? ⟨g, 14, none⟩ = some (.int .u8 1) := by have h := HR.out.cell (i := 14) (by omega); rw [l14] at h; exact h
  have k19 : w2.cell? ⟨g, 19, none⟩ = some (.int .u8 120) := by have h := HR.out.cell (i := 19) (by omega); rw [l19] at h; exact h
  have k508 : w2.cell? ⟨g, 508, none⟩ = some (.int .u8 170) := by have h := HR.out.cell (i := 508) (by omega); rw [l508] at h; exact h
  have k511 : w2.cell? ⟨g, 511, none⟩ = some (.int .u8 161) := by have h := HR.out.cell (i := 511) (by omega); rw [l511] at h; exact h
  rw [hlen]
  have T2 := hide (bt T1.out ho.b)
  clear ho hg hl1 E1 dE dP dG h8 hlen l0 l2 l6 l7 l14 l19 l508 l511 HR T1
  go_wp2_with fail
  refine D1.out.mono ?_
  rintro y w3 ⟨Q, rfl, hQ, hpn, hql, hb3⟩
  rw [HDP.out] at hQ
  rw [HDE.out]
  have hdg : ((decG 5 (blk 5 258 leafP) : Nat) : Int) = 258 := HDG.out
  rw [hdg]
  have T3 := hide (bt T2.out hb3)
  have IQ := hide (hpn.pi (by omega))
  have EQ := hide hQ
  clear hb3 hQ hpn hql HDP HDE HDG hdg D1 k0 k2 k6 k7 k14 k19 k508 k511 T2
  have QC := hide (Bx.new w3 27 Q.cs)
  have EQP := hide fun (w4 : World) (hb : Below (w3.alloc (.cells Q.cs 27)).heap.size (w3.alloc (.cells Q.cs 27)) w4) (L : Pv) (hL : Pi w4 L) (eL : L.pg = leafP) => EqPage_same w4 Q L (IQ.out.keep (bt (al _ _) hb)) hL (by rw [EQ.out, eL])
  have CP := hide fun (w4 : World) (hb : Below (w3.alloc (.cells Q.cs 27)).heap.size (w3.alloc (.cells Q.cs 27)) w4) => Bx.page (QC.out.keep hb)
  obtain ⟨kind, level, aI, cI, items, aD, cD, data, next⟩ := Q
  unfold Pv.vl at EQP
  simp only [Pv.cs, Pv.vl] at *
  have HA3 := hide (al w3 (.cells #[.int .i64 kind, .int .i64 level, .slice aI items.length cI, .slice aD data.length cD, .int .i64 next] 27))
  have hsz3 := size_alloc w3 (.cells #[.int .i64 kind, .int .i64 level, .slice aI items.length cI, .slice aD data.length cD, .int .i64 next] 27)
  go_wp2_with fail
  have KD := hide (Kids_any _ (idxV (w3.heap.size + 1)) (idx_mem (w3.alloc (.cells #[.int .i64 kind, .int .i64 level, .slice aI items.length cI, .slice aD data.length cD, .int .i64 next] 27)) (w3.heap.size + 1) (size_alloc _ _)))
  rw [idx_pg, idx_kids] at KD
  refine KD.out.mono ?_
  rintro y w5 ⟨a5, c5, rfl, ho5⟩
  have T5 := hide (bt (bt (al _ _) (al _ _)) ho5.b)
  have HT5 := hide (bt T3.out (bt HA3.out T5.out))
  have I5 := hide ho5.r.ir
  clear ho5 KD hcv T3
  have CZ := hide zero_checks
  obtain ⟨v3, hv3⟩ : ∃ v3, w3.alloc (.cells #[.int .i64 kind, .int .i64 level, .slice aI items.length cI, .slice aD data.length cD, .int .i64 next] 27) = v3 := ⟨_, rfl⟩
  rw [hv3] at T5 CP EQP HA3 hsz3
  clear hv3 QC
  have HW5 := hide (show ∀ w6, Below w5.heap.size w5 w6 → Below w.heap.size w w6 from fun w6 h => bt HT5.out h)
  have EIN := hide fun (w6 : World) (b6 : Option Addr) (hb : Below v3.heap.size v3 w6) (h6 : Ir w6 b6 [2, 3]) (h5 : Ir w6 a5 [2, 3]) => EqInts_same w6 a5 b6 2 2 c5 2 [2, 3] h5 h6 rfl rfl (by decide)
  simp only [List.length_cons, List.length_nil] at *
  generalize w3.heap.size = pg at *
  go_wp2
  have U6 := hide (dr2 w5)
  have T6 := hide (bt T5.out U6.out)
  have S1 := CP.out _ T6.out
  refine wp_region_held_drew (S := fun w' => (w'.cell? ⟨pg, 0, none⟩ = some (.int .i64 kind) ∧ w'.cell? ⟨pg, 1, none⟩ = some (.int .i64 level) ∧ w'.cell? ⟨pg, 2, none⟩ = some (.slice aI items.length cI) ∧ w'.cell? ⟨pg, 3, none⟩ = some (.slice aD data.length cD) ∧ w'.cell? ⟨pg, 4, none⟩ = some (.int .i64 next))) (by kernel_rfl) (by exact S1) (fun hHeld => ?_)
  refine wpAnyH_take (i := 0) (v := ?v1) rfl (by kernel_rfl) (by kernel_rfl) (by kernel_rfl) (fun _ _ _ h => h) (Or.inl ⟨by rfl, ?hy1⟩) (by assumption) ?rest1
  case hy1 => (intro w hSw; (try dsimp only at hSw); go_simp <;> with_reducible rfl)
  try simp only [Act.put, List.getElem_toArray, List.getElem_cons_zero, List.setIfInBounds_toArray, List.set_cons_zero, List.set_cons_succ]
  refine wpAnyH_take (i := 1) (v := ?v2) rfl (by kernel_rfl) (by kernel_rfl) (by kernel_rfl) (fun _ _ _ h => h) (Or.inl ⟨by rfl, ?hy2⟩) (by assumption) ?rest2
  case hy2 => (intro w hSw; (try dsimp only at hSw); go_simp <;> with_reducible rfl)
  try simp only [Act.put, List.getElem_toArray, List.getElem_cons_zero, List.getElem_cons_succ, List.setIfInBounds_toArray, List.set_cons_zero, List.set_cons_succ]
  refine wpAnyH_take (i := 2) (v := ?v3) rfl (by kernel_rfl) (by kernel_rfl) (by kernel_rfl) (fun _ _ _ h => h) (Or.inl ⟨by rfl, ?hy3⟩) (by assumption) ?rest3
  case hy3 => (intro w hSw; (try dsimp only at hSw); go_simp <;> with_reducible rfl)
  try simp only [Act.put, List.getElem_toArray, List.getElem_cons_zero, List.getElem_cons_succ, List.setIfInBounds_toArray, List.set_cons_zero, List.set_cons_succ]
  refine wpAnyH_take (i := 3) (v := ?v4) rfl (by kernel_rfl) (by kernel_rfl) (by kernel_rfl) (fun _ _ _ h => h) (Or.inl ⟨by rfl, ?hy4⟩) (by assumption) ?rest4
  case hy4 => (intro w hSw; (try dsimp only at hSw); go_simp <;> with_reducible rfl)
  try simp only [Act.put, List.getElem_toArray, List.getElem_cons_zero, List.getElem_cons_succ, List.setIfInBounds_toArray, List.set_cons_zero, List.set_cons_succ]
  refine wpAnyH_take (i := 4) (v := ?v5) rfl (by kernel_rfl) (by kernel_rfl) (by kernel_rfl) (fun _ _ _ h => h) (Or.inl ⟨by rfl, ?hy5⟩) (by assumption) ?rest5
  case hy5 => (intro w hSw; (try dsimp only at hSw); go_simp <;> with_reducible rfl)
  try simp only [Act.put, List.getElem_toArray, List.getElem_cons_zero, List.getElem_cons_succ, List.setIfInBounds_toArray, List.set_cons_zero, List.set_cons_succ]
  refine wpAnyH_take (i := 5) (v := ?v6) rfl (by kernel_rfl) (by kernel_rfl) (by kernel_rfl) (fun _ _ _ h => h) (Or.inl ⟨by rfl, ?hy6⟩) (by assumption) ?rest6
  case hy6 => (intro w hSw; (try dsimp only at hSw); go_simp <;> with_reducible rfl)
  try simp only [Act.put, List.getElem_toArray, List.getElem_cons_zero, List.getElem_cons_succ, List.setIfInBounds_toArray, List.set_cons_zero, List.set_cons_succ]
  refine wpAnyH_take (i := 6) (v := ?v7) rfl (by kernel_rfl) (by kernel_rfl) (by kernel_rfl) (fun _ _ _ h => h) (Or.inl ⟨by rfl, ?hy7⟩) (by assumption) ?rest7
  case hy7 => (intro w hSw; (try dsimp only at hSw); go_simp <;> with_reducible rfl)
  try simp only [Act.put, List.getElem_toArray, List.getElem_cons_zero, List.getElem_cons_succ, List.setIfInBounds_toArray, List.set_cons_zero, List.set_cons_succ]
  refine wpAnyH_take (i := 7) (v := ?v8) rfl (by kernel_rfl) (by kernel_rfl) (by kernel_rfl) (fun _ _ _ h => h) (Or.inl ⟨by rfl, ?hy8⟩) (by assumption) ?rest8
  case hy8 => (intro w hSw; (try dsimp only at hSw); go_simp <;> with_reducible rfl)
  try simp only [Act.put, List.getElem_toArray, List.getElem_cons_zero, List.getElem_cons_succ, List.setIfInBounds_toArray, List.set_cons_zero, List.set_cons_succ]
  refine wpAnyH_ready (rs := [8]) (by kernel_rfl) (by simp) ?_
  refine AllReadyH.cons rfl (fun K hK => ?_) AllReadyH.nil
  go_simp
  refine (leaf_any _).mono ?_
  rintro e w9 ⟨L1, rfl, hL1, hiL1, hb⟩
  have T6 := hide (bt T6.out hb)
  have U6 := hide (bt U6.out hb)
  have S1 := CP.out _ T6.out
  have IL1 := hide hiL1
  have EL1 := hide hL1
  clear hb hiL1 hL1
  go_wp2_with fail
  refine hK.out _ _ (by exact S1) (fun hHeld => ?_)
  clear hK K
  try simp only [Act.put, List.getElem_toArray, List.getElem_cons_zero, List.getElem_cons_succ, List.setIfInBounds_toArray, List.set_cons_zero, List.set_cons_succ]
  refine wpAnyH_ready (rs := [9]) (by kernel_rfl) (by simp) ?_
  refine AllReadyH.cons rfl (fun K hK => ?_) AllReadyH.nil
  go_simp
  refine (EQP.out _ T6.out L1 IL1.out EL1.out).mono ?_
  rintro e w9 ⟨rfl, hb⟩
  have T6 := hide (bt T6.out hb)
  have U6 := hide (bt U6.out hb)
  have S1 := CP.out _ T6.out
  clear hb
  go_wp2_with fail
  refine hK.out _ _ (by exact S1) (fun hHeld => ?_)
  clear hK K
  try simp only [Act.put, List.getElem_toArray, List.getElem_cons_zero, List.getElem_cons_succ, List.setIfInBounds_toArray, List.set_cons_zero, List.set_cons_succ]
  refine wpAnyH_take (i := 10) (v := ?v9) rfl (by kernel_rfl) (by kernel_rfl) (by kernel_rfl) (fun _ _ _ h => h) (Or.inl ⟨by rfl, ?hy9⟩) (by assumption) ?rest9
  case hy9 => (intro w hSw; (try dsimp only at hSw); go_simp <;> with_reducible rfl)
  try simp only [Act.put, List.getElem_toArray, List.getElem_cons_zero, List.getElem_cons_succ, List.setIfInBounds_toArray, List.set_cons_zero, List.set_cons_succ]
  refine wpAnyH_take (i := 11) (v := ?v10) rfl (by kernel_rfl) (by kernel_rfl) (by kernel_rfl) (fun _ _ _ h => h) (Or.inl ⟨by rfl, ?hy10⟩) (by assumption) ?rest10
  case hy10 => (intro w hSw; (try dsimp only at hSw); go_simp <;> with_reducible rfl)
  try simp only [Act.put, List.getElem_toArray, List.getElem_cons_zero, List.getElem_cons_succ, List.setIfInBounds_toArray, List.set_cons_zero, List.set_cons_succ]
  refine wpAnyH_ready (rs := [12]) (by kernel_rfl) (by simp) ?_
  refine AllReadyH.cons rfl (fun K hK => ?_) AllReadyH.nil
  go_simp
  refine (leaf_any _).mono ?_
  rintro e w9 ⟨L2, rfl, hL2, hiL2, hb⟩
  have T6 := hide (bt T6.out hb)
  have U6 := hide (bt U6.out hb)
  have S1 := CP.out _ T6.out
  have IL2 := hide hiL2
  have EL2 := hide hL2
  clear hb hiL2 hL2
  go_wp2_with fail
  refine hK.out _ _ (by exact S1) (fun hHeld => ?_)
  clear hK K
  try simp only [Act.put, List.getElem_toArray, List.getElem_cons_zero, List.getElem_cons_succ, List.setIfInBounds_toArray, List.set_cons_zero, List.set_cons_succ]
  refine wpAnyH_ready (rs := [13]) (by kernel_rfl) (by simp) ?_
  refine AllReadyH.cons rfl (fun K hK => ?_) AllReadyH.nil
  go_simp
  refine (Check_any _ L2 IL2.out).mono ?_
  rintro e w9 ⟨rfl, hb⟩
  rw [EL2.out, Pg.check_zero.2 leaf_sound]
  have T6 := hide (bt T6.out hb)
  have U6 := hide (bt U6.out hb)
  have S1 := CP.out _ T6.out
  clear hb
  go_wp2_with fail
  refine hK.out _ _ (by exact S1) (fun hHeld => ?_)
  clear hK K
  try simp only [Act.put, List.getElem_toArray, List.getElem_cons_zero, List.getElem_cons_succ, List.setIfInBounds_toArray, List.set_cons_zero, List.set_cons_succ]
  refine wpAnyH_take (i := 14) (v := ?v11) rfl (by kernel_rfl) (by kernel_rfl) (by kernel_rfl) (fun _ _ _ h => h) (Or.inl ⟨by rfl, ?hy11⟩) (by assumption) ?rest11
  case hy11 => (intro w hSw; (try dsimp only at hSw); go_simp <;> with_reducible rfl)
  try simp only [Act.put, List.getElem_toArray, List.getElem_cons_zero, List.getElem_cons_succ, List.setIfInBounds_toArray, List.set_cons_zero, List.set_cons_succ]
  refine wpAnyH_take (i := 15) (v := ?v12) rfl (by kernel_rfl) (by kernel_rfl) (by kernel_rfl) (fun _ _ _ h => h) (Or.inl ⟨by rfl, ?hy12⟩) (by assumption) ?rest12
  case hy12 => (intro w hSw; (try dsimp only at hSw); go_simp <;> with_reducible rfl)
  try simp only [Act.put, List.getElem_toArray, List.getElem_cons_zero, List.getElem_cons_succ, List.setIfInBounds_toArray, List.set_cons_zero, List.set_cons_succ]
  refine wpAnyH_take (i := 16) (v := ?v13) rfl (by kernel_rfl) (by kernel_rfl) (by kernel_rfl) (fun _ _ _ h => h) (Or.inl ⟨by rfl, ?hy13⟩) (by assumption) ?rest13
  case hy13 => (intro w hSw; (try dsimp only at hSw); go_simp <;> with_reducible rfl)
  try simp only [Act.put, List.getElem_toArray, List.getElem_cons_zero, List.getElem_cons_succ, List.setIfInBounds_toArray, List.set_cons_zero, List.set_cons_succ]
  refine wpAnyH_take (i := 17) (v := ?v14) rfl (by kernel_rfl) (by kernel_rfl) (by kernel_rfl) (fun _ _ _ h => h) (Or.inl ⟨by rfl, ?hy14⟩) (by assumption) ?rest14
  case hy14 => (intro w hSw; (try dsimp only at hSw); go_simp <;> with_reducible rfl)
  try simp only [Act.put, List.getElem_toArray, List.getElem_cons_zero, List.getElem_cons_succ, List.setIfInBounds_toArray, List.set_cons_zero, List.set_cons_succ]
  refine wpAnyH_ready (rs := [18]) (by kernel_rfl) (by simp) ?_
  refine AllReadyH.cons rfl (fun K hK => ?_) AllReadyH.nil
  go_simp
  refine (CZ.out _).mono ?_
  rintro e w9 ⟨rfl, hb⟩
  have T6 := hide (bt T6.out hb)
  have U6 := hide (bt U6.out hb)
  have S1 := CP.out _ T6.out
  clear hb
  go_wp2_with fail
  refine hK.out _ _ (by exact S1) (fun hHeld => ?_)
  clear hK K
  try simp only [Act.put, List.getElem_toArray, List.getElem_cons_zero, List.getElem_cons_succ, List.setIfInBounds_toArray, List.set_cons_zero, List.set_cons_succ]
  refine wpAnyH_take (i := 19) (v := ?v15) rfl (by kernel_rfl) (by kernel_rfl) (by kernel_rfl) (fun _ _ _ h => h) (Or.inl ⟨by rfl, ?hy15⟩) (by assumption) ?rest15
  case hy15 => (intro w hSw; (try dsimp only at hSw); go_simp <;> with_reducible rfl)
  try simp only [Act.put, List.getElem_toArray, List.getElem_cons_zero, List.getElem_cons_succ, List.setIfInBounds_toArray, List.set_cons_zero, List.set_cons_succ]
  refine wpAnyH_take (i := 20) (v := ?v16) rfl (by kernel_rfl) (by kernel_rfl) (by kernel_rfl) (fun _ _ _ h => h) (Or.inl ⟨by rfl, ?hy16⟩) (by assumption) ?rest16
  case hy16 => (intro w hSw; (try dsimp only at hSw); go_simp <;> with_reducible rfl)
  try simp only [Act.put, List.getElem_toArray, List.getElem_cons_zero, List.getElem_cons_succ, List.setIfInBounds_toArray, List.set_cons_zero, List.set_cons_succ]
  refine wpAnyH_take (i := 21) (v := ?v17) rfl (by kernel_rfl) (by kernel_rfl) (by kernel_rfl) (fun _ _ _ h => h) (Or.inl ⟨by rfl, ?hy17⟩) (by assumption) ?rest17
  case hy17 => (intro w hSw; (try dsimp only at hSw); go_simp <;> with_reducible rfl)
  try simp only [Act.put, List.getElem_toArray, List.getElem_cons_zero, List.getElem_cons_succ, List.setIfInBounds_toArray, List.set_cons_zero, List.set_cons_succ]
  refine wpAnyH_take (i := 22) (v := ?v18) rfl (by kernel_rfl) (by kernel_rfl) (by kernel_rfl) (fun _ _ _ h => h) (Or.inl ⟨by rfl, ?hy18⟩) (by assumption) ?rest18
  case hy18 => (intro w hSw; (try dsimp only at hSw); go_simp <;> with_reducible rfl)
  try simp only [Act.put, List.getElem_toArray, List.getElem_cons_zero, List.getElem_cons_succ, List.setIfInBounds_toArray, List.set_cons_zero, List.set_cons_succ]
  refine wpAnyH_ready (rs := [23]) (by kernel_rfl) (by simp) ?_
  refine AllReadyH.cons rfl (fun K hK => ?_) AllReadyH.nil
  go_simp
  have T6 := hide (bt T6.out (al _ (.cells #[.int .i64 2, .int .i64 3] 3)))
  have U7 := U6
  have U6 := hide (bt U6.out (al _ (.cells #[.int .i64 2, .int .i64 3] 3)))
  have S1 := CP.out _ T6.out
  go_wp2_with fail
  refine hK.out _ _ (by exact S1) (fun hHeld => ?_)
  clear hK K
  try simp only [Act.put, List.getElem_toArray, List.getElem_cons_zero, List.getElem_cons_succ, List.setIfInBounds_toArray, List.set_cons_zero, List.set_cons_succ]
  refine wpAnyH_ready (rs := [24]) (by kernel_rfl) (by simp) ?_
  refine AllReadyH.cons rfl (fun K hK => ?_) AllReadyH.nil
  go_simp
  refine (EIN.out _ _ T6.out (lit23 _) (I5.out.keep U6.out)).mono ?_
  rintro e w9 ⟨rfl, hb⟩
  have T6 := hide (bt T6.out hb)
  have U6 := hide (bt U6.out hb)
  have S1 := CP.out _ T6.out
  clear hb
  go_wp2_with fail
  refine hK.out _ _ (by exact S1) (fun hHeld => ?_)
  clear hK K
  try simp only [Act.put, List.getElem_toArray, List.getElem_cons_zero, List.getElem_cons_succ, List.setIfInBounds_toArray, List.set_cons_zero, List.set_cons_succ]
  refine wpAnyH_take (i := 25) (v := ?v19) rfl (by kernel_rfl) (by kernel_rfl) (by kernel_rfl) (fun _ _ _ h => h) (Or.inl ⟨by rfl, ?hy19⟩) (by assumption) ?rest19
  case hy19 => (intro w hSw; (try dsimp only at hSw); go_simp <;> with_reducible rfl)
  try simp only [Act.put, List.getElem_toArray, List.getElem_cons_zero, List.getElem_cons_succ, List.setIfInBounds_toArray, List.set_cons_zero, List.set_cons_succ]
  refine wpAnyH_take (i := 26) (v := ?v20) rfl (by kernel_rfl) (by kernel_rfl) (by kernel_rfl) (fun _ _ _ h => h) (Or.inl ⟨by rfl, ?hy20⟩) (by assumption) ?rest20
  case hy20 => (intro w hSw; (try dsimp only at hSw); go_simp <;> with_reducible rfl)
  try simp only [Act.put, List.getElem_toArray, List.getElem_cons_zero, List.getElem_cons_succ, List.setIfInBounds_toArray, List.set_cons_zero]
  refine wpAnyH_done (by kernel_rfl) ?_ _
  clear S1
  go_wp2
  go_ret
  exact ⟨by simp, HW5.out _ U6.out⟩
end Go.Proofs.YtlneomgjjkfnoabGreat
