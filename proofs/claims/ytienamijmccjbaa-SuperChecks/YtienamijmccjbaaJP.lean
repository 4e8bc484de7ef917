import Derived.Test.YtienamijmccjbaaJO
namespace Go.Proofs.Ytienamijmccjbaa
open Go.RowKit

set_option maxRecDepth 8000 in
set_option maxHeartbeats 6400000 in
theorem superChecks_any (w : World) (s : Su) (a : Option Addr) (c : Nat) (hJ : Js w a s.rs) (hN : s.rs.length ≤ 4398046510976) (_ : s.rs.length ≤ c) (x : Int) (_ : N64 x) :
    Calls Try.prog 5 #[.agg (suC s a c), .int .i64 x] w fun e w' => e = .returned (.bool true) ∧ Below w.heap.size w w' := by
  have HA := hide (al w (.cells (suC s a c) 39))
  have HB := hide (Bx.new w 39 (suC s a c))
  have SP := hide fun (w1 : World) (hb : Below w.heap.size w w1) => spare_any w1 s a c (hJ.keep hb) hN
  have FI := hide fun (w1 : World) (a1 : Option Addr) (c1 : Nat) (h : Js w1 a1 s.rs) => Find_any w1 s a1 c1 x h (by omega)
  have RF := hide fun (w1 : World) (hb : Below w.heap.size w w1) => rFind_any w1 s a c x (hJ.keep hb) (by omega)
  have CH := hide fun (w1 : World) (a1 : Option Addr) (c1 : Nat) (h : Js w1 a1 s.rs) => Check_any w1 s a1 c1 h (by omega)
  have RC := hide fun (w1 : World) (hb : Below w.heap.size w w1) => rCheck_any w1 s a c (hJ.keep hb)
  have KE := hide fun (w1 : World) (hb : Below w.heap.size w w1) (g : Nat) (h : Jw w1 (some ⟨g, 0, none⟩) (s.rs.length + 2) (spW s.rs)) => kept_any w1 s g a c h (hJ.keep hb) hN
  unfold fiA at FI RF
  have hee : ((chE s : Int) == (chE s : Int)) = true := by simp
  have hbb : (fdB s.rs x == fdB s.rs x) = true := by simp
  clear hJ hN
  generalize chE s = e at *
  generalize fdB s.rs x = fb at *
  generalize fdR s.rs x = t at *
  have hq := eq_tree t.r t.h t.n t.r t.h t.n
  have hqe : e3 t.r t.h t.n t.r t.h t.n = true := e3_iff.2 ⟨rfl, rfl, rfl⟩
  simp only [hqe] at hq
  clear hqe
  unfold suv suC trv at *
  go_enter Try.func5, Try.ntmps5
  go_wp2_with fail
  refine (SP.out _ HA.out).mono ?_
  rintro y w1 ⟨g1, rfl, hS⟩
  have HL := hide (bt HA.out (bt hS.b (al w1 (.cells #[.int .i64 s.gen, .int .i64 s.bl, .int .i64 s.cl, .int .i64 s.rf, .int .i64 s.nx, .slice (some ⟨g1, 0, none⟩) s.rs.length (s.rs.length + 2)] 39))))
  have HB := hide ((HB.out.keep hS.b).keep (al w1 (.cells #[.int .i64 s.gen, .int .i64 s.bl, .int .i64 s.cl, .int .i64 s.rf, .int .i64 s.nx, .slice (some ⟨g1, 0, none⟩) s.rs.length (s.rs.length + 2)] 39)))
  have HX := hide (hS.keep (al w1 (.cells #[.int .i64 s.gen, .int .i64 s.bl, .int .i64 s.cl, .int .i64 s.rf, .int .i64 s.nx, .slice (some ⟨g1, 0, none⟩) s.rs.length (s.rs.length + 2)] 39)))
  have HBX := hide (Bx.new w1 39 #[.int .i64 s.gen, .int .i64 s.bl, .int .i64 s.cl, .int .i64 s.rf, .int .i64 s.nx, .slice (some ⟨g1, 0, none⟩) s.rs.length (s.rs.length + 2)])
  clear hS SP
  go_wp2_with fail
  generalize w1.alloc (.cells #[.int .i64 s.gen, .int .i64 s.bl, .int .i64 s.cl, .int .i64 s.rf, .int .i64 s.nx, .slice (some ⟨g1, 0, none⟩) s.rs.length (s.rs.length + 2)] 39) = W1 at *
  refine (FI.out _ _ _ HX.out.js).mono ?_
  rintro y w2 ⟨rfl, hb⟩
  have hb2 := bt hb (al w2 (.cells #[.int .i64 t.r, .int .i64 t.h, .int .i64 t.n] 42))
  have HL := hide (bt HL.out hb2)
  have HB := hide (HB.out.keep hb2)
  have HBX := hide (HBX.out.keep hb2)
  have HX := hide (HX.out.keep hb2)
  have HT2 := hide (Bx.new w2 42 #[.int .i64 t.r, .int .i64 t.h, .int .i64 t.n])
  clear hb hb2 FI
  go_wp2_with (refine wpList_load_row rfl 39 _ rfl w.heap.size rfl 39 _ (0, 0) _ HB.out Try.underlying39 rfl sizeSuper ?_)
  generalize w2.alloc (.cells #[.int .i64 t.r, .int .i64 t.h, .int .i64 t.n] 42) = W2 at *
  refine (RF.out _ HL.out).mono ?_
  rintro y w3 ⟨rfl, hb⟩
  have hb2 := bt hb (al w3 (.cells #[.int .i64 t.r, .int .i64 t.h, .int .i64 t.n] 42))
  have HL := hide (bt HL.out hb2)
  have HB := hide (HB.out.keep hb2)
  have HBX := hide (HBX.out.keep hb2)
  have HX := hide (HX.out.keep hb2)
  have HT2 := hide (HT2.out.keep hb2)
  have HT3 := hide (Bx.new w3 42 #[.int .i64 t.r, .int .i64 t.h, .int .i64 t.n])
  clear hb hb2 RF
  go_wp2
  generalize w3.alloc (.cells #[.int .i64 t.r, .int .i64 t.h, .int .i64 t.n] 42) = W3 at *
  have S0 := hide (fun (w' : World) (hb : Below W3.heap.size W3 w') => (show (w'.cell? ⟨w1.heap.size, 0, none⟩ = some (.int .i64 s.gen) ∧ w'.cell? ⟨w1.heap.size, 1, none⟩ = some (.int .i64 s.bl) ∧ w'.cell? ⟨w1.heap.size, 2, none⟩ = some (.int .i64 s.cl) ∧ w'.cell? ⟨w1.heap.size, 3, none⟩ = some (.int .i64 s.rf) ∧ w'.cell? ⟨w1.heap.size, 4, none⟩ = some (.int .i64 s.nx) ∧ w'.cell? ⟨w1.heap.size, 5, none⟩ = some (.slice (some ⟨g1, 0, none⟩) s.rs.length (s.rs.length + 2))) ∧ (w'.cell? ⟨w.heap.size, 0, none⟩ = some (.int .i64 s.gen) ∧ w'.cell? ⟨w.heap.size, 1, none⟩ = some (.int .i64 s.bl) ∧ w'.cell? ⟨w.heap.size, 2, none⟩ = some (.int .i64 s.cl) ∧ w'.cell? ⟨w.heap.size, 3, none⟩ = some (.int .i64 s.rf) ∧ w'.cell? ⟨w.heap.size, 4, none⟩ = some (.int .i64 s.nx) ∧ w'.cell? ⟨w.heap.size, 5, none⟩ = some (.slice a s.rs.length c)) ∧ (w'.cell? ⟨w2.heap.size, 0, none⟩ = some (.int .i64 t.r) ∧ w'.cell? ⟨w2.heap.size, 1, none⟩ = some (.int .i64 t.h) ∧ w'.cell? ⟨w2.heap.size, 2, none⟩ = some (.int .i64 t.n)) ∧ (w'.cell? ⟨w3.heap.size, 0, none⟩ = some (.int .i64 t.r) ∧ w'.cell? ⟨w3.heap.size, 1, none⟩ = some (.int .i64 t.h) ∧ w'.cell? ⟨w3.heap.size, 2, none⟩ = some (.int .i64 t.n)) ∧ Below W3.heap.size W3 w' from ⟨su_six (u := s) (a := some ⟨g1, 0, none⟩) (c := s.rs.length + 2) (HBX.out.keep hb), su_six (u := s) (a := a) (c := c) (HB.out.keep hb), ⟨(HT2.out.keep hb).cell 0 rfl, (HT2.out.keep hb).cell 1 rfl, (HT2.out.keep hb).cell 2 rfl⟩, ⟨(HT3.out.keep hb).cell 0 rfl, (HT3.out.keep hb).cell 1 rfl, (HT3.out.keep hb).cell 2 rfl⟩, hb⟩))
  refine wp_region_held_drew (S := fun w' => (w'.cell? ⟨w1.heap.size, 0, none⟩ = some (.int .i64 s.gen) ∧ w'.cell? ⟨w1.heap.size, 1, none⟩ = some (.int .i64 s.bl) ∧ w'.cell? ⟨w1.heap.size, 2, none⟩ = some (.int .i64 s.cl) ∧ w'.cell? ⟨w1.heap.size, 3, none⟩ = some (.int .i64 s.rf) ∧ w'.cell? ⟨w1.heap.size, 4, none⟩ = some (.int .i64 s.nx) ∧ w'.cell? ⟨w1.heap.size, 5, none⟩ = some (.slice (some ⟨g1, 0, none⟩) s.rs.length (s.rs.length + 2))) ∧ (w'.cell? ⟨w.heap.size, 0, none⟩ = some (.int .i64 s.gen) ∧ w'.cell? ⟨w.heap.size, 1, none⟩ = some (.int .i64 s.bl) ∧ w'.cell? ⟨w.heap.size, 2, none⟩ = some (.int .i64 s.cl) ∧ w'.cell? ⟨w.heap.size, 3, none⟩ = some (.int .i64 s.rf) ∧ w'.cell? ⟨w.heap.size, 4, none⟩ = some (.int .i64 s.nx) ∧ w'.cell? ⟨w.heap.size, 5, none⟩ = some (.slice a s.rs.length c)) ∧ (w'.cell? ⟨w2.heap.size, 0, none⟩ = some (.int .i64 t.r) ∧ w'.cell? ⟨w2.heap.size, 1, none⟩ = some (.int .i64 t.h) ∧ w'.cell? ⟨w2.heap.size, 2, none⟩ = some (.int .i64 t.n)) ∧ (w'.cell? ⟨w3.heap.size, 0, none⟩ = some (.int .i64 t.r) ∧ w'.cell? ⟨w3.heap.size, 1, none⟩ = some (.int .i64 t.h) ∧ w'.cell? ⟨w3.heap.size, 2, none⟩ = some (.int .i64 t.n)) ∧ Below W3.heap.size W3 w') (by kernel_rfl) (S0.out _ (dr2 W3)) (fun hHeld => ?_)
  refine wpAnyH_take (i := 0) (v := ?va0) rfl (by kernel_rfl) (by kernel_rfl) (by kernel_rfl) (fun _ _ _ h => h) (Or.inl ⟨by rfl, ?hy0⟩) (by assumption) ?ra0
  case hy0 => (intro w hSw; (try dsimp only at hSw); go_simp <;> with_reducible rfl)
  try simp only [Act.put, List.getElem_toArray, List.getElem_cons_zero, List.setIfInBounds_toArray, List.set_cons_zero, List.set_cons_succ]
  refine wpAnyH_take (i := 2) (v := ?va2) rfl (by kernel_rfl) (by kernel_rfl) (by kernel_rfl) (fun _ _ _ h => h) (Or.inl ⟨by rfl, ?hy2⟩) (by assumption) ?ra2
  case hy2 => (intro w hSw; (try dsimp only at hSw); go_simp <;> with_reducible rfl)
  try simp only [Act.put, List.getElem_toArray, List.getElem_cons_zero, List.getElem_cons_succ, List.setIfInBounds_toArray, List.set_cons_zero, List.set_cons_succ]
  refine wpAnyH_ready (rs := [1]) (by kernel_rfl) (by simp) ?_
  refine AllReadyH.cons rfl (fun K hK => ?_) AllReadyH.nil
  go_simp
  refine (CH.out _ _ _ (HX.out.keep (dr2 W3)).js).mono ?_
  rintro e9 w4 ⟨rfl, hb⟩
  have TB1 := hide (bt (dr2 W3) hb)
  clear hb
  go_wp2_with fail
  refine hK.out _ _ (S0.out _ TB1.out) (fun hHeld => ?_)
  clear hK K
  try simp only [Act.put, List.getElem_toArray, List.getElem_cons_zero, List.getElem_cons_succ, List.setIfInBounds_toArray, List.set_cons_zero, List.set_cons_succ]
  refine wpAnyH_ready (rs := [3]) (by kernel_rfl) (by simp) ?_
  refine AllReadyH.cons rfl (fun K hK => ?_) AllReadyH.nil
  go_simp
  refine (RC.out _ (bt HL.out TB1.out)).mono ?_
  rintro e9 w5 ⟨rfl, hb⟩
  have TB2 := hide (bt TB1.out hb)
  clear hb
  go_wp2_with fail
  refine hK.out _ _ (S0.out _ TB2.out) (fun hHeld => ?_)
  clear hK K
  try simp only [Act.put, List.getElem_toArray, List.getElem_cons_zero, List.getElem_cons_succ, List.setIfInBounds_toArray, List.set_cons_zero, List.set_cons_succ]
  refine wpAnyH_take (i := 4) (v := ?va4) rfl (by kernel_rfl) (by kernel_rfl) (by kernel_rfl) (fun _ _ _ h => h) (Or.inl ⟨by rfl, ?hy4⟩) (by assumption) ?ra4
  case hy4 => (intro w hSw; (try dsimp only at hSw); go_simp <;> with_reducible rfl)
  try simp only [Act.put, List.getElem_toArray, List.getElem_cons_zero, List.getElem_cons_succ, List.setIfInBounds_toArray, List.set_cons_zero, List.set_cons_succ]
  refine wpAnyH_take (i := 5) (v := ?va5) rfl (by kernel_rfl) (by kernel_rfl) (by kernel_rfl) (fun _ _ _ h => h) (Or.inl ⟨by rfl, ?hy5⟩) (by assumption) ?ra5
  case hy5 => (intro w hSw; (try dsimp only at hSw); go_simp <;> with_reducible rfl)
  try simp only [Act.put, List.getElem_toArray, List.getElem_cons_zero, List.getElem_cons_succ, List.setIfInBounds_toArray, List.set_cons_zero, List.set_cons_succ]
  refine wpAnyH_take (i := 6) (v := ?va6) rfl (by kernel_rfl) (by kernel_rfl) (by kernel_rfl) (fun _ _ _ h => h) (Or.inl ⟨by rfl, ?hy6⟩) (by assumption) ?ra6
  case hy6 => (intro w hSw; (try dsimp only at hSw); go_simp <;> with_reducible rfl)
  try simp only [Act.put, List.getElem_toArray, List.getElem_cons_zero, List.getElem_cons_succ, List.setIfInBounds_toArray, List.set_cons_zero, List.set_cons_succ]
  refine wpAnyH_take (i := 7) (v := ?va7) rfl (by kernel_rfl) (by kernel_rfl) (by kernel_rfl) (fun _ _ _ h => h) (Or.inl ⟨by rfl, ?hy7⟩) (by assumption) ?ra7
  case hy7 => (intro w hSw; (try dsimp only at hSw); go_simp <;> with_reducible rfl)
  try simp only [Act.put, List.getElem_toArray, List.getElem_cons_zero, List.getElem_cons_succ, List.setIfInBounds_toArray, List.set_cons_zero, List.set_cons_succ]
  refine wpAnyH_take (i := 8) (v := ?va8) rfl (by kernel_rfl) (by kernel_rfl) (by kernel_rfl) (fun _ _ _ h => h) (Or.inl ⟨by rfl, ?hy8⟩) (by assumption) ?ra8
  case hy8 => (intro w hSw; (try dsimp only at hSw); go_simp <;> with_reducible rfl)
  try simp only [Act.put, List.getElem_toArray, List.getElem_cons_zero, List.getElem_cons_succ, List.setIfInBounds_toArray, List.set_cons_zero, List.set_cons_succ]
  refine wpAnyH_take (i := 9) (v := ?va9) rfl (by kernel_rfl) (by kernel_rfl) (by kernel_rfl) (fun _ _ _ h => h) (Or.inl ⟨by rfl, ?hy9⟩) (by assumption) ?ra9
  case hy9 => (intro w hSw; (try dsimp only at hSw); go_simp <;> with_reducible rfl)
  try simp only [Act.put, List.getElem_toArray, List.getElem_cons_zero, List.getElem_cons_succ, List.setIfInBounds_toArray, List.set_cons_zero, List.set_cons_succ]
  refine wpAnyH_take (i := 10) (v := ?va10) rfl (by kernel_rfl) (by kernel_rfl) (by kernel_rfl) (fun _ _ _ h => h) (Or.inl ⟨by rfl, ?hy10⟩) (by assumption) ?ra10
  case hy10 => (intro w hSw; (try dsimp only at hSw); go_simp <;> with_reducible rfl)
  try simp only [Act.put, List.getElem_toArray, List.getElem_cons_zero, List.getElem_cons_succ, List.setIfInBounds_toArray, List.set_cons_zero, List.set_cons_succ]
  refine wpAnyH_take (i := 11) (v := ?va11) rfl (by kernel_rfl) (by kernel_rfl) (by kernel_rfl) (fun _ _ _ h => h) (Or.inl ⟨by rfl, ?hy11⟩) (by assumption) ?ra11
  case hy11 => (intro w hSw; (try dsimp only at hSw); go_simp <;> with_reducible rfl)
  try simp only [Act.put, List.getElem_toArray, List.getElem_cons_zero, List.getElem_cons_succ, List.setIfInBounds_toArray, List.set_cons_zero, List.set_cons_succ]
  refine wpAnyH_take (i := 12) (v := ?va12) rfl (by kernel_rfl) (by kernel_rfl) (by kernel_rfl) (fun _ _ _ h => h) (Or.inl ⟨by rfl, ?hy12⟩) (by assumption) ?ra12
  case hy12 => (intro w hSw; (try dsimp only at hSw); go_simp <;> with_reducible rfl)
  try simp only [Act.put, List.getElem_toArray, List.getElem_cons_zero, List.getElem_cons_succ, List.setIfInBounds_toArray, List.set_cons_zero, List.set_cons_succ]
  refine wpAnyH_take (i := 13) (v := ?va13) rfl (by kernel_rfl) (by kernel_rfl) (by kernel_rfl) (fun _ _ _ h => h) (Or.inl ⟨by rfl, ?hy13⟩) (by assumption) ?ra13
  case hy13 => (intro w hSw; (try dsimp only at hSw); go_simp <;> with_reducible rfl)
  try simp only [Act.put, List.getElem_toArray, List.getElem_cons_zero, List.getElem_cons_succ, List.setIfInBounds_toArray, List.set_cons_zero, List.set_cons_succ]
  refine wpAnyH_take (i := 14) (v := ?va14) rfl (by kernel_rfl) (by kernel_rfl) (by kernel_rfl) (fun _ _ _ h => h) (Or.inl ⟨by rfl, ?hy14⟩) (by assumption) ?ra14
  case hy14 => (intro w hSw; (try dsimp only at hSw); go_simp <;> with_reducible rfl)
  try simp only [Act.put, List.getElem_toArray, List.getElem_cons_zero, List.getElem_cons_succ, List.setIfInBounds_toArray, List.set_cons_zero, List.set_cons_succ]
  refine wpAnyH_take (i := 15) (v := ?va15) rfl (by kernel_rfl) (by kernel_rfl) (by kernel_rfl) (fun _ _ _ h => h) (Or.inl ⟨by rfl, ?hy15⟩) (by assumption) ?ra15
  case hy15 => (intro w hSw; (try dsimp only at hSw); go_simp <;> with_reducible rfl)
  try simp only [Act.put, List.getElem_toArray, List.getElem_cons_zero, List.getElem_cons_succ, List.setIfInBounds_toArray, List.set_cons_zero, List.set_cons_succ]
  refine wpAnyH_take (i := 16) (v := ?va16) rfl (by kernel_rfl) (by kernel_rfl) (by kernel_rfl) (fun _ _ _ h => h) (Or.inl ⟨by rfl, ?hy16⟩) (by assumption) ?ra16
  case hy16 => (intro w hSw; (try dsimp only at hSw); go_simp <;> with_reducible rfl)
  try simp only [Act.put, List.getElem_toArray, List.getElem_cons_zero, List.getElem_cons_succ, List.setIfInBounds_toArray, List.set_cons_zero, List.set_cons_succ]
  refine wpAnyH_take (i := 17) (v := ?va17) rfl (by kernel_rfl) (by kernel_rfl) (by kernel_rfl) (fun _ _ _ h => h) (Or.inl ⟨by rfl, ?hy17⟩) (by assumption) ?ra17
  case hy17 => (intro w hSw; (try dsimp only at hSw); go_simp <;> with_reducible rfl)
  try simp only [Act.put, List.getElem_toArray, List.getElem_cons_zero, List.getElem_cons_succ, List.setIfInBounds_toArray, List.set_cons_zero, List.set_cons_succ]
  refine wpAnyH_ready (rs := [18]) (by kernel_rfl) (by simp) ?_
  refine AllReadyH.cons rfl (fun K hK => ?_) AllReadyH.nil
  go_simp
  refine (KE.out _ (bt HL.out TB2.out) _ (HX.out.keep TB2.out).j).mono ?_
  rintro e9 w6 ⟨rfl, hb⟩
  have TB3 := hide (bt TB2.out hb)
  clear hb
  go_wp2_with fail
  refine hK.out _ _ (S0.out _ TB3.out) (fun hHeld => ?_)
  clear hK K
  try simp only [Act.put, List.getElem_toArray, List.getElem_cons_zero, List.getElem_cons_succ, List.setIfInBounds_toArray, List.set_cons_zero, List.set_cons_succ]
  refine wpAnyH_take (i := 19) (v := ?va19) rfl (by kernel_rfl) (by kernel_rfl) (by kernel_rfl) (fun _ _ _ h => h) (Or.inl ⟨by rfl, ?hy19⟩) (by assumption) ?ra19
  case hy19 => (intro w hSw; (try dsimp only at hSw); go_simp <;> with_reducible rfl)
  try simp only [Act.put, List.getElem_toArray, List.getElem_cons_zero, List.getElem_cons_succ, List.setIfInBounds_toArray, List.set_cons_zero, List.set_cons_succ]
  refine wpAnyH_take (i := 20) (v := ?va20) rfl (by kernel_rfl) (by kernel_rfl) (by kernel_rfl) (fun _ _ _ h => h) (Or.inl ⟨by rfl, ?hy20⟩) (by assumption) ?ra20
  case hy20 => (intro w hSw; (try dsimp only at hSw); go_simp <;> with_reducible rfl)
  try simp only [Act.put, List.getElem_toArray, List.getElem_cons_zero, List.getElem_cons_succ, List.setIfInBounds_toArray, List.set_cons_zero, List.set_cons_succ]
  refine wpAnyH_ready (rs := [21]) (by kernel_rfl) (by simp) ?_
  refine AllReadyH.cons rfl (fun K hK => ?_) AllReadyH.nil
  go_simp
  refine (works_any _).mono ?_
  rintro e9 w7 ⟨rfl, hb⟩
  have TB4 := hide (bt TB3.out hb)
  clear hb
  go_wp2_with fail
  refine hK.out _ _ (S0.out _ TB4.out) (fun hHeld => ?_)
  clear hK K
  try simp only [Act.put, List.getElem_toArray, List.getElem_cons_zero, List.getElem_cons_succ, List.setIfInBounds_toArray, List.set_cons_zero, List.set_cons_succ]
  refine wpAnyH_take (i := 22) (v := ?va22) rfl (by kernel_rfl) (by kernel_rfl) (by kernel_rfl) (fun _ _ _ h => h) (Or.inl ⟨by rfl, ?hy22⟩) (by assumption) ?ra22
  case hy22 => (intro w hSw; (try dsimp only at hSw); go_simp <;> with_reducible rfl)
  try simp only [Act.put, List.getElem_toArray, List.getElem_cons_zero, List.getElem_cons_succ, List.setIfInBounds_toArray, List.set_cons_zero, List.set_cons_succ]
  refine wpAnyH_take (i := 23) (v := ?va23) rfl (by kernel_rfl) (by kernel_rfl) (by kernel_rfl) (fun _ _ _ h => h) (Or.inl ⟨by rfl, ?hy23⟩) (by assumption) ?ra23
  case hy23 => (intro w hSw; (try dsimp only at hSw); go_simp <;> with_reducible rfl)
  try simp only [Act.put, List.getElem_toArray, List.getElem_cons_zero, List.getElem_cons_succ, List.setIfInBounds_toArray, List.set_cons_zero, List.set_cons_succ]
  refine wpAnyH_done (by kernel_rfl) ?_ _
  go_wp2
  go_ret
  exact ⟨rfl, bt HL.out TB4.out⟩
end Go.Proofs.Ytienamijmccjbaa
