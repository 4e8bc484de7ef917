import Derived.Test.YtbobnfjbbablkabZP
import Derived.Test.YtbobnfjbbablkabZQ
import Derived.Lib.SlBytesConst
namespace Go.Proofs.Ytbobnfjbbablkab
open Go.RowKit

theorem lit (w : World) (l : List Nat) (t : TypeId) (fr : Nat × Nat) {g : Nat} (hg : w.heap.size = g) (hl : B8 l) (hn : l.length ≤ 1000) : Bs (w.alloc (.cells (vb l).toArray t fr)) (some ⟨g, 0, none⟩) l := by
  subst hg
  refine ⟨hl, by omega, .inr ⟨w.heap.size, 0, rfl, fun i hi => ?_⟩⟩
  rw [cell_of_row _ _ _ _ _ _ (heap_alloc_new _ _), Nat.zero_add, ← vb_get l i hi]
  simp
theorem lit1 (w : World) (fr : Nat × Nat) (x : Nat) (t : TypeId) {g : Nat} (hg : w.heap.size = g) (hl : x < 256) : Bs (w.alloc (.cells #[.int .u8 (x : Int)] t fr)) (some ⟨g, 0, none⟩) [x] := lit w [x] t fr hg (by simpa [B8] using hl) (by simp)
theorem lit2 (w : World) (fr : Nat × Nat) (x y : Nat) (t : TypeId) {g : Nat} (hg : w.heap.size = g) (hl : x < 256 ∧ y < 256) : Bs (w.alloc (.cells #[.int .u8 (x : Int), .int .u8 (y : Int)] t fr)) (some ⟨g, 0, none⟩) [x, y] := lit w [x, y] t fr hg (by simpa [B8] using hl) (by simp)
theorem lit3 (w : World) (fr : Nat × Nat) (x y z : Nat) (t : TypeId) {g : Nat} (hg : w.heap.size = g) (hl : x < 256 ∧ y < 256 ∧ z < 256) : Bs (w.alloc (.cells #[.int .u8 (x : Int), .int .u8 (y : Int), .int .u8 (z : Int)] t fr)) (some ⟨g, 0, none⟩) [x, y, z] := lit w [x, y, z] t fr hg (by simpa [B8] using hl) (by simp)
theorem litR {w : World} {r s : Rv} (hr : Ri w r) (hs : Ri w s) (t : TypeId) {g : Nat} (hg : w.heap.size = g) : Qs (w.alloc (.cells (r.cs ++ s.cs) t)) (some ⟨g, 0, none⟩) [r, s] := by
  subst hg
  refine ⟨fun q hq => ?_, by simp, .inr ⟨w.heap.size, 0, rfl, fun i hi j u hu => ?_⟩⟩
  · simp only [List.mem_cons, List.not_mem_nil, or_false] at hq
    rcases hq with rfl | rfl
    · exact hr.keep (al _ _)
    · exact hs.keep (al _ _)
  · have hj : j < 3 := (List.getElem?_eq_some_iff.1 hu).1
    rw [cell_of_row _ _ _ _ _ _ (heap_alloc_new _ _), Nat.zero_add]
    have hr3 : r.cs.size = 3 := rfl
    match i, hi with
    | 0, _ =>
      rw [Nat.zero_mul, Nat.zero_add, Array.getElem?_append_left (by omega)]
      simpa using hu
    | 1, _ =>
      rw [Array.getElem?_append_right (by omega), hr3, show 1 * 3 + j - 3 = j by omega]
      simpa using hu
theorem cover_ae : cover [⟨[97], [99], false⟩, ⟨[98], [101], false⟩] = [([97], [101])] := by
  have hf : forms [⟨[97], [99], false⟩, ⟨[98], [101], false⟩] = [([97], [99]), ([98], [101])] := by decide +kernel
  have h := cov_cover (l := [⟨[97], [99], false⟩, ⟨[98], [101], false⟩]) (fun r hr => by
    simp only [List.mem_cons, List.not_mem_nil, or_false] at hr
    rcases hr with rfl | rfl
    · exact ⟨by simp [B8], by simp [B8]⟩
    · exact ⟨by simp [B8], by simp [B8]⟩) (fs := [([97], [99]), ([98], [101])]) (fun f => by rw [hf]) (by
    refine List.pairwise_cons.2 ⟨fun f hf => ?_, List.pairwise_singleton _ _⟩
    rw [List.mem_singleton.1 hf]
    decide)
  rw [← h]
  decide +kernel
def oc (x : Nat) : Obj := .cells #[.int .u8 (x : Int)] 5 (1, 2)
/-- Cover of the two ranges -/
theorem fixed_cover (w : World) : Calls Try.prog 19 #[.slice (some ⟨w.heap.size + 1 + 1 + 1 + 1, 0, none⟩) 2 2]
    (((((w.alloc (.cells #[.int .u8 97] 5 (1, 2))).alloc (.cells #[.int .u8 99] 5 (1, 2))).alloc (.cells #[.int .u8 98] 5 (1, 2))).alloc (.cells #[.int .u8 101] 5 (1, 2))).alloc
      (.cells #[.slice (some ⟨w.heap.size, 0, none⟩) 1 1, .slice (some ⟨w.heap.size + 1, 0, none⟩) 1 1, .bool false, .slice (some ⟨w.heap.size + 1 + 1, 0, none⟩) 1 1, .slice (some ⟨w.heap.size + 1 + 1 + 1, 0, none⟩) 1 1, .bool false] 24))
    fun e w' => ∃ g c q, e = .returned (.slice (some ⟨g, 0, none⟩) 1 c) ∧ (w'.cell? ⟨g, 0, none⟩ = some (.slice q.aL q.lo.length q.cL) ∧ w'.cell? ⟨g, 0 + 1, none⟩ = some (.slice q.aH q.hi.length q.cH) ∧ w'.cell? ⟨g, 0 + 2, none⟩ = some (.bool q.op)) ∧ Own w w' q.aL q.cL q.lo ∧ (Ri w' q ∧ q.rg = ⟨[97], [101], false⟩) := by
  have b0 : Bs (w.alloc (oc 97)) (some ⟨w.heap.size, 0, none⟩) [97] := lit1 w (1, 2) 97 5 rfl (by decide)
  have b1 : Bs ((w.alloc (oc 97)).alloc (oc 99)) (some ⟨w.heap.size + 1, 0, none⟩) [99] := lit1 _ (1, 2) 99 5 (size_alloc _ _) (by decide)
  have b2 : Bs (((w.alloc (oc 97)).alloc (oc 99)).alloc (oc 98)) (some ⟨w.heap.size + 1 + 1, 0, none⟩) [98] := lit1 _ (1, 2) 98 5 (by rw [size_alloc, size_alloc]) (by decide)
  have b3 : Bs ((((w.alloc (oc 97)).alloc (oc 99)).alloc (oc 98)).alloc (oc 101)) (some ⟨w.heap.size + 1 + 1 + 1, 0, none⟩) [101] := lit1 _ (1, 2) 101 5 (by rw [size_alloc, size_alloc, size_alloc]) (by decide)
  have r1 : Ri ((((w.alloc (oc 97)).alloc (oc 99)).alloc (oc 98)).alloc (oc 101)) (⟨some ⟨w.heap.size, 0, none⟩, 1, [97], some ⟨w.heap.size + 1, 0, none⟩, 1, [99], false⟩ : Rv) := ⟨((b0.keep (al _ _)).keep (al _ _)).keep (al _ _), Nat.le_refl _, (b1.keep (al _ _)).keep (al _ _), Nat.le_refl _⟩
  have r2 : Ri ((((w.alloc (oc 97)).alloc (oc 99)).alloc (oc 98)).alloc (oc 101)) (⟨some ⟨w.heap.size + 1 + 1, 0, none⟩, 1, [98], some ⟨w.heap.size + 1 + 1 + 1, 0, none⟩, 1, [101], false⟩ : Rv) := ⟨b2.keep (al _ _), Nat.le_refl _, b3, Nat.le_refl _⟩
  have hQ := litR r1 r2 24 (g := w.heap.size + 1 + 1 + 1 + 1) (by rw [size_alloc, size_alloc, size_alloc, size_alloc])
  refine Calls.mono (Cover_any _ _ 2 2 _ hQ rfl (by simp)) fun e w' ⟨a', c', C, he, hL, hC⟩ => ?_
  have hB : Below w.heap.size w (((((w.alloc (.cells #[.int .u8 97] 5 (1, 2))).alloc (.cells #[.int .u8 99] 5 (1, 2))).alloc (.cells #[.int .u8 98] 5 (1, 2))).alloc (.cells #[.int .u8 101] 5 (1, 2))).alloc
      (.cells #[.slice (some ⟨w.heap.size, 0, none⟩) 1 1, .slice (some ⟨w.heap.size + 1, 0, none⟩) 1 1, .bool false, .slice (some ⟨w.heap.size + 1 + 1, 0, none⟩) 1 1, .slice (some ⟨w.heap.size + 1 + 1 + 1, 0, none⟩) 1 1, .bool false] 24)) := bt (bt (bt (bt (al _ _) (al _ _)) (al _ _)) (al _ _)) (al _ _)
  have hC' : C.map Rv.fm = [([97], [101])] := hC.trans cover_ae
  obtain ⟨q, rfl⟩ : ∃ q, C = [q] := List.length_eq_one_iff.1 (by simpa using congrArg List.length hC')
  simp only [List.map_cons, List.map_nil, List.cons.injEq, and_true, Rv.fm, Prod.mk.injEq] at hC'
  obtain ⟨g, rfl, _, _⟩ := hL.q.r.addr (by simp)
  have hlast := Qw.last (C := []) hL.q.r
  have ho := (Fam.ro (hL.f.sub (rows_sub (List.mem_singleton.2 rfl))))
  refine ⟨g, c', q, he, hlast, Own.pre hB ho.l, ho.ri, ?_⟩
  have hm := hL.m q (by simp)
  rw [hC'.2] at hm
  unfold Rv.rg
  rw [hC'.1, hC'.2, hm]
  rfl
set_option maxRecDepth 100000 in
set_option maxHeartbeats 800000 in
theorem fixed_any (w : World) : Calls Try.prog 6 #[] w fun e w' => e = .returned (.bool true) ∧ Below w.heap.size w w' := by
  have hbt : between [97, 98, 120] [97, 100, 121] = ([97, 99], true) := by decide +kernel
  have BT := hide fun (w1 : World) a b c d hA hB (h : 3 ≤ c) => Between_any w1 a b 3 c 3 d [97, 98, 120] [97, 100, 121] hA hB rfl rfl h
  have CV := hide fixed_cover
  have ER := hide fun (w1 : World) (r s : Rv) (hr : Ri w1 r) (hs : Ri w1 s) (h : r.rg = s.rg) => (show Calls Try.prog 21 #[.agg #[.slice r.aL r.lo.length r.cL, .slice r.aH r.hi.length r.cH, .bool r.op], .agg #[.slice s.aL s.lo.length s.cL, .slice s.aH s.hi.length s.cH, .bool s.op]] w1 (fun e w' => e = .returned (.bool true) ∧ Below w1.heap.size w1 w') from by
    have := EqRange_any w1 r s hr hs
    rw [decide_eq_true (tp_iff.2 h)] at this
    exact this)
  have CM := hide fun (w1 : World) a b c d hA hB => sCompare_any w1 a b 1 c 1 d [98] [97] hA hB rfl rfl
  have hcm : cmpB [98] [97] = 1 := by decide
  rw [hcm] at CM
  have NX := hide fun (w1 : World) a c hA (h : 1 ≤ c) => Next_any w1 a 1 c [97] hA rfl h
  have hnx : next [97] = [97, 0] := by decide
  rw [hnx] at NX
  have HS := hide fun (w1 : World) (r : Rv) a c (hr : Ri w1 r) hB => (show Calls Try.prog 12 #[.agg #[.slice r.aL r.lo.length r.cL, .slice r.aH r.hi.length r.cH, .bool r.op], .slice a 1 c] w1 (fun e w' => e = .returned (.bool (has r.rg [98])) ∧ Below w1.heap.size w1 w') from Has_any w1 r a 1 c [98] hr hB rfl)
  have EQ := hide fun (w1 : World) a b c d l hA hB => EqBytes_same w1 a b (List.length l) l.length c d l hA hB rfl rfl
  rw [hbt] at BT
  dsimp only [List.length_cons, List.length_nil] at BT
  have hcv : ∀ (W : World) (C : Array Value) (n c g : Nat), W.heap.size = g → (convert 22 22 (.slice (some ⟨g, 0, none⟩) n c)).run Try.prog (W.alloc (.cells C 5)) = .ok (.slice (some ⟨g, 0, none⟩) n c) (W.alloc (.cells C 5 (C.size, C.size + 1))) := fun W C n c g hg => by
    subst hg
    exact Lib.run_convert_bytes_const W 22 5 C n c Try.underlying22 Try.underlying5
  go_enter Try.func6, Try.ntmps6
  go_wp2_with fail
  refine (BT.out _ _ _ _ _ ((lit3 w _ 97 98 120 _ rfl (by decide)).keep (al _ _)) (lit3 _ _ 97 100 121 _ (size_alloc _ _) (by decide)) (Nat.le_refl 3)).mono ?_
  rintro e w1 ⟨a1, c1, rfl, o1⟩
  have H1 := hide (Own.pre (bt (al _ _) (al _ _)) o1)
  clear o1 BT hbt
  go_wp2_with fail
  refine (CV.out w1).mono ?_
  rintro e w2 ⟨g2, c2, q, rfl, hq2, hl2, hr2⟩
  have H2 := hide hl2
  have HR2 := hide hr2
  have HQ2 := hide hq2
  have HK2 := hide (H1.out.keep hl2.b)
  have HB2 := hide (bt H1.out.b hl2.b)
  clear hl2 hr2 hq2 CV
  go_wp2_with fail
  refine (EQ.out _ _ _ _ _ _ ((HK2.out.bs (by simp [B8])).keep (al _ _)) (lit2 _ _ 97 99 _ rfl (by decide))).mono ?_
  rintro e w3 ⟨rfl, hb⟩
  have HB3 := hide (bt HB2.out (bt (al _ _) hb))
  have hb3 := bt (al w2 _) hb
  obtain ⟨k0, k1, k2⟩ := o3_keep HQ2.out hb3
  have HR3 := hide (HR2.out.1.keep hb3)
  have HQE := hide HR2.out.2
  clear hb hb3 HQ2 HR2 H2 HK2
  obtain ⟨q1, d1, l1, q2, d2, l2, po⟩ := q
  dsimp only at *
  have hl3 : g2 < w3.heap.size := block_lt_of_cell k0
  go_wp2_with fail
  refine (ER.out _ ⟨q1, d1, l1, q2, d2, l2, po⟩ ⟨some ⟨w3.heap.size, 0, none⟩, 1, [97], some ⟨w3.heap.size + 1, 0, none⟩, 1, [101], false⟩ ((HR3.out.keep (al _ _)).keep (al _ _)) ⟨(lit1 _ _ 97 _ rfl (by decide)).keep (al _ _), Nat.le_refl _, lit1 _ _ 101 _ (size_alloc _ _) (by decide), Nat.le_refl _⟩ HQE.out).mono ?_
  rintro e w4 ⟨rfl, hb⟩
  have HB4 := hide (bt HB3.out (bt (bt (al _ _) (al _ _)) hb))
  clear hb k0 k1 k2 hl3 HR3 HB3 HB2
  go_wp2_with fail
  refine (CM.out _ _ _ _ _ ((lit1 _ _ 98 _ rfl (by decide)).keep (al _ _)) (lit1 _ _ 97 _ (size_alloc _ _) (by decide))).mono ?_
  rintro e w5 ⟨rfl, hw⟩
  subst hw
  go_wp2_with fail
  refine (NX.out _ _ _ (lit1 _ _ 97 _ (by rw [size_alloc, size_alloc]) (by decide)) (Nat.le_refl 1)).mono ?_
  rintro e w5 ⟨a5, c5, rfl, o5⟩
  have HB5 := hide (bt HB4.out (bt (bt (bt (al _ _) (al _ _)) (al _ _)) o5.b))
  have H5 := hide (o5.bs (by simp [B8]))
  clear o5 HB4
  go_wp2_with fail
  refine (EQ.out _ _ _ _ _ [97, 0] (H5.out.keep (al _ _)) (lit2 _ _ 97 0 _ rfl (by decide))).mono ?_
  rintro e w6 ⟨rfl, hb⟩
  have HB6 := hide (bt HB5.out (bt (al _ _) hb))
  clear hb HB5 H5
  go_wp2_with fail
  refine (HS.out _ ⟨some ⟨w6.heap.size, 0, none⟩, 1, [97], none, 0, [], true⟩ (some ⟨w6.heap.size + 1, 0, none⟩) 1 ⟨(lit1 _ _ 97 _ rfl (by decide)).keep (al _ _), Nat.le_refl _, Bs.nil _, Nat.le_refl _⟩ (lit1 _ _ 98 _ (size_alloc _ _) (by decide))).mono ?_
  rintro e w7 ⟨rfl, hb⟩
  have HB7 := hide (bt HB6.out (bt (bt (al _ _) (al _ _)) hb))
  clear hb HB6
  rw [show has (Rv.rg ⟨some ⟨w6.heap.size, 0, none⟩, 1, [97], none, 0, [], true⟩) [98] = true from (by decide +kernel : has ⟨[97], [], true⟩ [98] = true)]
  go_wp2_with fail
  refine (HS.out _ ⟨some ⟨w7.heap.size, 0, none⟩, 1, [99], none, 0, [], true⟩ (some ⟨w7.heap.size + 1, 0, none⟩) 1 ⟨(lit1 _ _ 99 _ rfl (by decide)).keep (al _ _), Nat.le_refl _, Bs.nil _, Nat.le_refl _⟩ (lit1 _ _ 98 _ (size_alloc _ _) (by decide))).mono ?_
  rintro e w8 ⟨rfl, hb⟩
  have HB8 := hide (bt HB7.out (bt (bt (al _ _) (al _ _)) hb))
  clear hb HB7
  rw [show has (Rv.rg ⟨some ⟨w7.heap.size, 0, none⟩, 1, [99], none, 0, [], true⟩) [98] = false from (by decide +kernel : has ⟨[99], [], true⟩ [98] = false)]
  go_wp2
  go_ret
  exact ⟨rfl, HB8.out⟩
end Go.Proofs.Ytbobnfjbbablkab
