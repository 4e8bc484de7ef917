import Derived.Test.YthfcgfdboienkaaXI
namespace Go.Proofs.Ythfcgfdboienkaa
open Go.RowKit

theorem take_head {l : List Nat} {k : Nat} (hk : 0 < k) : (l.take k).getD 0 0 = l.getD 0 0 ∧ (l.take k).headD 0 = l.getD 0 0 := by
  obtain ⟨k, rfl⟩ : ∃ j, k = j + 1 := ⟨k - 1, by omega⟩
  cases l <;> simp
theorem results_cell_two {P : Program} {fn : Func} {p q r : Tmp} {ty : TypeId} (h : fn.results = #[.cell p ty, .tmp q, .tmp r]) (tmps : Array Value) (w : World) (g : Nat) (t : TypeId) (cs : Array Value) (fr : Nat × Nat) (d : TypeDesc)
    (hp : tmps.getD p undef = .pointer (some ⟨g, 0, none⟩)) (hg : w.heap[g]? = some (.cells cs t fr))
    (hu : P.underlying ty = some d) (hd : (match d with | .struct _ | .array _ _ => true | _ => false) = true) (hi : (P.info? ty).map (·.size) = some cs.size) :
    (results fn tmps).run P w = .ok (.tuple #[.agg cs, tmps.getD q undef, tmps.getD r undef]) w := by
  have hp' : tmps[p]?.getD undef = .pointer (some ⟨g, 0, none⟩) := by simpa using hp
  simp [results, h, hp', asAddr, run_loadVar_row w g t ty cs fr d hg hu hd hi]
theorem six_row {w : World} {g : Nat} {v : VV} (h : w.heap[g]? = some (.cells #[.int .i64 v.kind, .bool v.bool, .int .i64 v.int, .float .f64 v.real, .complex .f64 v.re v.im, .string v.text] 26 (0, 0))) : (w.cell? ⟨g, 0, none⟩ = some (.int .i64 v.kind) ∧ w.cell? ⟨g, 1, none⟩ = some (.bool v.bool) ∧ w.cell? ⟨g, 2, none⟩ = some (.int .i64 v.int) ∧ w.cell? ⟨g, 3, none⟩ = some (.float .f64 v.real) ∧ w.cell? ⟨g, 4, none⟩ = some (.complex .f64 v.re v.im) ∧ w.cell? ⟨g, 5, none⟩ = some (.string v.text)) := by
  refine ⟨?_, ?_, ?_, ?_, ?_, ?_⟩
  all_goals (rw [cell_of_row _ _ _ _ _ _ h]; rfl)
theorem read_mid {w w2 w3 : World} {v : VV} {C : Array Value} {a3 : Option Addr} {c3 : Nat} {Z : List Nat} (B2 : Below w.heap.size w w2) (M2 : w2.heap[w.heap.size]? = some (.cells C 26 (0, 0))) (h3 : Apd (w2.alloc (.cells #[.int .i64 v.kind, .bool v.bool, .int .i64 v.int, .float .f64 v.real, .complex .f64 v.re v.im, .string v.text] 26)).drew none w3 a3 c3 Z) :
    Below w.heap.size w w3 ∧ w3.heap[w.heap.size]? = some (.cells C 26 (0, 0)) ∧ w3.heap[w2.heap.size]? = some (.cells #[.int .i64 v.kind, .bool v.bool, .int .i64 v.int, .float .f64 v.real, .complex .f64 v.re v.im, .string v.text] 26 (0, 0)) := by
  have hb3 := h3.below
  have S2 := (Array.getElem?_eq_some_iff.1 M2).1
  have hs : (w2.alloc (.cells #[.int .i64 v.kind, .bool v.bool, .int .i64 v.int, .float .f64 v.real, .complex .f64 v.re v.im, .string v.text] 26)).drew.heap.size = w2.heap.size + 1 := size_alloc _ _
  refine ⟨bt (B2.alloc B2.size _).drew hb3, ?_, ?_⟩
  · rw [hb3.block w.heap.size (by omega)]
    exact (heap_alloc_old _ _ S2).trans M2
  · rw [hb3.block w2.heap.size (by omega)]
    exact heap_alloc_new _ _
/-- what readValue hands back -/
def ReadOk (w : World) (R : VV × Nat × Int) (e : Ending) (w' : World) : Prop := e = .returned (.tuple #[.agg R.1.pc, .int .i64 (R.2.1 : Int), .int .i64 R.2.2]) ∧ Below w.heap.size w w'
set_option maxHeartbeats 1600000 in
theorem readValue_any (w : World) (b off cap n : Nat) (l : List Nat) (hB : Bs w (some ⟨b, off, none⟩) l) (hl : l.length ≤ 4096) (h0 : 0 < l.length) (hcap : l.length ≤ cap) (hn : n = l.length) :
    Calls Try.prog 46 #[.slice (some ⟨b, off, none⟩) n cap] w (ReadOk w (readR l)) := by
  subst hn
  obtain ⟨_, _, e, hc⟩ := (byte_at hB (Below.refl _ _) h0)
  simp only [Option.some.injEq, Addr.mk.injEq, and_true] at e
  obtain ⟨rfl, rfl⟩ := e
  have hlw := block_lt_of_cell hc
  have hbytes := getD_lt hB.1 h0
  have sf := st_float
  have sc := st_complex
  have KO := hide (fun W => kindOf_any W (l.getD 0 0) hbytes)
  have hvf := vlen_first l
  rw [Nat.add_zero] at hc
  have HB := hide hB
  clear hB
  by_cases hv0 : vlen l = 0
  · rw [show readR l = (VV.zero, 0, 5) by unfold readR; rw [if_pos hv0]]
    rw [hvf, show decide (vlen l ≠ 0) = false by simp [hv0]] at KO
    clear hvf hv0
    unfold ReadOk VV.pc VV.zero
    rw [show (ByteArray.empty : ByteArray) = ⟨#[]⟩ from rfl]
    generalize l.getD 0 0 = c at *
    go_enter Try.func46, Try.ntmps46
    go_wp2_with fail
    refine (KO.out _).mono ?_
    rintro e w1 ⟨k, rfl, _, rfl⟩
    go_wp2
    refine bodyPost_ret (v := .tuple #[.agg _, _, _]) (by simp [results, Try.results46, go_sem]) rfl ⟨rfl, ?_⟩
    exact al _ _
  · have hf : isFirst (l.getD 0 0) = true := by rw [hvf]; simp [hv0]
    have HP := hide (vlen_parts l hv0)
    rw [hf] at KO
    have SZ := hide (fun W (h : Below w.heap.size w W) => size_any W b off cap l.length l (HB.out.keep h) hl h0 hcap hf rfl)
    clear hvf
    by_cases hvl : l.length < vlen l
    · rw [show readR l = (VV.zero, 0, 2) by unfold readR; rw [if_neg hv0, if_pos hvl]]
      have hvi : (l.length : Int) < ((vlen l : Nat) : Int) := by omega
      unfold ReadOk VV.pc VV.zero
      rw [show (ByteArray.empty : ByteArray) = ⟨#[]⟩ from rfl]
      generalize l.getD 0 0 = c at *
      generalize vlen l = q at *
      go_enter Try.func46, Try.ntmps46
      go_wp2_with fail
      refine (KO.out _).mono ?_
      rintro e w1 ⟨k, rfl, hk, rfl⟩
      obtain rfl : k = kof c := by first | exact hk rfl | exact hk trivial
      go_wp2_with fail
      refine (SZ.out _ (al _ _)).mono ?_
      rintro e w1 ⟨rfl, hb1⟩
      have M0 := hide ((hb1.block w.heap.size (by rw [size_alloc]; omega)).trans (heap_alloc_new _ _))
      have B1 := hide (bt (al _ _) hb1)
      clear hb1
      go_wp2_with (refine wpList_store_row rfl 26 _ _ rfl w.heap.size _ rfl rfl 26 _ M0.out sizeVal rfl (by simp [Value.oneCell']) ?_)
      refine bodyPost_ret (v := .tuple #[.agg _, _, _]) (results_cell_two Try.results46 _ _ w.heap.size 26 _ (0, 0) _ rfl (setRow_heap _ _ _ _ _ _ M0.out) Try.underlying26 rfl sizeVal) rfl ⟨rfl, ?_⟩
      exact below_setRow B1.out (Nat.le_refl _) _
    · have hvi : ¬ (l.length : Int) < ((vlen l : Nat) : Int) := by omega
      have hvi2 : ((vlen l : Nat) : Int) ≤ (cap : Int) := by omega
      have hth := take_head (l := l) (k := vlen l) (by omega)
      have htl : (l.take (vlen l)).length = vlen l := by rw [List.length_take]; omega
      have hvok := vget_ok (l.take (vlen l)) (HB.out.take' _).1 (by omega) (by rw [hth.2, htl]; exact ⟨HP.out.1, HP.out.2.1, HP.out.2.2.1⟩) (by rw [hth.2]; exact hf)
      have PA := hide (fun W (h : Below w.heap.size w W) => parse_any W b off cap (vlen l) (l.take (vlen l)) ((HB.out.take' _).keep h) (by omega) (by omega) (by omega) (by rw [hth.1]; exact hf) (by rw [hth.1, htl]; exact HP.out) htl.symm)
      rw [hth.1] at PA
      have AV := hide (fun W => appendValue_any W none 0 0 [] (vget (l.take (vlen l))) (Rw.nil W) hvok.1 hvok.2.2 rfl (by have := bytes_small hvok.1 hvok.2.1; simp only [List.length_nil]; omega))
      have EQ0 := hide (fun W a3 c3 (h : Rw W a3 c3 ([] ++ (vget (l.take (vlen l))).bytes)) (hb : Below w.heap.size w W) => bEqual_any W a3 (some ⟨b, off, none⟩) ([] ++ (vget (l.take (vlen l))).bytes).length (vlen l) c3 cap _ (l.take (vlen l)) (h.bs (bytes_lt hvok.1) (by have := bytes_small hvok.1 hvok.2.1; simp only [List.nil_append]; omega)) ((HB.out.take' _).keep hb) rfl htl.symm)
      rw [List.nil_append] at AV EQ0
      clear hth hvok
      by_cases hq : (vget (l.take (vlen l))).bytes = l.take (vlen l)
      · rw [show readR l = (vget (l.take (vlen l)), vlen l, 0) by unfold readR; rw [if_neg hv0, if_neg hvl, if_neg (by simp [hq])]]
        rw [decide_eq_true hq] at EQ0
        clear hq
        unfold ReadOk
        dsimp only
        generalize vget (l.take (vlen l)) = v at *
        generalize v.bytes = Z at *
        generalize l.getD 0 0 = c at *
        generalize l.take (vlen l) = Lq at *
        generalize vlen l = q at *
        unfold VV.pc at *
        go_enter Try.func46, Try.ntmps46
        go_wp2_with fail
        refine (KO.out _).mono ?_
        rintro e w1 ⟨k, rfl, hk, rfl⟩
        obtain rfl : k = kof c := by first | exact hk rfl | exact hk trivial
        go_wp2_with fail
        refine (SZ.out _ (al _ _)).mono ?_
        rintro e w1 ⟨rfl, hb1⟩
        have B1 := hide (bt (al _ _) hb1)
        have m1 := (hb1.block w.heap.size (by rw [size_alloc]; omega)).trans (heap_alloc_new _ _)
        have M1 := hide m1
        clear hb1 m1
        go_wp2_with fail
        refine (PA.out _ B1.out).mono ?_
        rintro e w2 ⟨rfl, hb2⟩
        have B2 := hide (bt B1.out hb2)
        have M2 := hide ((hb2.block w.heap.size (Array.getElem?_eq_some_iff.1 M1.out).1).trans M1.out)
        have S2 : Hid (w.heap.size < w2.heap.size) := (Array.getElem?_eq_some_iff.1 M2.out).1
        have AX := hide (AV.out (w2.alloc (.cells #[.int .i64 v.kind, .bool v.bool, .int .i64 v.int, .float .f64 v.real, .complex .f64 v.re v.im, .string v.text] 26)).drew)
        clear hb2 M1 B1
        have hq0 : (0 : Int) ≤ (q : Int) := Int.natCast_nonneg _
        go_wp2
        go_region_held3 (fun w' => (w'.cell? ⟨w2.heap.size, 0, none⟩ = some (.int .i64 v.kind) ∧ w'.cell? ⟨w2.heap.size, 1, none⟩ = some (.bool v.bool) ∧ w'.cell? ⟨w2.heap.size, 2, none⟩ = some (.int .i64 v.int) ∧ w'.cell? ⟨w2.heap.size, 3, none⟩ = some (.float .f64 v.real) ∧ w'.cell? ⟨w2.heap.size, 4, none⟩ = some (.complex .f64 v.re v.im) ∧ w'.cell? ⟨w2.heap.size, 5, none⟩ = some (.string v.text)))
          (first | (simp; done) | exact SX.out)
          (first | (go_at_call 42; refine AX.out.mono ?_; rintro e w3 ⟨a3, c3, rfl, h3⟩; obtain ⟨b3, m0, mv⟩ := read_mid B2.out M2.out h3; have B3 := hide b3; have M0 := hide m0; have MV := hide mv; have SX := hide (six_row mv); clear b3 m0 mv; have EQ := hide (EQ0.out w3 a3 c3 h3.r B3.out); clear h3) | (go_at_call 71; refine EQ.out.mono ?_; rintro e w4 ⟨rfl, rfl⟩))
        go_wp2_with (first | (refine wpList_load_row rfl 26 _ rfl w2.heap.size rfl 26 _ (0, 0) _ MV.out Try.underlying26 rfl sizeVal ?_) | (refine wpList_store_row rfl 26 _ _ rfl w.heap.size _ rfl rfl 26 _ M0.out sizeVal rfl (by simp [Value.oneCell']) ?_))
        refine bodyPost_ret (v := .tuple #[.agg _, _, _]) (results_cell_two Try.results46 _ _ w.heap.size 26 _ (0, 0) _ rfl (setRow_heap _ _ _ _ _ _ M0.out) Try.underlying26 rfl sizeVal) rfl ⟨rfl, ?_⟩
        exact below_setRow B3.out (Nat.le_refl _) _
      · rw [show readR l = (VV.zero, 0, 5) by unfold readR; rw [if_neg hv0, if_neg hvl, if_pos hq]]
        rw [decide_eq_false hq] at EQ0
        clear hq
        unfold ReadOk VV.zero
        rw [show (ByteArray.empty : ByteArray) = ⟨#[]⟩ from rfl]
        dsimp only
        generalize vget (l.take (vlen l)) = v at *
        generalize v.bytes = Z at *
        generalize l.getD 0 0 = c at *
        generalize l.take (vlen l) = Lq at *
        generalize vlen l = q at *
        unfold VV.pc at *
        go_enter Try.func46, Try.ntmps46
        go_wp2_with fail
        refine (KO.out _).mono ?_
        rintro e w1 ⟨k, rfl, hk, rfl⟩
        obtain rfl : k = kof c := by first | exact hk rfl | exact hk trivial
        go_wp2_with fail
        refine (SZ.out _ (al _ _)).mono ?_
        rintro e w1 ⟨rfl, hb1⟩
        have B1 := hide (bt (al _ _) hb1)
        have m1 := (hb1.block w.heap.size (by rw [size_alloc]; omega)).trans (heap_alloc_new _ _)
        have M1 := hide m1
        clear hb1 m1
        go_wp2_with fail
        refine (PA.out _ B1.out).mono ?_
        rintro e w2 ⟨rfl, hb2⟩
        have B2 := hide (bt B1.out hb2)
        have M2 := hide ((hb2.block w.heap.size (Array.getElem?_eq_some_iff.1 M1.out).1).trans M1.out)
        have S2 : Hid (w.heap.size < w2.heap.size) := (Array.getElem?_eq_some_iff.1 M2.out).1
        have AX := hide (AV.out (w2.alloc (.cells #[.int .i64 v.kind, .bool v.bool, .int .i64 v.int, .float .f64 v.real, .complex .f64 v.re v.im, .string v.text] 26)).drew)
        clear hb2 M1 B1
        have hq0 : (0 : Int) ≤ (q : Int) := Int.natCast_nonneg _
        go_wp2
        go_region_held3 (fun w' => (w'.cell? ⟨w2.heap.size, 0, none⟩ = some (.int .i64 v.kind) ∧ w'.cell? ⟨w2.heap.size, 1, none⟩ = some (.bool v.bool) ∧ w'.cell? ⟨w2.heap.size, 2, none⟩ = some (.int .i64 v.int) ∧ w'.cell? ⟨w2.heap.size, 3, none⟩ = some (.float .f64 v.real) ∧ w'.cell? ⟨w2.heap.size, 4, none⟩ = some (.complex .f64 v.re v.im) ∧ w'.cell? ⟨w2.heap.size, 5, none⟩ = some (.string v.text)))
          (first | (simp; done) | exact SX.out)
          (first | (go_at_call 42; refine AX.out.mono ?_; rintro e w3 ⟨a3, c3, rfl, h3⟩; obtain ⟨b3, m0, mv⟩ := read_mid B2.out M2.out h3; have B3 := hide b3; have M0 := hide m0; have MV := hide mv; have SX := hide (six_row mv); clear b3 m0 mv; have EQ := hide (EQ0.out w3 a3 c3 h3.r B3.out); clear h3) | (go_at_call 71; refine EQ.out.mono ?_; rintro e w4 ⟨rfl, rfl⟩))
        go_wp2_with (refine wpList_store_row rfl 26 _ _ rfl w.heap.size _ rfl rfl 26 _ M0.out sizeVal rfl (by simp [Value.oneCell']) ?_)
        refine bodyPost_ret (v := .tuple #[.agg _, _, _]) (results_cell_two Try.results46 _ _ w.heap.size 26 _ (0, 0) _ rfl (setRow_heap _ _ _ _ _ _ M0.out) Try.underlying26 rfl sizeVal) rfl ⟨rfl, ?_⟩
        exact below_setRow B3.out (Nat.le_refl _) _
end Go.Proofs.Ythfcgfdboienkaa
