import Derived.Test.YtceeeofkigkpkaaGreatEV
namespace Go.Proofs.YtceeeofkigkpkaaGreat
set_option linter.unusedVariables false
open Go.RowKit

/-! ### both pools are made -/
def okB (l : Bool) (n r : Int) (C : List Int) : Bool := if l then fits C.length r && !badC r C else fits n r
def cnB (l : Bool) (n : Int) (C : List Int) : List Int := if l then C else List.replicate n.toNat 0
/-- both pools, their memory new and apart -/
structure Two (w w' : World) (b q : Nat) (r : Int) (C : List Int) (col : Nat → Nat) (cb lb : Nat) : Prop where
  np : Np w w' b (Po.start r C) col
  rp : Rp w' q r C (lasOf C) cb lb
  d1 : col q = 0
  d2 : col cb = 0
  d3 : col lb = 0
  n1 : w.heap.size ≤ q
  n2 : w.heap.size ≤ cb
  n3 : w.heap.size ≤ lb
theorem two_of {w w1 w2 w3 : World} {b q : Nat} {r : Int} {C : List Int} (h0 : Below w.heap.size w w1) (hP : Made w1 w2 b (Po.start r C)) (hQ : RMade w2 w3 q r C (lasOf C)) : ∃ col cb lb, Two w w3 b q r C col cb lb ∧ (∀ k, col k ≠ 0 → w1.heap.size ≤ k) ∧ w1.heap.size ≤ q ∧ w1.heap.size ≤ cb ∧ w1.heap.size ≤ lb := by
  obtain ⟨col, p1, p2, p3⟩ := hP
  obtain ⟨cb, lb, q1, q2, q3, q4, q5⟩ := hQ
  have z : ∀ k, w2.heap.size ≤ k → col k = 0 := fun k hk => by
    by_cases e : col k = 0
    · exact e
    · have := p1.lt k e; omega
  have s0 := h0.size
  have s1 := p2.size
  exact ⟨col, cb, lb, ⟨⟨p1.keep q2, bt h0 (bt p2 q2), fun k hk => by have := p3 k hk; omega⟩, q1, z q q3, z cb q4, z lb q5, by omega, by omega, by omega⟩, p3, by omega, by omega, by omega⟩
theorem start_zeros (r : Int) (n : Nat) : lasOf (List.replicate n 0) = List.replicate n false := by
  unfold lasOf; rw [List.map_replicate]; rfl
set_option maxHeartbeats 8000000 in
set_option maxRecDepth 8000 in
theorem made_any (w : World) (l : Bool) (n r : Int) (a : Option Addr) (m cap : Nat) (C : List Int) (hC : Ir w a C) (hm : m = C.length) (hlen : C.length + 64 ≤ 17592186044416) :
    Calls Tryz.prog 5 #[.agg #[.bool l, .int .i64 n, .int .i64 r, .slice a m cap]] w fun e w' =>
      (okB l n r C = false ∧ e = .returned (.tuple #[.pointer none, .pointer none, .bool true]) ∧ Below w.heap.size w w') ∨
      (okB l n r C = true ∧ ∃ b q col cb lb, e = .returned (.tuple #[.pointer (some ⟨b, 0, none⟩), .pointer (some ⟨q, 0, none⟩), .bool true]) ∧ Two w w' b q r (cnB l n C) col cb lb) := by
  subst hm
  have aw := al w (.cells #[.bool l, .int .i64 n, .int .i64 r, .slice a C.length cap] 24)
  have bx := World.alloc_heap_new w (.cells #[.bool l, .int .i64 n, .int .i64 r, .slice a C.length cap] 24)
  have SP := hide (SpareInts_any (w.alloc (.cells #[.bool l, .int .i64 n, .int .i64 r, .slice a C.length cap] 24)) a C.length cap C (hC.keep aw) rfl hlen)
  have BX := hide (show ∀ W, Below (w.alloc (.cells #[.bool l, .int .i64 n, .int .i64 r, .slice a C.length cap] 24)).heap.size (w.alloc (.cells #[.bool l, .int .i64 n, .int .i64 r, .slice a C.length cap] 24)) W → W.cell? ⟨w.heap.size, 0, none⟩ = some (.bool l) ∧ W.cell? ⟨w.heap.size, 1, none⟩ = some (.int .i64 n) ∧ W.cell? ⟨w.heap.size, 2, none⟩ = some (.int .i64 r) ∧ W.cell? ⟨w.heap.size, 3, none⟩ = some (.slice a C.length cap) from fun W hb => by
    have h := (hb.block w.heap.size (Array.getElem?_eq_some_iff.1 bx).1).trans bx
    rw [cell_of_row _ _ _ _ _ _ h, cell_of_row _ _ _ _ _ _ h, cell_of_row _ _ _ _ _ _ h, cell_of_row _ _ _ _ _ _ h]
    exact ⟨rfl, rfl, rfl, rfl⟩)
  have HC := hide hC
  have AW := hide aw
  have HL := hide hlen
  clear aw bx hC
  go_enter Tryz.func5, Tryz.ntmps5
  go_wp2_with fail
  generalize hW0 : w.alloc (.cells #[.bool l, .int .i64 n, .int .i64 r, .slice a C.length cap] 24) = W0 at *
  clear hW0
  refine SP.out.mono ?_
  rintro _ w1 ⟨rfl, hS, hb⟩
  obtain ⟨x0, x1, x2, x3⟩ := BX.out _ hb
  have B1 := hide (bt AW.out hb)
  have W1 := hide hb
  have RS := hide hS
  have gl : W0.heap.size < w1.heap.size := hS.lt
  obtain ⟨g, hg⟩ : ∃ g, W0.heap.size = g := ⟨_, rfl⟩
  have HG := hide hg
  rw [hg] at RS gl ⊢
  have IR := hide (spare_ir RS.out (by omega))
  have gw : w.heap.size ≤ g := by rw [← hg]; exact AW.out.size
  clear hb hS hg SP
  obtain ⟨k, hk⟩ : ∃ k, C.length = k := ⟨_, rfl⟩
  have HK := hide hk
  rw [hk] at x3 RS ⊢
  have kb : k + 64 ≤ 17592186044416 := by rw [← hk]; exact hlen
  cases l with
  | true =>
    have e1 : okB true n r C = (fits k r && !badC r C) := by unfold okB; rw [hk]; rfl
    have e2 : cnB true n C = C := rfl
    have EO := hide e1
    clear e1 e2 hk
    by_cases hf : fits k r = true
    · have LD := hide (Load_any w1 r (some ⟨g, 0, none⟩) k (k + 64) C IR.out HK.out.symm hf)
      have YL := hide fun (W : World) (hb : Below w.heap.size w W) => yLoad_any W r a k cap C (HC.out.keep hb) HK.out.symm hf
      have HF := hide hf
      go_wp2_with fail
      refine LD.out.mono ?_
      rintro e w2 (⟨hbad, rfl, hw2⟩ | ⟨hbad, b, rfl, hM⟩)
      · obtain rfl := hw2.symm
        have HBD := hide hbad
        clear LD
        go_wp2_with fail
        refine (YL.out _ B1.out).mono ?_
        rintro e w3 (⟨-, rfl, hb3⟩ | ⟨hbad2, _⟩)
        · have B3 := hide (bt B1.out hb3)
          obtain ⟨x0, x1, x2, x3⟩ := BX.out _ (bt W1.out hb3)
          rw [HK.out] at x3
          have RS3 := hide (rowIs_below RS.out hb3)
          have KP := hide (KeptInts_any w3 g (C.length + 64) a k k cap C (by rw [HK.out]; exact RS3.out) (HC.out.keep B3.out) HK.out.symm HK.out.symm rfl HL.out)
          rw [HK.out] at KP
          clear hb3
          go_wp2_with fail
          refine KP.out.mono ?_
          rintro _ w4 ⟨rfl, hb4⟩
          have R4 := hide (rowIs_below RS3.out hb4)
          have B4 := hide (bt B3.out hb4)
          have FIN := hide (show ∀ W, But (fun x => x = g) w4 W → okB true n r C = false ∧ Below w.heap.size w W from fun W hW => ⟨by rw [EO.out, HBD.out]; simp, ((But.ofBelow (S := fun _ => False) B4.out).trans hW (fun x hx e => by omega)).below (fun _ _ h => h)⟩)
          clear hb4 KP x0 x1 x2 x3
          go_wp2_with fail
          go_loopw [10] (fun i wr => ∃ j : Nat, j ≤ k ∧ i = .int .i64 (j : Int) ∧ (∃ f, wr.rowIs g 3 (k + 64) f) ∧ But (fun x => x = g) w4 wr) (fun i _ => k - (intOf i).toNat)
          case atStart => exact ⟨0, Nat.zero_le _, rfl, ⟨_, R4.out⟩, But.refl _ _⟩
          case round =>
            obtain ⟨j, hj, rfl, ⟨f, hr⟩, hbu⟩ := hrel
            have HB5 := hide hbu
            have HR5 := hide hr
            clear hbu hr
            by_cases hlt : j < k
            · have hji : (j : Int) < (k : Int) := by omega
              have cg := HR5.out.cell (i := j) (by omega)
              have fg := HR5.out.frozen j
              go_wp2
              go_roundw
              case rel => exact ⟨j + 1, by omega, by go_num, ⟨_, HR5.out.set j _⟩, HB5.out.trans ((But.refl (fun x => x = g) wr).setCell (p := ⟨g, j, none⟩) (fun _ => rfl) _) (fun _ _ h => h)⟩
              case measure => simp [intOf]; omega
            · obtain rfl : j = k := by omega
              go_wp2
              go_ret3
              exact .inl ⟨(FIN.out _ HB5.out).1, rfl, (FIN.out _ HB5.out).2⟩
        · rw [HBD.out] at hbad2; cases hbad2
      · have HBD := hide hbad
        have HMd := hide hM
        have hb2 : Below w1.heap.size w1 w2 := by obtain ⟨_, _, h2, _⟩ := hM; exact h2
        obtain ⟨x0, x1, x2, x3⟩ := BX.out _ (bt W1.out hb2)
        rw [HK.out] at x3
        have B2 := hide (bt B1.out hb2)
        have W2 := hide (bt W1.out hb2)
        have RS2 := hide (rowIs_below RS.out hb2)
        clear LD hM hb2
        go_wp2_with fail
        refine (YL.out _ B2.out).mono ?_
        rintro e w3 (⟨hbad2, _⟩ | ⟨-, q, rfl, hQ⟩)
        · rw [HBD.out] at hbad2; cases hbad2
        · have hb3 : Below w2.heap.size w2 w3 := by obtain ⟨_, _, _, h2, _⟩ := hQ; exact h2
          have T3 := hide (two_of B1.out HMd.out hQ)
          have B3 := hide (bt B2.out hb3)
          obtain ⟨x0, x1, x2, x3⟩ := BX.out _ (bt W2.out hb3)
          rw [HK.out] at x3
          have RS3 := hide (rowIs_below RS2.out hb3)
          have KP := hide (KeptInts_any w3 g (C.length + 64) a k k cap C (by rw [HK.out]; exact RS3.out) (HC.out.keep B3.out) HK.out.symm HK.out.symm rfl HL.out)
          rw [HK.out] at KP
          clear hb3 hQ
          go_wp2_with fail
          refine KP.out.mono ?_
          rintro _ w4 ⟨rfl, hb4⟩
          have R4 := hide (rowIs_below RS3.out hb4)
          have FIN := hide (show ∀ W, But (fun x => x = g) w4 W → okB true n r C = true ∧ ∃ col cb lb, Two w W b q r (cnB true n C) col cb lb from fun W hW => by
            obtain ⟨col, cb, lb, T, t1, t2, t3, t4⟩ := T3.out
            refine ⟨by rw [EO.out, HBD.out, HF.out]; rfl, col, cb, lb, ⟨⟨(T.np.p.keep hb4).but hW (fun x hx e => by have := t1 x hx; omega), ((But.ofBelow (S := fun _ => False) (bt T.np.b hb4)).trans hW (fun x hx e => by omega)).below (fun _ _ h => h), T.np.n⟩, ?_, T.d1, T.d2, T.d3, T.n1, T.n2, T.n3⟩⟩
            have rk := T.rp.keep hb4
            exact ⟨hW.same rk.box (by omega), hW.same rk.cnt (by omega), hW.same rk.las (by omega), rk.len, rk.d1, rk.d2, rk.d3⟩)
          clear hb4 KP x0 x1 x2 x3
          go_wp2_with fail
          go_loopw [10] (fun i wr => ∃ j : Nat, j ≤ k ∧ i = .int .i64 (j : Int) ∧ (∃ f, wr.rowIs g 3 (k + 64) f) ∧ But (fun x => x = g) w4 wr) (fun i _ => k - (intOf i).toNat)
          case atStart => exact ⟨0, Nat.zero_le _, rfl, ⟨_, R4.out⟩, But.refl _ _⟩
          case round =>
            obtain ⟨j, hj, rfl, ⟨f, hr⟩, hbu⟩ := hrel
            have HB5 := hide hbu
            have HR5 := hide hr
            clear hbu hr
            by_cases hlt : j < k
            · have hji : (j : Int) < (k : Int) := by omega
              have cg := HR5.out.cell (i := j) (by omega)
              have fg := HR5.out.frozen j
              go_wp2
              go_roundw
              case rel => exact ⟨j + 1, by omega, by go_num, ⟨_, HR5.out.set j _⟩, HB5.out.trans ((But.refl (fun x => x = g) wr).setCell (p := ⟨g, j, none⟩) (fun _ => rfl) _) (fun _ _ h => h)⟩
              case measure => simp [intOf]; omega
            · obtain rfl : j = k := by omega
              go_wp2
              go_ret3
              obtain ⟨o1, col, cb, lb, T⟩ := FIN.out _ HB5.out
              exact .inr ⟨o1, b, q, col, cb, lb, rfl, T⟩
    · have hf : fits k r = false := by simpa using hf
      have LD := hide (Load_no w1 r (some ⟨g, 0, none⟩) k (k + 64) hf)
      have YL := hide fun (W : World) => yLoad_no W r a k cap hf
      have HF := hide hf
      go_wp2_with fail
      refine LD.out.mono ?_
      rintro e w2 ⟨rfl, hw2⟩
      obtain rfl := hw2.symm
      clear LD
      go_wp2_with fail
      refine (YL.out _).mono ?_
      rintro e w3 ⟨rfl, hw3⟩
      obtain rfl := hw3.symm
      have KP := hide (KeptInts_any w1 g (C.length + 64) a k k cap C (by rw [HK.out]; exact RS.out) (HC.out.keep B1.out) HK.out.symm HK.out.symm rfl HL.out)
      rw [HK.out] at KP
      go_wp2_with fail
      refine KP.out.mono ?_
      rintro _ w4 ⟨rfl, hb4⟩
      have R4 := hide (rowIs_below RS.out hb4)
      have B4 := hide (bt B1.out hb4)
      have FIN := hide (show ∀ W, But (fun x => x = g) w4 W → okB true n r C = false ∧ Below w.heap.size w W from fun W hW => ⟨by rw [EO.out, HF.out]; rfl, ((But.ofBelow (S := fun _ => False) B4.out).trans hW (fun x hx e => by omega)).below (fun _ _ h => h)⟩)
      clear hb4 KP x0 x1 x2 x3
      go_wp2_with fail
      go_loopw [10] (fun i wr => ∃ j : Nat, j ≤ k ∧ i = .int .i64 (j : Int) ∧ (∃ f, wr.rowIs g 3 (k + 64) f) ∧ But (fun x => x = g) w4 wr) (fun i _ => k - (intOf i).toNat)
      case atStart => exact ⟨0, Nat.zero_le _, rfl, ⟨_, R4.out⟩, But.refl _ _⟩
      case round =>
        obtain ⟨j, hj, rfl, ⟨f, hr⟩, hbu⟩ := hrel
        have HB5 := hide hbu
        have HR5 := hide hr
        clear hbu hr
        by_cases hlt : j < k
        · have hji : (j : Int) < (k : Int) := by omega
          have cg := HR5.out.cell (i := j) (by omega)
          have fg := HR5.out.frozen j
          go_wp2
          go_roundw
          case rel => exact ⟨j + 1, by omega, by go_num, ⟨_, HR5.out.set j _⟩, HB5.out.trans ((But.refl (fun x => x = g) wr).setCell (p := ⟨g, j, none⟩) (fun _ => rfl) _) (fun _ _ h => h)⟩
          case measure => simp [intOf]; omega
        · obtain rfl : j = k := by omega
          go_wp2
          go_ret3
          exact .inl ⟨(FIN.out _ HB5.out).1, rfl, (FIN.out _ HB5.out).2⟩
  | false =>
    have e1 : okB false n r C = fits n r := rfl
    have e2 : cnB false n C = List.replicate n.toNat 0 := rfl
    have EO := hide e1
    clear e1 e2 hk
    by_cases hf : fits n r = true
    · have NW := hide (New_yes w1 n r hf)
      obtain ⟨⟨f1, f2⟩, f3⟩ := fits_iff.1 hf
      obtain ⟨nn, rfl⟩ : ∃ nn : Nat, n = (nn : Int) := ⟨n.toNat, by omega⟩
      have YN := hide fun (W : World) => yNew_yes W nn r hf
      have HF := hide hf
      rw [Int.toNat_natCast] at NW
      go_wp2_with fail
      refine NW.out.mono ?_
      rintro _ w2 ⟨b, rfl, hM⟩
      have HMd := hide hM
      have hb2 : Below w1.heap.size w1 w2 := by obtain ⟨_, _, h2, _⟩ := hM; exact h2
      obtain ⟨x0, x1, x2, x3⟩ := BX.out _ (bt W1.out hb2)
      rw [HK.out] at x3
      clear NW hM hb2
      go_wp2_with fail
      refine (YN.out _).mono ?_
      rintro _ w3 ⟨q, rfl, hQ⟩
      rw [← start_zeros r nn] at hQ
      have T3 := hide (two_of B1.out HMd.out hQ)
      clear hQ YN
      go_wp2
      go_ret3
      obtain ⟨col, cb, lb, T, t1, t2, t3, t4⟩ := T3.out
      exact .inr ⟨by rw [EO.out]; exact HF.out, b, q, col, cb, lb, rfl, T⟩
    · have hf : fits n r = false := by simpa using hf
      have NW := hide (New_no w1 n r hf)
      have YN := hide fun (W : World) => yNew_no W n r hf
      have HF := hide hf
      go_wp2_with fail
      refine NW.out.mono ?_
      rintro e w2 ⟨rfl, hw2⟩
      obtain rfl := hw2.symm
      go_wp2_with fail
      refine (YN.out _).mono ?_
      rintro e w3 ⟨rfl, hw3⟩
      obtain rfl := hw3.symm
      go_wp2
      go_ret3
      exact .inl ⟨by rw [EO.out]; exact HF.out, rfl, B1.out⟩
end Go.Proofs.YtceeeofkigkpkaaGreat
