import Derived.Test.YtceeeofkigkpkaaGreatULY
import Derived.Test.YtceeeofkigkpkaaGreatUN
import Derived.Test.YtceeeofkigkpkaaGreatUM
import Derived.Test.YtceeeofkigkpkaaGreatUP
import Derived.Deep.RegionWith
namespace Go.Proofs.YtceeeofkigkpkaaGreat
open Go.RowKit

/-! ### Remove -/
theorem parts_count {L A M B : List Rn} {lo hi : Int} (hL : Can L) (sp : Spl L lo hi A M B) (hle : lo ≤ hi) (hlo : Nm lo) (hhi : Nm hi) :
    sz (clip M lo hi) = nb (has L) lo (hi - lo + 1).toNat ∧ ∀ r ∈ clip M lo hi, Nm r.1 ∧ Nm r.2 ∧ r.1 ≤ r.2 := by
  have hM : Ris M := ⟨fun r hr => hL.1 r (by rw [sp.eq]; simp [hr]), by have := hL.ris.2; rw [sp.eq, pw_split] at this; exact this.2.1⟩
  obtain ⟨c1, c2⟩ := clip_ris hle hM sp.m
  constructor
  · rw [sz_nb (a := lo) (k := (hi - lo + 1).toNat) c1 (fun r hr => by have := c2 r hr; omega)]
    refine nb_congr fun x h1 h2 => ?_
    rw [has_clip sp, decide_eq_true h1, decide_eq_true (show x ≤ hi by omega)]
    simp
  · intro r hr
    have h1 := c2 r hr
    have h2 := c1.1 r hr
    unfold Nm at *
    omega
theorem drw (w : World) : Below w.heap.size w w.drew := ⟨rfl, rfl, rfl, Nat.le_refl _, fun _ _ => rfl⟩
theorem cellB {W W6 : World} (b : Nat) {v : Value} (h : W.cell? ⟨b, 0, none⟩ = some v) (hb : Below W.heap.size W W6) : W6.cell? ⟨b, 0, none⟩ = some v := (hb.cell (p := ⟨b, 0, none⟩) (block_lt_of_cell h)).trans h
theorem cellA {W W6 : World} (b : Nat) {a : Option Addr} {v : Value} {w0 : World} {cap : Nat} {L : List Rn} (h : W.cell? ⟨b, 0, none⟩ = some v) (hb : But (InA a) W W6) (hS : St w0 b a cap L) : W6.cell? ⟨b, 0, none⟩ = some v :=
  (hb.cell (p := ⟨b, 0, none⟩) (block_lt_of_cell h) (fun ⟨_, hx, e⟩ => hS.ne hx e)).trans h
theorem frozenA {W W6 : World} (b : Nat) {a : Option Addr} {v : Value} {w0 : World} {cap : Nat} {L : List Rn} (h : W.cell? ⟨b, 0, none⟩ = some v) (hf : W.frozen? ⟨b, 0, none⟩ = false) (hb : But (InA a) W W6) (hS : St w0 b a cap L) : W6.frozen? ⟨b, 0, none⟩ = false :=
  (hb.frozen (p := ⟨b, 0, none⟩) (block_lt_of_cell h) (fun ⟨_, hx, e⟩ => hS.ne hx e)).trans hf
set_option maxHeartbeats 16000000 in
set_option maxRecDepth 20000 in
theorem Remove_any (w : World) (b : Nat) (a : Option Addr) (cap : Nat) (L : List Rn) (lo hi : Int) (hS : St w b a cap L) (hlo : Nm lo) (hhi : Nm hi) (hlen : L.length + 1 ≤ 11000000000000) :
    Calls Tryz.prog 73 #[.pointer (some ⟨b, 0, none⟩), .int .i64 lo, .int .i64 hi] w fun e w' =>
      e = .returned (.int .i64 ((min (nb (has L) lo (hi - lo + 1).toNat) mxi : Nat) : Int)) ∧ ∃ a' cap' L', St w' b a' cap' L' ∧ (∀ z, has L' z = (has L z && !(decide (lo ≤ z) && decide (z ≤ hi)))) ∧ L'.length ≤ L.length + 1 ∧ New w a a' ∧ But (fun k => k = b ∨ InA a k) w w' := by
  by_cases hle : lo ≤ hi
  · obtain ⟨A, M, B, sp⟩ := spl lo hi hS.can.ris hle
    obtain ⟨gc1, gc2⟩ := parts_count hS.can sp hle hlo hhi
    rw [← gc1]
    have C1 := hide (parts_any w b lo hi)
    obtain ⟨Wa, hWa⟩ : ∃ Wa, w3 w b lo hi = Wa := ⟨_, rfl⟩
    have ka := w3_below w b lo hi
    have sa := w3_size w b lo hi
    obtain ⟨p1, p2, p3⟩ := w3_cells w b lo hi
    rw [hWa] at ka sa p1 p2 p3 C1
    have GS := parts_seq Wa b w.heap.size (w.heap.size + 1) (w.heap.size + 1 + 1) a cap L A M B lo hi (hS.keep ka) sp hle p1 p2 p3
    have hbl := hS.lt
    have C2 := hide (howMany_any Wa Wa 95 #[.pointer (some ⟨w.heap.size, 0, none⟩), .pointer (some ⟨w.heap.size + 1, 0, none⟩), .pointer (some ⟨w.heap.size + 1 + 1, 0, none⟩)] _ _ GS (But.refl _ _)
      (fun k hk => by
        rcases hk with hk | rfl | rfl | rfl
        · rcases hk with rfl | ⟨x, hx, rfl⟩
          · omega
          · have := hS.row.lt hx
            omega
        · omega
        · omega
        · omega) (enters_of Tryz.func95 (by kernel_rfl) rfl) gc2)
    clear GS p1 p2 p3 hWa gc1 gc2
    generalize min (sz (clip M lo hi)) mxi = ans at *
    obtain ⟨r1, r2, r3⟩ := remove_can (mn := (-9223372036854775808)) (mx := 9223372036854775807) hS.can (fun r hr => ⟨(hS.bnd r hr).1.1, (hS.bnd r hr).2.2⟩) hle sp
    have C5 := hide fun (W : World) (hb : Below w.heap.size w W) => meeting_any W b a cap L lo hi A M B (hS.keep hb) sp hle
    have hLl : L.length = A.length + M.length + B.length := by rw [sp.eq]; simp [Nat.add_assoc]
    have eL := sp.eq
    have hc := hS.cell
    have hcap := hS.row.len
    obtain ⟨hc1, hc2⟩ := hcap
    unfold maxLen at hc2
    have lV : (left M lo hi).length ≤ 2 := by
      by_cases h0 : M = []
      · rw [h0, left_nil]; simp
      · rw [left_ne h0, List.length_append]
        split <;> split <;> simp
    have lVM : (left M lo hi).length ≤ M.length + 1 := by
      cases M with
      | nil => rw [left_nil]; simp
      | cons => simp; omega
    obtain ⟨n1, hn1⟩ : ∃ n : Nat, n = A.length + M.length := ⟨_, rfl⟩
    rw [← hn1] at C5
    have l1 : A.length ≤ n1 := by omega
    have l2 : n1 ≤ cap := by omega
    have l3 : n1 ≤ 11000000000000 := by omega
    have x1 : (A.length : Int) ≤ (n1 : Int) := by omega
    have x2 : (n1 : Int) ≤ (cap : Int) := by omega
    have wN : IntKind.i64.wrap (n1 : Int) = (n1 : Int) := wrapI (by omega) (by omega)
    have nM : n1 - A.length = M.length := by omega
    have wL : IntKind.i64.wrap (A.length : Int) = (A.length : Int) := wrapI (by omega) (by omega)
    have bndL : ∀ r ∈ A ++ left M lo hi ++ B, Nm r.1 ∧ Nm r.2 := fun r hr => by
      have h1 := r3 r hr
      have h2 := r1.1 r hr
      unfold Nm
      omega
    have bndM : ∀ r ∈ M, Nm r.1 ∧ Nm r.2 := fun r hr => hS.bnd r (by rw [eL]; simp [hr])
    have HN1 := hide hn1
    have SS := hide hS
    have HL := hide hLl
    have EL := hide eL
    have HA := hide hlen
    have HV := hide lV
    have HM := hide lVM
    have HR := hide (And.intro r1 r2)
    have HB := hide bndL
    have BM := hide bndM
    have hAa := hide hlo
    have hBb := hide hhi
    clear hn1 hS hLl eL hlen r1 r2 r3 sp bndL bndM lV lVM
    rcases SS.out.row.cases with ⟨hag, hcz, h0⟩ | ⟨g, Y, hag, hg, h1, h2, h3⟩
    · subst hag
      subst hcz
      have e4 : L.length = 0 := by rw [h0]; rfl
      have e1 : A.length = 0 := by have := HL.out; omega
      have e2 : M.length = 0 := by have := HL.out; omega
      have e3 : n1 = 0 := by have := HN1.out; omega
      have VS := hide fun (W : World) (_ : Below w.heap.size w W) => (show Vs W none M from .inl (List.length_eq_zero_iff.1 e2))
      clear l1 l2 l3 x1 x2 wN nM wL hc1 hc2
      rw [e1, e3] at C5
      go_enter Tryz.func73, Tryz.ntmps73
      go_wp2_with fail
      refine C1.out.mono ?_
      rintro e w1 ⟨rfl, rfl⟩
      go_wp2_with fail
      refine C2.out.mono ?_
      rintro e W1 ⟨rfl, hb1⟩
      have b1 := bt ka hb1
      go_wp2_with fail
      refine (C5.out _ b1).mono ?_
      rintro e W3 ⟨rfl, hb3⟩
      have b3 := bt b1 hb3
      have S3 := SS.out.keep b3
      have c3 := S3.cell
      have f3 : W3.frozen? ⟨b, 0, none⟩ = false := frozen_of_row _ _ _ _ _ S3.blk
      have HVs := hide (VS.out W3.drew (bt b3 (drw W3)))
      have C6 := leftOf_any W3.drew none 0 M lo hi HVs.out hAa.out hBb.out BM.out (by have := HL.out; have := HA.out; omega)
      have C7 := fun (W : World) (a' : Option Addr) (c' : Nat) (hV : Vw W a' c' (left M lo hi)) (hN : New W3.drew none a') (hb : Below W3.heap.size W3 W) => Replace_any W none 0 A M B (by have := (S3.keep hb).row; rw [EL.out] at this; exact this) a' c' (left M lo hi) hV
        (fun z y hz hy e => by
          have h1 := S3.row.lt hz
          rcases hN y hy with ⟨q, hq, _⟩ | h
          · cases hq
          · have h' : W3.heap.size ≤ y.block := h
            omega) (by have := HV.out; have := HL.out; have := HA.out; omega)
      have lT : (A ++ left M lo hi ++ B).length ≤ L.length + 1 := by have := HL.out; have := HM.out; rw [List.length_append, List.length_append]; omega
      have eT : A.length + (left M lo hi).length + B.length = (A ++ left M lo hi ++ B).length := by rw [List.length_append, List.length_append]
      rw [eT, ← HL.out, ← HN1.out] at C7
      obtain ⟨R, hR⟩ : ∃ R, A ++ left M lo hi ++ B = R := ⟨_, rfl⟩
      rw [hR] at C7 lT HR HB
      obtain ⟨V, hV0⟩ : ∃ V, left M lo hi = V := ⟨_, rfl⟩
      rw [hV0] at C6 C7
      have fin : ∀ (W5 : World), Below W3.heap.size W3 W5 → ∀ (a' : Option Addr) (cap' : Nat) (w6 : World), Vw w6 a' cap' R → New W5 none a' → But (InA none) W5 w6 → St (w6.setCell ⟨b, 0, none⟩ (.slice a' R.length cap')) b a' cap' R ∧ (∀ z, has R z = (has L z && !(decide (lo ≤ z) && decide (z ≤ hi)))) ∧ R.length ≤ L.length + 1 ∧ New w none a' ∧ But (fun k => k = b ∨ InA none k) w (w6.setCell ⟨b, 0, none⟩ (.slice a' R.length cap')) := by
        intro W5 hb5 a' cap' w6 h1 h2 h3
        have S5 := S3.keep hb5
        have s5 := hb5.size
        have s3 := b3.size
        obtain ⟨q1, q2⟩ := HR.out
        have nb' : ∀ z, a' = some z → z.block ≠ b := fun z hz => by
          rcases h2 z hz with ⟨y, hy, e⟩ | h
          · rw [← e]; exact S5.ne hy
          · have := SS.out.lt
            omega
        have bb := h3.same S5.blk (fun h => by obtain ⟨z, hz, e⟩ := h; exact S5.ne hz e)
        have bw6 : But (fun k => k = b ∨ InA none k) w w6 := (But.ofBelow (bt b3 hb5)).trans h3 (fun k _ h => .inr h)
        refine ⟨⟨?_, ?_, q1, HB.out, by have := HA.out; omega⟩, q2, lT, h2.mono (by omega), bw6.setCell (fun _ => .inl rfl) _⟩
        · rw [heap_setCell_same _ _ _ _ _ _ bb]
          rfl
        · exact h1.but (S := fun k => k = b) ((But.refl (fun k => k = b) w6).setCell (p := ⟨b, 0, none⟩) (fun _ => rfl) _) (fun z hz => nb' z hz)
      have FF := hide fin
      have G6 := hide C6
      have G7 := hide C7
      clear fin C6 C7 HR HB HA HL HN1 EL S3 eT HVs HV HM BM hR hV0
      rw [e1, e3, e4, show ((0 : Nat) : Int) = 0 from rfl] at G7
      rw [e2] at G6
      rw [e4] at c3
      clear e1 e2 e3 e4 h0
      go_wp2_with fail
      go_region_with (first | (go_at_call 91; with_reducible refine G6.out.mono ?_; rintro e w5 ⟨a5, c5, rfl, h1, h2, h3⟩; have B5 := hide (show Below W3.heap.size W3 w5 from bt (drw W3) h3); have cb5 := cellB b c3 B5.out; have G8 := hide (G7.out w5 a5 c5 h1 h2 B5.out); clear h1 h2 h3) | (go_at_call 72; with_reducible refine G8.out.mono ?_; rintro e w6 ⟨a', cap', rfl, h1, h2, h3⟩; have cb6 := cellA b cb5 h3 SS.out; have fb6 := frozenA b cb5 ((B5.out.frozen (p := ⟨b, 0, none⟩) (block_lt_of_cell c3)).trans f3) h3 SS.out; have F1 := hide (FF.out w5 B5.out a' cap' w6 h1 h2 h3); clear h1 h2 h3))
      all_goals
        go_wp2
        go_ret
        exact ⟨rfl, a', cap', R, F1.out⟩
    · subst hag
      have glt := hg.lt
      by_cases hm0 : M.length = 0
      · have hnn : n1 = A.length := by omega
        subst hnn
        clear nM
        have VS := hide fun (W : World) (am : Option Addr) (_ : Below w.heap.size w W) => (show Vs W am M from .inl (List.length_eq_zero_iff.1 hm0))
        by_cases hcz : cap = A.length
        · clear hg h1 h2 h3
          go_enter Tryz.func73, Tryz.ntmps73
          go_wp2_with fail
          refine C1.out.mono ?_
          rintro e w1 ⟨rfl, rfl⟩
          go_wp2_with fail
          refine C2.out.mono ?_
          rintro e W1 ⟨rfl, hb1⟩
          have b1 := bt ka hb1
          go_wp2_with fail
          refine (C5.out _ b1).mono ?_
          rintro e W3 ⟨rfl, hb3⟩
          have b3 := bt b1 hb3
          have S3 := SS.out.keep b3
          have c3 := S3.cell
          have f3 : W3.frozen? ⟨b, 0, none⟩ = false := frozen_of_row _ _ _ _ _ S3.blk
          have HVs := hide (VS.out W3.drew (some ⟨g, 0, none⟩) (bt b3 (drw W3)))
          have C6 := leftOf_any W3.drew (some ⟨g, 0, none⟩) 0 M lo hi HVs.out hAa.out hBb.out BM.out (by have := HL.out; have := HA.out; omega)
          have C7 := fun (W : World) (a' : Option Addr) (c' : Nat) (hV : Vw W a' c' (left M lo hi)) (hN : New W3.drew none a') (hb : Below W3.heap.size W3 W) => Replace_any W (some ⟨g, 0, none⟩) cap A M B (by have := (S3.keep hb).row; rw [EL.out] at this; exact this) a' c' (left M lo hi) hV
            (fun z y hz hy e => by
              have h1 := S3.row.lt hz
              rcases hN y hy with ⟨q, hq, _⟩ | h
              · cases hq
              · have h' : W3.heap.size ≤ y.block := h
                omega) (by have := HV.out; have := HL.out; have := HA.out; omega)
          have lT : (A ++ left M lo hi ++ B).length ≤ L.length + 1 := by have := HL.out; have := HM.out; rw [List.length_append, List.length_append]; omega
          have eT : A.length + (left M lo hi).length + B.length = (A ++ left M lo hi ++ B).length := by rw [List.length_append, List.length_append]
          rw [eT, ← HL.out, ← HN1.out] at C7
          obtain ⟨R, hR⟩ : ∃ R, A ++ left M lo hi ++ B = R := ⟨_, rfl⟩
          rw [hR] at C7 lT HR HB
          obtain ⟨V, hV0⟩ : ∃ V, left M lo hi = V := ⟨_, rfl⟩
          rw [hV0] at C6 C7
          have fin : ∀ (W5 : World), Below W3.heap.size W3 W5 → ∀ (a' : Option Addr) (cap' : Nat) (w6 : World), Vw w6 a' cap' R → New W5 (some ⟨g, 0, none⟩) a' → But (InA (some ⟨g, 0, none⟩)) W5 w6 → St (w6.setCell ⟨b, 0, none⟩ (.slice a' R.length cap')) b a' cap' R ∧ (∀ z, has R z = (has L z && !(decide (lo ≤ z) && decide (z ≤ hi)))) ∧ R.length ≤ L.length + 1 ∧ New w (some ⟨g, 0, none⟩) a' ∧ But (fun k => k = b ∨ InA (some ⟨g, 0, none⟩) k) w (w6.setCell ⟨b, 0, none⟩ (.slice a' R.length cap')) := by
            intro W5 hb5 a' cap' w6 h1 h2 h3
            have S5 := S3.keep hb5
            have s5 := hb5.size
            have s3 := b3.size
            obtain ⟨q1, q2⟩ := HR.out
            have nb' : ∀ z, a' = some z → z.block ≠ b := fun z hz => by
              rcases h2 z hz with ⟨y, hy, e⟩ | h
              · rw [← e]; exact S5.ne hy
              · have := SS.out.lt
                omega
            have bb := h3.same S5.blk (fun h => by obtain ⟨z, hz, e⟩ := h; exact S5.ne hz e)
            have bw6 : But (fun k => k = b ∨ InA (some ⟨g, 0, none⟩) k) w w6 := (But.ofBelow (bt b3 hb5)).trans h3 (fun k _ h => .inr h)
            refine ⟨⟨?_, ?_, q1, HB.out, by have := HA.out; omega⟩, q2, lT, h2.mono (by omega), bw6.setCell (fun _ => .inl rfl) _⟩
            · rw [heap_setCell_same _ _ _ _ _ _ bb]
              rfl
            · exact h1.but (S := fun k => k = b) ((But.refl (fun k => k = b) w6).setCell (p := ⟨b, 0, none⟩) (fun _ => rfl) _) (fun z hz => nb' z hz)
          have FF := hide fin
          have G6 := hide C6
          have G7 := hide C7
          clear fin C6 C7 HR HB HA HL HN1 EL S3 eT HVs HV HM BM hR hV0
          rw [hm0] at G6
          rw [hcz] at G7
          clear hm0
          go_wp2_with fail
          go_region_with (first | (go_at_call 91; with_reducible refine G6.out.mono ?_; rintro e w5 ⟨a5, c5, rfl, h1, h2, h3⟩; have B5 := hide (show Below W3.heap.size W3 w5 from bt (drw W3) h3); have cb5 := cellB b c3 B5.out; have G8 := hide (G7.out w5 a5 c5 h1 h2 B5.out); clear h1 h2 h3) | (go_at_call 72; with_reducible refine G8.out.mono ?_; rintro e w6 ⟨a', cap', rfl, h1, h2, h3⟩; have cb6 := cellA b cb5 h3 SS.out; have fb6 := frozenA b cb5 ((B5.out.frozen (p := ⟨b, 0, none⟩) (block_lt_of_cell c3)).trans f3) h3 SS.out; have F1 := hide (FF.out w5 B5.out a' cap' w6 h1 h2 h3); clear h1 h2 h3))
          all_goals
            go_wp2
            go_ret
            exact ⟨rfl, a', cap', R, F1.out⟩
        · clear hg h1 h2 h3
          go_enter Tryz.func73, Tryz.ntmps73
          go_wp2_with fail
          refine C1.out.mono ?_
          rintro e w1 ⟨rfl, rfl⟩
          go_wp2_with fail
          refine C2.out.mono ?_
          rintro e W1 ⟨rfl, hb1⟩
          have b1 := bt ka hb1
          go_wp2_with fail
          refine (C5.out _ b1).mono ?_
          rintro e W3 ⟨rfl, hb3⟩
          have b3 := bt b1 hb3
          have S3 := SS.out.keep b3
          have c3 := S3.cell
          have f3 : W3.frozen? ⟨b, 0, none⟩ = false := frozen_of_row _ _ _ _ _ S3.blk
          have HVs := hide (VS.out W3.drew (some ⟨g, A.length * 2, none⟩) (bt b3 (drw W3)))
          have C6 := leftOf_any W3.drew (some ⟨g, A.length * 2, none⟩) (cap - A.length) M lo hi HVs.out hAa.out hBb.out BM.out (by have := HL.out; have := HA.out; omega)
          have C7 := fun (W : World) (a' : Option Addr) (c' : Nat) (hV : Vw W a' c' (left M lo hi)) (hN : New W3.drew none a') (hb : Below W3.heap.size W3 W) => Replace_any W (some ⟨g, 0, none⟩) cap A M B (by have := (S3.keep hb).row; rw [EL.out] at this; exact this) a' c' (left M lo hi) hV
            (fun z y hz hy e => by
              have h1 := S3.row.lt hz
              rcases hN y hy with ⟨q, hq, _⟩ | h
              · cases hq
              · have h' : W3.heap.size ≤ y.block := h
                omega) (by have := HV.out; have := HL.out; have := HA.out; omega)
          have lT : (A ++ left M lo hi ++ B).length ≤ L.length + 1 := by have := HL.out; have := HM.out; rw [List.length_append, List.length_append]; omega
          have eT : A.length + (left M lo hi).length + B.length = (A ++ left M lo hi ++ B).length := by rw [List.length_append, List.length_append]
          rw [eT, ← HL.out, ← HN1.out] at C7
          obtain ⟨R, hR⟩ : ∃ R, A ++ left M lo hi ++ B = R := ⟨_, rfl⟩
          rw [hR] at C7 lT HR HB
          obtain ⟨V, hV0⟩ : ∃ V, left M lo hi = V := ⟨_, rfl⟩
          rw [hV0] at C6 C7
          have fin : ∀ (W5 : World), Below W3.heap.size W3 W5 → ∀ (a' : Option Addr) (cap' : Nat) (w6 : World), Vw w6 a' cap' R → New W5 (some ⟨g, 0, none⟩) a' → But (InA (some ⟨g, 0, none⟩)) W5 w6 → St (w6.setCell ⟨b, 0, none⟩ (.slice a' R.length cap')) b a' cap' R ∧ (∀ z, has R z = (has L z && !(decide (lo ≤ z) && decide (z ≤ hi)))) ∧ R.length ≤ L.length + 1 ∧ New w (some ⟨g, 0, none⟩) a' ∧ But (fun k => k = b ∨ InA (some ⟨g, 0, none⟩) k) w (w6.setCell ⟨b, 0, none⟩ (.slice a' R.length cap')) := by
            intro W5 hb5 a' cap' w6 h1 h2 h3
            have S5 := S3.keep hb5
            have s5 := hb5.size
            have s3 := b3.size
            obtain ⟨q1, q2⟩ := HR.out
            have nb' : ∀ z, a' = some z → z.block ≠ b := fun z hz => by
              rcases h2 z hz with ⟨y, hy, e⟩ | h
              · rw [← e]; exact S5.ne hy
              · have := SS.out.lt
                omega
            have bb := h3.same S5.blk (fun h => by obtain ⟨z, hz, e⟩ := h; exact S5.ne hz e)
            have bw6 : But (fun k => k = b ∨ InA (some ⟨g, 0, none⟩) k) w w6 := (But.ofBelow (bt b3 hb5)).trans h3 (fun k _ h => .inr h)
            refine ⟨⟨?_, ?_, q1, HB.out, by have := HA.out; omega⟩, q2, lT, h2.mono (by omega), bw6.setCell (fun _ => .inl rfl) _⟩
            · rw [heap_setCell_same _ _ _ _ _ _ bb]
              rfl
            · exact h1.but (S := fun k => k = b) ((But.refl (fun k => k = b) w6).setCell (p := ⟨b, 0, none⟩) (fun _ => rfl) _) (fun z hz => nb' z hz)
          have FF := hide fin
          have G6 := hide C6
          have G7 := hide C7
          clear fin C6 C7 HR HB HA HL HN1 EL S3 eT HVs HV HM BM hR hV0
          rw [hm0] at G6
          clear hm0
          go_wp2_with fail
          go_region_with (first | (go_at_call 91; with_reducible refine G6.out.mono ?_; rintro e w5 ⟨a5, c5, rfl, h1, h2, h3⟩; have B5 := hide (show Below W3.heap.size W3 w5 from bt (drw W3) h3); have cb5 := cellB b c3 B5.out; have G8 := hide (G7.out w5 a5 c5 h1 h2 B5.out); clear h1 h2 h3) | (go_at_call 72; with_reducible refine G8.out.mono ?_; rintro e w6 ⟨a', cap', rfl, h1, h2, h3⟩; have cb6 := cellA b cb5 h3 SS.out; have fb6 := frozenA b cb5 ((B5.out.frozen (p := ⟨b, 0, none⟩) (block_lt_of_cell c3)).trans f3) h3 SS.out; have F1 := hide (FF.out w5 B5.out a' cap' w6 h1 h2 h3); clear h1 h2 h3))
          all_goals
            go_wp2
            go_ret
            exact ⟨rfl, a', cap', R, F1.out⟩
      · have hcz : ¬ cap = A.length := by omega
        have hmp : M ≠ [] := fun e => hm0 (by rw [e]; rfl)
        have VS := hide fun (W : World) (hb : Below w.heap.size w W) => (show Vs W (some ⟨g, A.length * 2, none⟩) M from by
          have h := (SS.out.keep hb).row.vs
          rw [EL.out] at h
          obtain ⟨b0, o0, e0, h⟩ := h.mid hmp
          simp only [Option.some.injEq, Addr.mk.injEq, and_true] at e0
          obtain ⟨rfl, rfl⟩ := e0
          rwa [Nat.zero_add] at h)
        clear hg h1 h2 h3 hmp hm0
        go_enter Tryz.func73, Tryz.ntmps73
        go_wp2_with fail
        refine C1.out.mono ?_
        rintro e w1 ⟨rfl, rfl⟩
        go_wp2_with fail
        refine C2.out.mono ?_
        rintro e W1 ⟨rfl, hb1⟩
        have b1 := bt ka hb1
        go_wp2_with fail
        refine (C5.out _ b1).mono ?_
        rintro e W3 ⟨rfl, hb3⟩
        have b3 := bt b1 hb3
        have S3 := SS.out.keep b3
        have c3 := S3.cell
        have f3 : W3.frozen? ⟨b, 0, none⟩ = false := frozen_of_row _ _ _ _ _ S3.blk
        have HVs := hide (VS.out W3.drew (bt b3 (drw W3)))
        have C6 := leftOf_any W3.drew (some ⟨g, A.length * 2, none⟩) (cap - A.length) M lo hi HVs.out hAa.out hBb.out BM.out (by have := HL.out; have := HA.out; omega)
        have C7 := fun (W : World) (a' : Option Addr) (c' : Nat) (hV : Vw W a' c' (left M lo hi)) (hN : New W3.drew none a') (hb : Below W3.heap.size W3 W) => Replace_any W (some ⟨g, 0, none⟩) cap A M B (by have := (S3.keep hb).row; rw [EL.out] at this; exact this) a' c' (left M lo hi) hV
          (fun z y hz hy e => by
            have h1 := S3.row.lt hz
            rcases hN y hy with ⟨q, hq, _⟩ | h
            · cases hq
            · have h' : W3.heap.size ≤ y.block := h
              omega) (by have := HV.out; have := HL.out; have := HA.out; omega)
        have lT : (A ++ left M lo hi ++ B).length ≤ L.length + 1 := by have := HL.out; have := HM.out; rw [List.length_append, List.length_append]; omega
        have eT : A.length + (left M lo hi).length + B.length = (A ++ left M lo hi ++ B).length := by rw [List.length_append, List.length_append]
        rw [eT, ← HL.out, ← HN1.out] at C7
        obtain ⟨R, hR⟩ : ∃ R, A ++ left M lo hi ++ B = R := ⟨_, rfl⟩
        rw [hR] at C7 lT HR HB
        obtain ⟨V, hV0⟩ : ∃ V, left M lo hi = V := ⟨_, rfl⟩
        rw [hV0] at C6 C7
        have fin : ∀ (W5 : World), Below W3.heap.size W3 W5 → ∀ (a' : Option Addr) (cap' : Nat) (w6 : World), Vw w6 a' cap' R → New W5 (some ⟨g, 0, none⟩) a' → But (InA (some ⟨g, 0, none⟩)) W5 w6 → St (w6.setCell ⟨b, 0, none⟩ (.slice a' R.length cap')) b a' cap' R ∧ (∀ z, has R z = (has L z && !(decide (lo ≤ z) && decide (z ≤ hi)))) ∧ R.length ≤ L.length + 1 ∧ New w (some ⟨g, 0, none⟩) a' ∧ But (fun k => k = b ∨ InA (some ⟨g, 0, none⟩) k) w (w6.setCell ⟨b, 0, none⟩ (.slice a' R.length cap')) := by
          intro W5 hb5 a' cap' w6 h1 h2 h3
          have S5 := S3.keep hb5
          have s5 := hb5.size
          have s3 := b3.size
          obtain ⟨q1, q2⟩ := HR.out
          have nb' : ∀ z, a' = some z → z.block ≠ b := fun z hz => by
            rcases h2 z hz with ⟨y, hy, e⟩ | h
            · rw [← e]; exact S5.ne hy
            · have := SS.out.lt
              omega
          have bb := h3.same S5.blk (fun h => by obtain ⟨z, hz, e⟩ := h; exact S5.ne hz e)
          have bw6 : But (fun k => k = b ∨ InA (some ⟨g, 0, none⟩) k) w w6 := (But.ofBelow (bt b3 hb5)).trans h3 (fun k _ h => .inr h)
          refine ⟨⟨?_, ?_, q1, HB.out, by have := HA.out; omega⟩, q2, lT, h2.mono (by omega), bw6.setCell (fun _ => .inl rfl) _⟩
          · rw [heap_setCell_same _ _ _ _ _ _ bb]
            rfl
          · exact h1.but (S := fun k => k = b) ((But.refl (fun k => k = b) w6).setCell (p := ⟨b, 0, none⟩) (fun _ => rfl) _) (fun z hz => nb' z hz)
        have FF := hide fin
        have G6 := hide C6
        have G7 := hide C7
        clear fin C6 C7 HR HB HA HL HN1 EL S3 eT HVs HV HM BM hR hV0
        go_wp2_with fail
        go_region_with (first | (go_at_call 91; with_reducible refine G6.out.mono ?_; rintro e w5 ⟨a5, c5, rfl, h1, h2, h3⟩; have B5 := hide (show Below W3.heap.size W3 w5 from bt (drw W3) h3); have cb5 := cellB b c3 B5.out; have G8 := hide (G7.out w5 a5 c5 h1 h2 B5.out); clear h1 h2 h3) | (go_at_call 72; with_reducible refine G8.out.mono ?_; rintro e w6 ⟨a', cap', rfl, h1, h2, h3⟩; have cb6 := cellA b cb5 h3 SS.out; have fb6 := frozenA b cb5 ((B5.out.frozen (p := ⟨b, 0, none⟩) (block_lt_of_cell c3)).trans f3) h3 SS.out; have F1 := hide (FF.out w5 B5.out a' cap' w6 h1 h2 h3); clear h1 h2 h3))
        all_goals
          go_wp2
          go_ret
          exact ⟨rfl, a', cap', R, F1.out⟩

  · have h0 : (hi - lo + 1).toNat = 0 := by omega
    rw [h0]
    have hz : ∀ z, has L z = (has L z && !(decide (lo ≤ z) && decide (z ≤ hi))) := fun z => by
      have : (decide (lo ≤ z) && decide (z ≤ hi)) = false := by
        rw [Bool.and_eq_false_iff, decide_eq_false_iff_not, decide_eq_false_iff_not]
        omega
      rw [this]
      simp
    have hlt : hi < lo := by omega
    have SS := hide hS
    have HZ := hide hz
    clear hS hz hlo hhi
    go_enter Tryz.func73, Tryz.ntmps73
    go_wp2
    go_ret
    exact ⟨rfl, a, cap, L, SS.out, (by simpa using HZ.out), Nat.le_succ _, New.refl _ _, But.refl _ _⟩
end Go.Proofs.YtceeeofkigkpkaaGreat
