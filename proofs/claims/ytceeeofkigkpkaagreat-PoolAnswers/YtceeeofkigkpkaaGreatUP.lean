import Derived.Test.YtceeeofkigkpkaaGreatULY
import Derived.Test.YtceeeofkigkpkaaGreatUN
import Derived.Test.YtceeeofkigkpkaaGreatUM
import Derived.Deep.RegionWith
namespace Go.Proofs.YtceeeofkigkpkaaGreat
open Go.RowKit

/-! ### Add -/
theorem gaps_count {L A M B : List Rn} {lo hi : Int} (hL : Can L) (sp : Spl L lo hi A M B) (hle : lo ≤ hi) (hlo : Nm lo) (hhi : Nm hi) :
    sz (gap lo hi (clip M lo hi)) = nb (fun z => !has L z) lo (hi - lo + 1).toNat ∧ ∀ r ∈ gap lo hi (clip M lo hi), Nm r.1 ∧ Nm r.2 ∧ r.1 ≤ r.2 := by
  have hM : Ris M := ⟨fun r hr => hL.1 r (by rw [sp.eq]; simp [hr]), by have := hL.ris.2; rw [sp.eq, pw_split] at this; exact this.2.1⟩
  obtain ⟨c1, c2⟩ := clip_ris hle hM sp.m
  obtain ⟨g1, g2, g3⟩ := gap_spec hle c1 c2
  constructor
  · rw [sz_nb (a := lo) (k := (hi - lo + 1).toNat) g1 (fun r hr => by have := g2 r hr; omega)]
    refine nb_congr fun x h1 h2 => ?_
    rw [g3, has_clip sp, decide_eq_true h1, decide_eq_true (show x ≤ hi by omega)]
    simp
  · intro r hr
    have h1 := g2 r hr
    have h2 := g1.1 r hr
    unfold Nm at *
    omega
theorem cell6 {W W6 : World} (b : Nat) {a : Option Addr} {v : Value} {w0 : World} {cap : Nat} {L : List Rn} (h : W.cell? ⟨b, 0, none⟩ = some v) (hb : But (InA a) W.drew W6) (hS : St w0 b a cap L) : W6.cell? ⟨b, 0, none⟩ = some v :=
  (hb.cell (p := ⟨b, 0, none⟩) (block_lt_of_cell h) (fun ⟨_, hx, e⟩ => hS.ne hx e)).trans h
theorem frozen6 {W W6 : World} (b : Nat) {a : Option Addr} {v : Value} {w0 : World} {cap : Nat} {L : List Rn} (h : W.cell? ⟨b, 0, none⟩ = some v) (hf : W.frozen? ⟨b, 0, none⟩ = false) (hb : But (InA a) W.drew W6) (hS : St w0 b a cap L) : W6.frozen? ⟨b, 0, none⟩ = false :=
  (hb.frozen (p := ⟨b, 0, none⟩) (block_lt_of_cell h) (fun ⟨_, hx, e⟩ => hS.ne hx e)).trans hf
set_option maxHeartbeats 2000000 in
set_option maxRecDepth 20000 in
theorem Add_any (w : World) (b : Nat) (a : Option Addr) (cap : Nat) (L : List Rn) (lo hi : Int) (hS : St w b a cap L) (hlo : Nm lo) (hhi : Nm hi) (hlen : L.length + 1 ≤ 11000000000000) :
    Calls Tryz.prog 58 #[.pointer (some ⟨b, 0, none⟩), .int .i64 lo, .int .i64 hi] w fun e w' =>
      e = .returned (.int .i64 ((min (nb (fun z => !has L z) lo (hi - lo + 1).toNat) mxi : Nat) : Int)) ∧ ∃ a' cap' L', St w' b a' cap' L' ∧ (∀ z, has L' z = (has L z || (decide (lo ≤ z) && decide (z ≤ hi)))) ∧ L'.length ≤ L.length + 1 ∧ New w a a' ∧ But (fun k => k = b ∨ InA a k) w w' := by
  by_cases hle : lo ≤ hi
  · obtain ⟨A1, M1, B1, sp1⟩ := spl lo hi hS.can.ris hle
    obtain ⟨gc1, gc2⟩ := gaps_count hS.can sp1 hle hlo hhi
    rw [← gc1]
    have C1 := hide (gaps_any w b lo hi)
    obtain ⟨Wa, hWa⟩ : ∃ Wa, w3 w b lo hi = Wa := ⟨_, rfl⟩
    have ka := w3_below w b lo hi
    have sa := w3_size w b lo hi
    obtain ⟨p1, p2, p3⟩ := w3_cells w b lo hi
    rw [hWa] at ka sa p1 p2 p3 C1
    have GS := gaps_seq Wa b w.heap.size (w.heap.size + 1) (w.heap.size + 1 + 1) a cap L A1 M1 B1 lo hi (hS.keep ka) sp1 hle hlo hhi p1 p2 p3
    have hbl := hS.lt
    have C2 := hide (howMany_any Wa Wa 82 #[.pointer (some ⟨w.heap.size + 1, 0, none⟩), .pointer (some ⟨w.heap.size, 0, none⟩), .pointer (some ⟨w.heap.size + 1 + 1, 0, none⟩)] _ _ GS (But.refl _ _)
      (fun k hk => by
        rcases hk with hk | rfl | rfl | rfl
        · rcases hk with rfl | ⟨x, hx, rfl⟩
          · omega
          · have := hS.row.lt hx
            omega
        · omega
        · omega
        · omega) (enters_of Tryz.func82 (by kernel_rfl) rfl) gc2)
    clear GS p1 p2 p3 hWa gc1 gc2 sp1
    generalize min (sz (gap lo hi (clip M1 lo hi))) mxi = ans at *
    have hx : max (-9223372036854775808) (lo - 1) ≤ min 9223372036854775807 (hi + 1) := by have h1 := hlo; have h2 := hhi; unfold Nm at h1 h2; omega
    obtain ⟨A, M, B, sp⟩ := spl (max (-9223372036854775808) (lo - 1)) (min 9223372036854775807 (hi + 1)) hS.can.ris hx
    obtain ⟨r1, r2, r3, r4, r5, r6, r7⟩ := add_can (mn := (-9223372036854775808)) (mx := 9223372036854775807) hS.can (fun r hr => ⟨(hS.bnd r hr).1.1, (hS.bnd r hr).2.2⟩) hle hlo.1 hhi.2 rfl rfl sp
    have C3 := hide fun W => before_any W lo hlo
    have C4 := hide fun W => behind_any W hi hhi
    have C5 := hide fun (W : World) (hb : Below w.heap.size w W) => meeting_any W b a cap L (max (-9223372036854775808) (lo - 1)) (min 9223372036854775807 (hi + 1)) A M B (hS.keep hb) sp hx
    have hLl : L.length = A.length + M.length + B.length := by rw [sp.eq]; simp [Nat.add_assoc]
    have eL := sp.eq
    have hc := hS.cell
    generalize max (-9223372036854775808) (lo - 1) = x at *
    generalize min 9223372036854775807 (hi + 1) = y at *
    obtain ⟨n1, hn1⟩ : ∃ n : Nat, n = A.length + M.length := ⟨_, rfl⟩
    rw [← hn1] at C5
    by_cases hm0 : M = []
    · have hj : joinLo M lo = lo ∧ joinHi M hi = hi := by rw [hm0]; exact ⟨rfl, rfl⟩
      have hnn : n1 = A.length := by rw [hn1, hm0]; simp
      have hAl : A.length ≤ 11000000000000 := by omega
      have HN1 := hide hn1
      have SS := hide hS
      have R1 := hide (And.intro r1 (And.intro r2 (And.intro r3 (And.intro r4 (And.intro r5 r6)))))
      have HL := hide hLl
      have EL := hide eL
      have SP := hide sp
      have HA := hide hlen
      have HR := hide R1.out
      have HB := hide (show ∀ r ∈ A ++ [(joinLo M lo, joinHi M hi)] ++ B, Nm r.1 ∧ Nm r.2 from fun r hr => by
        obtain ⟨q1, q2, q3, q4, q5, q6⟩ := R1.out
        rcases mem_split.1 hr with hr | hr | hr
        · exact SS.out.bnd r (by rw [EL.out]; simp [hr])
        · rw [List.mem_singleton] at hr
          rw [hr]
          have := hlo.1
          have := hlo.2
          have := hhi.1
          have := hhi.2
          unfold Nm
          show (_ ≤ joinLo M lo ∧ joinLo M lo ≤ _) ∧ (_ ≤ joinHi M hi ∧ joinHi M hi ≤ _)
          omega
        · exact SS.out.bnd r (by rw [EL.out]; simp [hr]))
      rw [hj.1, hj.2] at HR HB
      clear hn1 hS r1 r2 r3 r4 r5 r6 r7 hLl eL sp hlen hj hm0 R1
      subst hnn
      go_enter Tryz.func58, Tryz.ntmps58
      go_wp2_with fail
      refine C1.out.mono ?_
      rintro e w1 ⟨rfl, rfl⟩
      go_wp2_with fail
      refine C2.out.mono ?_
      rintro e W1 ⟨rfl, hb1⟩
      have b1 := bt ka hb1
      go_wp2_with fail
      refine (C3.out _).mono ?_
      rintro e w2 ⟨rfl, rfl⟩
      go_wp2_with fail
      refine (C4.out _).mono ?_
      rintro e w2 ⟨rfl, rfl⟩
      go_wp2_with fail
      refine (C5.out _ (bt b1 (al _ _))).mono ?_
      rintro e W3 ⟨rfl, hb3⟩
      have b3 := bt (bt b1 (al _ _)) hb3
      have j0 := (hb3.block W1.heap.size (by rw [size_alloc]; omega)).trans (World.alloc_heap_new W1 (.cells #[.int .i64 lo, .int .i64 hi] 92))
      have s3 : W1.heap.size < W3.heap.size := by have := hb3.size; rw [size_alloc] at this; omega
      have hJb : W1.heap.size ≠ b := by have := b1.size; omega
      obtain ⟨jl, hjl⟩ : ∃ j, j = lo := ⟨_, rfl⟩
      obtain ⟨jh, hjh⟩ : ∃ j, j = hi := ⟨_, rfl⟩
      go_wp2_with fail
      obtain ⟨W4, hW4⟩ : ∃ W4, W4 = W3 := ⟨_, rfl⟩
      rw [← hW4]
      have j4 : W4.heap[W1.heap.size]? = some (.cells #[.int .i64 jl, .int .i64 jh] 92 (0, 0)) := by rw [hW4, hjl, hjh]; exact j0
      have b4 : But (fun k => k = W1.heap.size) w W4 := by rw [hW4]; exact But.ofBelow b3
      rw [show (A ++ [(lo, hi)] ++ B) = A ++ [(jl, jh)] ++ B by rw [hjl, hjh]] at HR HB
      clear hjl hjh hW4 hb1 hb3 b3
      have jc0 : W4.cell? ⟨W1.heap.size, 0, none⟩ = some (.int .i64 jl) := by rw [cell_of_row _ _ _ _ _ _ j4]; rfl
      have jc1 : W4.cell? ⟨W1.heap.size, 1, none⟩ = some (.int .i64 jh) := by rw [cell_of_row _ _ _ _ _ _ j4]; rfl
      have S4 := SS.out.but b4 (fun h => by have := b1.size; omega) (fun z hz h => by have := SS.out.row.lt hz; have := b1.size; omega)
      have c4 := S4.cell
      have f4 : W4.frozen? ⟨b, 0, none⟩ = false := frozen_of_row _ _ _ _ _ S4.blk
      have a5 := al W4 (.cells #[.int .i64 jl, .int .i64 jh] 92)
      have n5 := World.alloc_heap_new W4 (.cells #[.int .i64 jl, .int .i64 jh] 92)
      obtain ⟨W5, hW5⟩ : ∃ W5, W4.alloc (.cells #[.int .i64 jl, .int .i64 jh] 92) = W5 := ⟨_, rfl⟩
      rw [hW5] at a5 n5
      have S5 := S4.keep a5
      have s5 : W5.heap.size = W4.heap.size + 1 := by rw [← hW5, size_alloc]
      have V5 : Vw W5 (some ⟨W4.heap.size, 0, none⟩) 1 [(jl, jh)] := Vw.mk (Y := []) (by unfold Rowb; rw [List.append_nil]; exact n5) (Nat.le_refl _) (by unfold maxLen; omega) (by simp)
      have bb4 : w.heap.size ≤ W4.heap.size := b4.size
      have C6 := Replace_any W5.drew a cap A M B (by have := S5.row; rw [EL.out] at this; exact this) (some ⟨W4.heap.size, 0, none⟩) 1 [(jl, jh)] V5 (fun z y hz hy e => by have := SS.out.row.lt hz; cases hy; have e' : z.block = W4.heap.size := e; omega) (by have := HA.out; have := HL.out; simp; omega)
      rw [← HL.out, ← HN1.out] at C6
      have eT : A.length + [(jl, jh)].length + B.length = (A ++ [(jl, jh)] ++ B).length := by rw [List.length_append, List.length_append]
      rw [eT] at C6
      have lT : (A ++ [(jl, jh)] ++ B).length ≤ L.length + 1 := by have := HL.out; simp; omega
      have c5 := S5.cell
      have f5 : W5.frozen? ⟨b, 0, none⟩ = false := frozen_of_row _ _ _ _ _ S5.blk
      have jc05 := (a5.cell (p := ⟨W1.heap.size, 0, none⟩) (block_lt_of_cell jc0)).trans jc0
      have jc15 := (a5.cell (p := ⟨W1.heap.size, 1, none⟩) (block_lt_of_cell jc1)).trans jc1
      obtain ⟨R, hR⟩ : ∃ R, A ++ [(jl, jh)] ++ B = R := ⟨_, rfl⟩
      rw [hR] at C6 lT HR HB
      have C6' := hide C6
      have fin : ∀ (a' : Option Addr) (cap' : Nat) (w6 : World), Vw w6 a' cap' R → New W5.drew a a' → But (InA a) W5.drew w6 → St (w6.setCell ⟨b, 0, none⟩ (.slice a' R.length cap')) b a' cap' R ∧ (∀ z, has R z = (has L z || (decide (lo ≤ z) && decide (z ≤ hi)))) ∧ R.length ≤ L.length + 1 ∧ New w a a' ∧ But (fun k => k = b ∨ InA a k) w (w6.setCell ⟨b, 0, none⟩ (.slice a' R.length cap')) := by
        intro a' cap' w6 h1 h2 h3
        obtain ⟨q1, q2, q3, q4, q5, q6⟩ := HR.out
        have nb' : ∀ z, a' = some z → z.block ≠ b := fun z hz => by
          rcases h2 z hz with ⟨y, hy, e⟩ | h
          · rw [← e]; exact S5.ne hy
          · have h' : W5.heap.size ≤ z.block := h
            have := SS.out.lt
            omega
        have bb := h3.same (show W5.drew.heap[b]? = _ from S5.blk) (fun h => by obtain ⟨z, hz, e⟩ := h; exact S5.ne hz e)
        have bw6 : But (fun k => k = b ∨ InA a k) w w6 := (b4.mono (fun k hk h => by have := b1.size; omega)).trans (((But.ofBelow (S := InA a) a5).trans (But.drew (But.refl (InA a) W5)) (fun _ _ h => h)).trans h3 (fun _ _ h => h)) (fun k _ h => .inr h)
        refine ⟨⟨?_, ?_, q1, ?_, by have := HA.out; omega⟩, q2, lT, h2.mono (show w.heap.size ≤ W5.heap.size by omega), bw6.setCell (fun _ => .inl rfl) _⟩
        · rw [heap_setCell_same _ _ _ _ _ _ bb]
          rfl
        · exact h1.but (S := fun k => k = b) ((But.refl (fun k => k = b) w6).setCell (p := ⟨b, 0, none⟩) (fun _ => rfl) _) (fun z hz => nb' z hz)
        · exact HB.out
      have FF := hide fin
      clear fin C6 HR HB HA HL HN1 EL SP S4 S5 V5 n5 j4 a5 eT b4 j0
      go_region_with (go_at_call 72; refine C6'.out.mono ?_; rintro e w6 ⟨a', cap', rfl, h1, h2, h3⟩; have cb6 := cell6 b c5 h3 SS.out; have fb6 := frozen6 b c5 f5 h3 SS.out; have F1 := hide (FF.out a' cap' w6 h1 h2 h3); clear h1 h2 h3)
      all_goals
        go_wp2
        go_ret
        exact ⟨rfl, a', cap', R, F1.out⟩
    · obtain ⟨g, Y, hag, hg⟩ : ∃ g Y, a = some ⟨g, 0, none⟩ ∧ Rowb w g (rc L ++ Y) := by
        rcases hS.row.cases with ⟨_, _, h0⟩ | ⟨g, Y, h1, h2, _⟩
        · rw [eL] at h0
          simp at h0
          exact absurd h0.2.1 hm0
        · exact ⟨g, Y, h1, h2⟩
      have hmp : 0 < M.length := List.length_pos_iff.2 hm0
      have hlt : A.length < n1 := by omega
      have hAl : n1 ≤ 11000000000000 := by omega
      have ix1 : A.length < L.length := by omega
      have ix2 : n1 - 1 < L.length := by omega
      have ef : L.getD A.length Rn.zero = M.head hm0 := by rw [eL, List.getD_eq_getElem?_getD, List.append_assoc, List.getElem?_append_right (Nat.le_refl _), Nat.sub_self, List.getElem?_append_left hmp, List.head_eq_getElem, List.getElem?_eq_getElem hmp]; rfl
      have el : L.getD (n1 - 1) Rn.zero = M.getLast hm0 := by
        rw [eL, List.getD_eq_getElem?_getD, List.getElem?_append_left (by simp; omega), List.getElem?_append_right (by omega), List.getLast_eq_getElem, show n1 - 1 - A.length = M.length - 1 by omega, List.getElem?_eq_getElem (by omega)]
        rfl
      obtain ⟨b0, o0, e0, d1, d2⟩ := hS.row.vs.at ix1
      rw [hag] at e0
      simp only [Option.some.injEq, Addr.mk.injEq, and_true] at e0
      obtain ⟨rfl, rfl⟩ := e0
      obtain ⟨b0', o0', e0, d3, d4⟩ := hS.row.vs.at ix2
      rw [hag] at e0
      simp only [Option.some.injEq, Addr.mk.injEq, and_true] at e0
      obtain ⟨rfl, rfl⟩ := e0
      rw [Nat.zero_add, ef] at d1
      rw [Nat.zero_add, el] at d4
      have hjl := joinLo_ne hm0 lo
      have hjh := joinHi_ne hm0 hi
      obtain ⟨m1, hm1⟩ : ∃ m : Nat, m = n1 - 1 := ⟨_, rfl⟩
      rw [← hm1] at d4 ix2
      have i1 : (n1 : Int) - 1 = (m1 : Int) := by omega
      have gne : g ≠ b := hS.ne hag
      have glt := hg.lt
      have HN1 := hide hn1
      have SS := hide hS
      have R1 := hide (And.intro r1 (And.intro r2 (And.intro r3 (And.intro r4 (And.intro r5 r6)))))
      have HL := hide hLl
      have EL := hide eL
      have SP := hide sp
      have HA := hide hlen
      have HR := hide R1.out
      have HB := hide (show ∀ r ∈ A ++ [(joinLo M lo, joinHi M hi)] ++ B, Nm r.1 ∧ Nm r.2 from fun r hr => by
        obtain ⟨q1, q2, q3, q4, q5, q6⟩ := R1.out
        rcases mem_split.1 hr with hr | hr | hr
        · exact SS.out.bnd r (by rw [EL.out]; simp [hr])
        · rw [List.mem_singleton] at hr
          rw [hr]
          have := hlo.1
          have := hlo.2
          have := hhi.1
          have := hhi.2
          unfold Nm
          show (_ ≤ joinLo M lo ∧ joinLo M lo ≤ _) ∧ (_ ≤ joinHi M hi ∧ joinHi M hi ≤ _)
          omega
        · exact SS.out.bnd r (by rw [EL.out]; simp [hr]))
      generalize M.head hm0 = f at *
      generalize M.getLast hm0 = l at *
      obtain ⟨jl, hjl'⟩ : ∃ j, (if f.1 < lo then f.1 else lo) = j := ⟨_, rfl⟩
      obtain ⟨jh, hjh'⟩ : ∃ j, (if hi < l.2 then l.2 else hi) = j := ⟨_, rfl⟩
      have ejl : joinLo M lo = jl := by rw [hjl, ← hjl']; split <;> omega
      have ejh : joinHi M hi = jh := by rw [hjh, ← hjh']; split <;> omega
      rw [ejl, ejh] at HR HB
      subst hag
      clear hn1 hS r1 r2 r3 r4 r5 r6 r7 hLl eL sp hlen hm0 R1 ejl ejh hjl hjh d2 d3 ef el hg hm1 hmp
      go_enter Tryz.func58, Tryz.ntmps58
      go_wp2_with fail
      refine C1.out.mono ?_
      rintro e w1 ⟨rfl, rfl⟩
      go_wp2_with fail
      refine C2.out.mono ?_
      rintro e W1 ⟨rfl, hb1⟩
      have b1 := bt ka hb1
      go_wp2_with fail
      refine (C3.out _).mono ?_
      rintro e w2 ⟨rfl, rfl⟩
      go_wp2_with fail
      refine (C4.out _).mono ?_
      rintro e w2 ⟨rfl, rfl⟩
      go_wp2_with fail
      refine (C5.out _ (bt b1 (al _ _))).mono ?_
      rintro e W3 ⟨rfl, hb3⟩
      have b3 := bt (bt b1 (al _ _)) hb3
      have j0 := (hb3.block W1.heap.size (by rw [size_alloc]; omega)).trans (World.alloc_heap_new W1 (.cells #[.int .i64 lo, .int .i64 hi] 92))
      have s3 : W1.heap.size < W3.heap.size := by have := hb3.size; rw [size_alloc] at this; omega
      have hJb : W1.heap.size ≠ b := by have := b1.size; omega
      have cb3 := (b3.cell (p := ⟨b, 0, none⟩) (block_lt_of_cell hc)).trans hc
      have e1 := (b3.cell (p := ⟨g, A.length * 2, none⟩) (block_lt_of_cell d1)).trans d1
      have e4 := (b3.cell (p := ⟨g, m1 * 2 + 1, none⟩) (block_lt_of_cell d4)).trans d4
      have jf : ∀ k, W3.frozen? ⟨W1.heap.size, k, none⟩ = false := fun k => frozen_of_row _ _ _ _ _ j0
      have jf0 := jf 0
      have jf1 := jf 1
      have jk0 : W3.cell? ⟨W1.heap.size, 0, none⟩ = some (.int .i64 lo) := by rw [cell_of_row _ _ _ _ _ _ j0]; rfl
      have jk1 : W3.cell? ⟨W1.heap.size, 1, none⟩ = some (.int .i64 hi) := by rw [cell_of_row _ _ _ _ _ _ j0]; rfl
      have hJg : W1.heap.size ≠ g := by have := b1.size; omega
      have o1 : But (fun k => k = W1.heap.size) W3 (W3.setCell ⟨W1.heap.size, 0, none⟩ (.int .i64 jl)) := (But.refl (fun k => k = W1.heap.size) W3).setCell (p := ⟨W1.heap.size, 0, none⟩) (fun _ => rfl) _
      have cb4 := (o1.cell (p := ⟨b, 0, none⟩) (block_lt_of_cell cb3) (fun e => hJb e.symm)).trans cb3
      have e5 := (o1.cell (p := ⟨g, m1 * 2 + 1, none⟩) (block_lt_of_cell e4) (fun e => hJg e.symm)).trans e4
      have q0 := heap_setCell_same W3 W1.heap.size 0 _ _ (.int .i64 jl) j0
      have q1 := heap_setCell_same _ W1.heap.size 1 _ _ (.int .i64 jh) q0
      have jf2 : (W3.setCell ⟨W1.heap.size, 0, none⟩ (.int .i64 jl)).frozen? ⟨W1.heap.size, 1, none⟩ = false := frozen_of_row _ _ _ _ _ q0
      have jk2 : (W3.setCell ⟨W1.heap.size, 0, none⟩ (.int .i64 jl)).cell? ⟨W1.heap.size, 1, none⟩ = some (.int .i64 hi) := by rw [cell_of_row _ _ _ _ _ _ q0]; rfl
      have Q1 := hide q1
      have B4 := hide ((But.ofBelow (S := fun k => k = W1.heap.size) b3).trans (o1.setCell (p := ⟨W1.heap.size, 1, none⟩) (fun _ => rfl) (.int .i64 jh)) (fun _ _ h => h))
      clear q0 q1 jf o1
      go_wp2_with fail
      obtain ⟨W4, hW4⟩ : ∃ W4, (W3.setCell ⟨W1.heap.size, 0, none⟩ (.int .i64 jl)).setCell ⟨W1.heap.size, 1, none⟩ (.int .i64 jh) = W4 := ⟨_, rfl⟩
      have b4 := B4.out
      have j4 : W4.heap[W1.heap.size]? = some (.cells #[.int .i64 jl, .int .i64 jh] 92 (0, 0)) := by rw [← hW4]; exact Q1.out
      rw [hW4] at b4 ⊢
      clear Q1 B4 hW4 hb1 hb3 b3 cb3 cb4 e1 e4 e5 jf0 jf1 jf2 jk0 jk1 jk2 d1 d4
      have jc0 : W4.cell? ⟨W1.heap.size, 0, none⟩ = some (.int .i64 jl) := by rw [cell_of_row _ _ _ _ _ _ j4]; rfl
      have jc1 : W4.cell? ⟨W1.heap.size, 1, none⟩ = some (.int .i64 jh) := by rw [cell_of_row _ _ _ _ _ _ j4]; rfl
      have S4 := SS.out.but b4 (fun h => by have := b1.size; omega) (fun z hz h => by have := SS.out.row.lt hz; have := b1.size; omega)
      have c4 := S4.cell
      have f4 : W4.frozen? ⟨b, 0, none⟩ = false := frozen_of_row _ _ _ _ _ S4.blk
      have a5 := al W4 (.cells #[.int .i64 jl, .int .i64 jh] 92)
      have n5 := World.alloc_heap_new W4 (.cells #[.int .i64 jl, .int .i64 jh] 92)
      obtain ⟨W5, hW5⟩ : ∃ W5, W4.alloc (.cells #[.int .i64 jl, .int .i64 jh] 92) = W5 := ⟨_, rfl⟩
      rw [hW5] at a5 n5
      have S5 := S4.keep a5
      have s5 : W5.heap.size = W4.heap.size + 1 := by rw [← hW5, size_alloc]
      have V5 : Vw W5 (some ⟨W4.heap.size, 0, none⟩) 1 [(jl, jh)] := Vw.mk (Y := []) (by unfold Rowb; rw [List.append_nil]; exact n5) (Nat.le_refl _) (by unfold maxLen; omega) (by simp)
      have bb4 : w.heap.size ≤ W4.heap.size := b4.size
      have C6 := Replace_any W5.drew (some ⟨g, 0, none⟩) cap A M B (by have := S5.row; rw [EL.out] at this; exact this) (some ⟨W4.heap.size, 0, none⟩) 1 [(jl, jh)] V5 (fun z y hz hy e => by have := SS.out.row.lt hz; cases hy; have e' : z.block = W4.heap.size := e; omega) (by have := HA.out; have := HL.out; simp; omega)
      rw [← HL.out, ← HN1.out] at C6
      have eT : A.length + [(jl, jh)].length + B.length = (A ++ [(jl, jh)] ++ B).length := by rw [List.length_append, List.length_append]
      rw [eT] at C6
      have lT : (A ++ [(jl, jh)] ++ B).length ≤ L.length + 1 := by have := HL.out; simp; omega
      have c5 := S5.cell
      have f5 : W5.frozen? ⟨b, 0, none⟩ = false := frozen_of_row _ _ _ _ _ S5.blk
      have jc05 := (a5.cell (p := ⟨W1.heap.size, 0, none⟩) (block_lt_of_cell jc0)).trans jc0
      have jc15 := (a5.cell (p := ⟨W1.heap.size, 1, none⟩) (block_lt_of_cell jc1)).trans jc1
      obtain ⟨R, hR⟩ : ∃ R, A ++ [(jl, jh)] ++ B = R := ⟨_, rfl⟩
      rw [hR] at C6 lT HR HB
      have C6' := hide C6
      have fin : ∀ (a' : Option Addr) (cap' : Nat) (w6 : World), Vw w6 a' cap' R → New W5.drew (some ⟨g, 0, none⟩) a' → But (InA (some ⟨g, 0, none⟩)) W5.drew w6 → St (w6.setCell ⟨b, 0, none⟩ (.slice a' R.length cap')) b a' cap' R ∧ (∀ z, has R z = (has L z || (decide (lo ≤ z) && decide (z ≤ hi)))) ∧ R.length ≤ L.length + 1 ∧ New w (some ⟨g, 0, none⟩) a' ∧ But (fun k => k = b ∨ InA (some ⟨g, 0, none⟩) k) w (w6.setCell ⟨b, 0, none⟩ (.slice a' R.length cap')) := by
        intro a' cap' w6 h1 h2 h3
        obtain ⟨q1, q2, q3, q4, q5, q6⟩ := HR.out
        have nb' : ∀ z, a' = some z → z.block ≠ b := fun z hz => by
          rcases h2 z hz with ⟨y, hy, e⟩ | h
          · rw [← e]; exact S5.ne hy
          · have h' : W5.heap.size ≤ z.block := h
            have := SS.out.lt
            omega
        have bb := h3.same (show W5.drew.heap[b]? = _ from S5.blk) (fun h => by obtain ⟨z, hz, e⟩ := h; exact S5.ne hz e)
        have bw6 : But (fun k => k = b ∨ InA (some ⟨g, 0, none⟩) k) w w6 := (b4.mono (fun k hk h => by have := b1.size; omega)).trans (((But.ofBelow (S := InA (some ⟨g, 0, none⟩)) a5).trans (But.drew (But.refl (InA (some ⟨g, 0, none⟩)) W5)) (fun _ _ h => h)).trans h3 (fun _ _ h => h)) (fun k _ h => .inr h)
        refine ⟨⟨?_, ?_, q1, ?_, by have := HA.out; omega⟩, q2, lT, h2.mono (show w.heap.size ≤ W5.heap.size by omega), bw6.setCell (fun _ => .inl rfl) _⟩
        · rw [heap_setCell_same _ _ _ _ _ _ bb]
          rfl
        · exact h1.but (S := fun k => k = b) ((But.refl (fun k => k = b) w6).setCell (p := ⟨b, 0, none⟩) (fun _ => rfl) _) (fun z hz => nb' z hz)
        · exact HB.out
      have FF := hide fin
      clear fin C6 HR HB HA HL HN1 EL SP S4 S5 V5 n5 j4 a5 eT b4 j0
      go_region_with (go_at_call 72; refine C6'.out.mono ?_; rintro e w6 ⟨a', cap', rfl, h1, h2, h3⟩; have cb6 := cell6 b c5 h3 SS.out; have fb6 := frozen6 b c5 f5 h3 SS.out; have F1 := hide (FF.out a' cap' w6 h1 h2 h3); clear h1 h2 h3)
      all_goals
        go_wp2
        go_ret
        exact ⟨rfl, a', cap', R, F1.out⟩
  · have h0 : (hi - lo + 1).toNat = 0 := by omega
    rw [h0]
    have hz : ∀ z, has L z = (has L z || (decide (lo ≤ z) && decide (z ≤ hi))) := fun z => by
      have : (decide (lo ≤ z) && decide (z ≤ hi)) = false := by
        rw [Bool.and_eq_false_iff, decide_eq_false_iff_not, decide_eq_false_iff_not]
        omega
      rw [this, Bool.or_false]
    have hlt : hi < lo := by omega
    have SS := hide hS
    have HZ := hide hz
    clear hS hz hlo hhi
    go_enter Tryz.func58, Tryz.ntmps58
    go_wp2
    go_ret
    exact ⟨rfl, a, cap, L, SS.out, HZ.out, Nat.le_succ _, New.refl _ _, But.refl _ _⟩
end Go.Proofs.YtceeeofkigkpkaaGreat
