import Derived.Test.YtcdigmhlpeeogaaUXA
import Derived.Deep.CutRange
import Derived.Deep.RegionHeld3
namespace Go.Proofs.Ytcdigmhlpeeogaa
set_option linter.unusedVariables false
open Go.RowKit

/-! ### RunsOrder: a round -/
theorem step_apR {w : World} {ops : Array Oper} {o : Oper} {a : Act} {K : Act → World → Prop} {Q : Exit → Act → World → Prop} {E : Prop} (hgd : o.guard = none) (s x : Operand)
    (ho : o.op = .call { callee := .builtin .append, args := #[s, x], argTypes := #[24, 24] }) (ao : Option Addr) (n cap : Nat) (L : List Rn) (hs : a.eval s = .slice ao n cap) (hn : n = L.length) (hR : Vw w ao cap L)
    (av : Option Addr) (m c : Nat) (V : List Rn) (hx : a.eval x = .slice av m c) (hm : m = V.length) (hV : Vs w av V) (h0 : V ≠ []) (hlen : L.length + V.length ≤ 8589934592)
    (h : ∀ g cap' w', Vw w' (some ⟨g, 0, none⟩) cap' (L ++ V) → New w ao (some ⟨g, 0, none⟩) → w.grownBy w' (ao.map Addr.block) → K (a.put o.dst (.slice (some ⟨g, 0, none⟩) (n + m) cap')) w') :
    if Region.wanted o (yielded ops a.tmps) = true then Oper.wp Try.prog o a w K Q else E := by
  have hw : Region.wanted o (yielded ops a.tmps) = true := by simp [Region.wanted, hgd]
  rw [if_pos hw]
  exact wp_apR s x ho ao n cap L hs hn hR av m c V hx hm hV h0 hlen h
theorem vs_new1 (w : World) (r : Rn) : Vs (w.alloc (.cells #[.int .i64 r.1, .int .i64 r.2] 27)) (some ⟨w.heap.size, 0, none⟩) [r] := by
  refine .inr ⟨_, _, rfl, fun j u hu => ?_⟩
  rw [cell_of_row _ _ _ _ _ _ (World.alloc_heap_new w _), Nat.zero_add]
  simpa [rc, rcs] using hu
theorem vs_new2 (w : World) (r s : Rn) : Vs (w.alloc (.cells #[.int .i64 r.1, .int .i64 r.2, .int .i64 s.1, .int .i64 s.2] 27)) (some ⟨w.heap.size, 0, none⟩) [r, s] := by
  refine .inr ⟨_, _, rfl, fun j u hu => ?_⟩
  rw [cell_of_row _ _ _ _ _ _ (World.alloc_heap_new w _), Nat.zero_add]
  simpa [rc, rcs] using hu
theorem new_run (w : World) (r : Rn) : (w.alloc (.cells #[.int .i64 r.1, .int .i64 r.2] 27)).cell? ⟨w.heap.size, 0, none⟩ = some (.int .i64 r.1) ∧ (w.alloc (.cells #[.int .i64 r.1, .int .i64 r.2] 27)).cell? ⟨w.heap.size, 1, none⟩ = some (.int .i64 r.2) := by
  rw [cell_of_row _ _ _ _ _ _ (World.alloc_heap_new w _), cell_of_row _ _ _ _ _ _ (World.alloc_heap_new w _)]
  exact ⟨rfl, rfl⟩
/-- ints in memory -/
def Xs (w : World) (a : Option Addr) (X : List Int) : Prop := X = [] ∨ ∃ b o, a = some ⟨b, o, none⟩ ∧ ∀ i, i < X.length → w.cell? ⟨b, o + i, none⟩ = some (.int .i64 (X.getD i 0))
theorem Xs.keep {w w' : World} {a : Option Addr} {X : List Int} (h : Xs w a X) (hb : Below w.heap.size w w') : Xs w' a X := h.imp id fun ⟨b, o, e, hc⟩ => ⟨b, o, e, fun i hi => (hb.cell (p := ⟨b, o + i, none⟩) (block_lt_of_cell (hc i hi))).trans (hc i hi)⟩
theorem Xs.at {w : World} {a : Option Addr} {X : List Int} (h : Xs w a X) {i : Nat} (hi : i < X.length) : ∃ b o, a = some ⟨b, o, none⟩ ∧ w.cell? ⟨b, o + i, none⟩ = some (.int .i64 (X.getD i 0)) := by
  rcases h with rfl | ⟨b, o, e, hc⟩
  · simp at hi
  · exact ⟨b, o, e, hc i hi⟩
/-- the two rows that grow -/
structure Two (w wx : World) (a1 a2 : Option Addr) (c1 c2 : Nat) (P Q : List Rn) : Prop where
  r1 : Vw wx a1 c1 P
  r2 : Vw wx a2 c2 Q
  n1 : New w none a1
  n2 : New w none a2
  ne : ∀ x y, a1 = some x → a2 = some y → x.block ≠ y.block
  b : Below w.heap.size w wx
theorem Two.keep {w wx wy : World} {a1 a2 : Option Addr} {c1 c2 : Nat} {P Q : List Rn} (h : Two w wx a1 a2 c1 c2 P Q) (hb : Below wx.heap.size wx wy) : Two w wy a1 a2 c1 c2 P Q :=
  ⟨h.r1.keep hb, h.r2.keep hb, h.n1, h.n2, h.ne, bt h.b hb⟩
theorem Two.one {w wx wy : World} {a1 a2 : Option Addr} {c1 c2 g c : Nat} {P Q P' : List Rn} (h : Two w wx a1 a2 c1 c2 P Q) (hR : Vw wy (some ⟨g, 0, none⟩) c P') (hN : New wx a1 (some ⟨g, 0, none⟩)) (hg : wx.grownBy wy (a1.map Addr.block)) : Two w wy (some ⟨g, 0, none⟩) a2 c c2 P' Q := by
  have hb := But.inA hg
  have ne1 : ∀ y, a2 = some y → ¬ InA a1 y.block := fun y hy ⟨x, hx, e⟩ => h.ne x y hx hy e
  refine ⟨hR, h.r2.but hb ne1, h.n1.trans hN h.b.size, h.n2, fun x y hx hy e => ?_, ?_⟩
  · rcases hN x hx with ⟨z, hz, e2⟩ | h2
    · exact h.ne z y hz hy (e2.trans e)
    · have := h.r2.lt hy
      omega
  · refine ((But.ofBelow (S := fun _ => False) h.b).trans hb (fun k hk ⟨x, hx, e⟩ => ?_)).below (fun _ _ h => h)
    rcases h.n1 x hx with ⟨z, hz, _⟩ | h2
    · cases hz
    · omega
theorem Two.symm {w wx : World} {a1 a2 : Option Addr} {c1 c2 : Nat} {P Q : List Rn} (h : Two w wx a1 a2 c1 c2 P Q) : Two w wx a2 a1 c2 c1 Q P := ⟨h.r2, h.r1, h.n2, h.n1, fun x y hx hy e => h.ne y x hy hx e.symm, h.b⟩
set_option maxHeartbeats 8000000 in
set_option maxRecDepth 20000 in
theorem runsOrder_any (w : World) (a : Option Addr) (c : Nat) (L : List Rn) (hL : Vs w a L) (hb : ∀ r ∈ L, Nm r.1 ∧ Nm r.2) (hl : L.length ≤ 1048576) (ax : Option Addr) (cx : Nat) (X : List Int) (hX : Xs w ax X) (hxl : X.length ≤ 1048576) (hxb : ∀ x ∈ X, Nm x) (turn : Int) (ht : Nm turn) :
    Calls Try.prog 3 #[.slice a L.length c, .slice ax X.length cx, .int .i64 turn] w fun e w' => e = .returned (.bool true) ∧ Below w.heap.size w w' := by
  obtain ⟨n, hn⟩ : ∃ n : Nat, n = L.length := ⟨_, rfl⟩
  obtain ⟨m, hm⟩ : ∃ m : Nat, m = X.length := ⟨_, rfl⟩
  have NL := hide hn
  have NX := hide hm
  rw [← hn] at hl ⊢
  rw [← hm] at hxl ⊢
  /- the rotation -/
  obtain ⟨s, hs⟩ : ∃ s : Nat, 0 < n → (s : Int) = turn.tmod n + n ∧ 0 < s ∧ s < 2 * n := by
    by_cases h0 : 0 < n
    · have h1 := Int.tmod_lt_of_pos turn (show (0 : Int) < n by omega)
      have h2 : -(n : Int) < turn.tmod n := by
        by_cases hp : 0 ≤ turn
        · have := Int.tmod_nonneg (n : Int) hp
          omega
        · have h3 := Int.tmod_lt_of_pos (-turn) (show (0 : Int) < n by omega)
          rw [Int.neg_tmod] at h3
          omega
      exact ⟨(turn.tmod n + n).toNat, fun _ => ⟨by omega, by omega, by omega⟩⟩
    · exact ⟨0, fun h => absurd h h0⟩
  have HS := hide hs
  have VL := hide hL
  have VX := hide hX
  have HB := hide hb
  have HXB := hide hxb
  clear hn hm hs hL hX hb hxb
  go_enter Try.func3, Try.ntmps3
  go_wp2
  go_loopw [7, 8, 10] (fun p q i wx => ∃ (k : Nat) (a1 a2 : Option Addr) (c1 c2 j2 : Nat), k ≤ n ∧ i = .int .i64 k ∧ p = .slice a1 k c1 ∧ q = .slice a2 j2 c2 ∧ j2 = (bl L X s n k).length ∧ Two w wx a1 a2 c1 c2 (L.take k) (bl L X s n k)) (fun _ _ i _ => n - (intOf i).toNat)
  case atStart => exact ⟨0, none, none, 0, 0, 0, Nat.zero_le _, rfl, rfl, rfl, rfl, ⟨by rw [List.take_zero]; exact Vw.nil _, Vw.nil _, New.none _ _, New.none _ _, fun x y hx _ => by (cases hx), Below.refl _ _⟩⟩
  case round =>
    obtain ⟨k, a1, a2, c1, c2, j2, hk, rfl, rfl, rfl, hj2, hT⟩ := hrel
    by_cases hlt : k < n
    · have hkL : k < L.length := by rw [← NL.out]; exact hlt
      obtain ⟨b1, o1, rfl, d1, d2⟩ := (VL.out.keep hT.b).at hkL
      have tk := take_next L Rn.zero hkL
      have bk : bl L X s n (k + 1) = bl L X s n k ++ piece L X ((k + s) % n) := rfl
      have lb := bl_length L X s n k
      obtain ⟨s1, s0, s2⟩ := HS.out (by omega)
      generalize hr : L.getD k Rn.zero = r at *
      have lk : k = (L.take k).length := by rw [List.length_take]; omega
      have aw := al wr (.cells #[.int .i64 r.1, .int .i64 r.2] 27)
      have T1 := hide ((hT.keep aw).keep (show Below _ _ ((wr.alloc (.cells #[.int .i64 r.1, .int .i64 r.2] 27)).drew) from ⟨rfl, rfl, rfl, Nat.le_refl _, fun _ _ => rfl⟩))
      have vn := hide (show Vs ((wr.alloc (.cells #[.int .i64 r.1, .int .i64 r.2] 27)).drew) (some ⟨wr.heap.size, 0, none⟩) [r] from vs_new1 wr r)
      have LK := hide lk
      have TK := hide tk
      have BK := hide bk
      have HJ := hide hj2
      have HR := hide hr
      have x1 : (k : Int) < (n : Int) := by omega
      clear hT aw lk tk bk hj2 hr
      go_wp2
      go_cut [7] from 20 to 102 (fun p wx => ∃ g d : Nat, p = .slice (some ⟨g, 0, none⟩) (k + 1) d ∧ Two w wx (some ⟨g, 0, none⟩) a2 d c2 (L.take (k + 1)) (bl L X s n k))
      case first =>
        go_region_law (first | (refine step_apR rfl _ _ rfl a1 k c1 (L.take k) (by simp [Act.eval]) LK.out T1.out.r1 _ 1 1 [r] (by simp [Act.eval]) rfl vn.out (by simp) (by rw [← LK.out]; simp; omega) ?_; intro g1 d1' w1 q1 q2 q3; have T2 := hide (T1.out.one q1 q2 q3); clear q1 q2 q3))
        all_goals (go_wp2; go_meet; exact ⟨g1, d1', rfl, by rw [TK.out]; exact T2.out⟩)
      case rest =>
        obtain ⟨g1, e1, rfl, T2'⟩ := hcut
        clear T1 vn d1 d2 HR LK TK r
        obtain ⟨k2, hk2⟩ : ∃ k2, (k + s) % n = k2 := ⟨_, rfl⟩
        have k2n : k2 < n := by rw [← hk2]; exact Nat.mod_lt _ (by omega)
        have i2 : ((k : Int) + turn.tmod n + n) % n = (k2 : Int) := by rw [← hk2, Int.natCast_emod, Int.natCast_add]; congr 1; omega
        rw [hk2] at BK
        have kL2 : k2 < L.length := by rw [← NL.out]; exact k2n
        obtain ⟨b2, o2, ee, d1, d2⟩ := (VL.out.keep T2'.b).at kL2
        obtain ⟨rfl, rfl⟩ : b2 = b1 ∧ o2 = o1 := by cases ee; exact ⟨rfl, rfl⟩
        clear ee hk2
        have HM := hide (HB.out _ (getD_mem kL2))
        generalize hr : L.getD k2 Rn.zero = r at *
        have HR := hide hr
        have T2 := hide T2'
        have x2 : (k2 : Int) < (n : Int) := by omega
        have x3 : (-(n : Int)) < turn.tmod n := by omega
        have x4 : turn.tmod n < (n : Int) := by omega
        clear hr T2'
        go_wp2
        rw [i2]
        have aw := al wc (.cells #[.int .i64 r.1, .int .i64 r.2] 27)
        have AW := hide (show Below wc.heap.size wc (wc.alloc (.cells #[.int .i64 r.1, .int .i64 r.2] 27)).drew from bt aw (drews _ _))
        clear aw
        have d3 : (wc.alloc (.cells #[.int .i64 0, .int .i64 0] 27)).cell? ⟨b2, o2 + k2 * 2, none⟩ = some (.int .i64 r.1) := ((al wc _).cell (block_lt_of_cell d1)).trans d1
        have d4 : (wc.alloc (.cells #[.int .i64 0, .int .i64 0] 27)).cell? ⟨b2, o2 + k2 * 2 + 1, none⟩ = some (.int .i64 r.2) := ((al wc _).cell (block_lt_of_cell d2)).trans d2
        go_cut [12] from 20 to 102 (fun p wx => ∃ g : Nat, p = .pointer (some ⟨g, 0, none⟩) ∧ wx.cell? ⟨g, 0, none⟩ = some (.int .i64 r.1) ∧ wx.cell? ⟨g, 1, none⟩ = some (.int .i64 r.2) ∧ (∀ y, a2 = some y → y.block ≠ g) ∧ Two w wx (some ⟨g1, 0, none⟩) a2 e1 c2 (L.take (k + 1)) (bl L X s n k))
        case first =>
          go_region
          all_goals (go_wp2; go_meet; exact ⟨_, rfl, (new_run wc r).1, (new_run wc r).2, fun y hy => Nat.ne_of_lt (T2.out.r2.lt hy), T2.out.keep AW.out⟩)
        case rest =>
          obtain ⟨g, rfl, f1, f2, ng, T3'⟩ := hcut
          have NG := hide ng
          clear ng
          have T3 := hide T3'
          clear T2 d1 d2 d3 d4 AW T3' i2 s1 s0 s2 x3 x4
          have PC := hide (show piece L X k2 = if k2 < X.length ∧ (L.getD k2 Rn.zero).1 ≤ X.getD k2 0 ∧ X.getD k2 0 < (L.getD k2 Rn.zero).2 then [(X.getD k2 0 + 1, (L.getD k2 Rn.zero).2), ((L.getD k2 Rn.zero).1, X.getD k2 0)] else [L.getD k2 Rn.zero] from rfl)
          rw [HR.out, ← NX.out] at PC
          obtain ⟨B, hB⟩ : ∃ B, decide (k2 < m ∧ r.1 ≤ X.getD k2 0 ∧ X.getD k2 0 < r.2) = B := ⟨_, rfl⟩
          have BB := hide hB
          clear hB
          go_wp2
          go_cut [80] from 20 to 102 (fun p wx => p = .bool B ∧ wx.cell? ⟨g, 0, none⟩ = some (.int .i64 r.1) ∧ wx.cell? ⟨g, 1, none⟩ = some (.int .i64 r.2) ∧ Two w wx (some ⟨g1, 0, none⟩) a2 e1 c2 (L.take (k + 1)) (bl L X s n k))
          case first =>
            by_cases y1 : k2 < m
            · obtain ⟨bx, ox, rfl, d5⟩ := (VX.out.keep T3.out.b).at (show k2 < X.length by rw [← NX.out]; exact y1)
              generalize X.getD k2 0 = x at *
              have z1 : (k2 : Int) < (m : Int) := by omega
              by_cases y2 : r.1 ≤ x
              · have z2 : decide (r.1 ≤ x) = true := decide_eq_true y2
                by_cases y3 : x < r.2
                · have z3 : decide (x < r.2) = true := decide_eq_true y3
                  have eB : B = true := by rw [← BB.out]; exact decide_eq_true ⟨y1, y2, y3⟩
                  subst eB
                  go_quiet (fail)
                  go_wp2
                  go_meet
                  exact ⟨rfl, f1, f2, T3.out.keep (drews _ _)⟩
                · have z3 : decide (x < r.2) = false := decide_eq_false y3
                  have eB : B = false := by rw [← BB.out]; exact decide_eq_false (fun h => y3 h.2.2)
                  subst eB
                  go_quiet (fail)
                  go_wp2
                  go_meet
                  exact ⟨rfl, f1, f2, T3.out.keep (drews _ _)⟩
              · have z2 : decide (r.1 ≤ x) = false := decide_eq_false y2
                have eB : B = false := by rw [← BB.out]; exact decide_eq_false (fun h => y2 h.2.1)
                subst eB
                go_quiet (fail)
                go_wp2
                go_meet
                exact ⟨rfl, f1, f2, T3.out.keep (drews _ _)⟩
            · have z1 : ¬ (k2 : Int) < (m : Int) := by omega
              have eB : B = false := by rw [← BB.out]; exact decide_eq_false (fun h => y1 h.1)
              subst eB
              go_quiet (fail)
              go_wp2
              go_meet
              exact ⟨rfl, f1, f2, T3.out.keep (drews _ _)⟩
          case rest =>
            obtain ⟨rfl, f1, f2, T3'⟩ := hcut
            clear T3
            have T4 := hide T3'
            clear T3'
            cases B with
            | true =>
              obtain ⟨y1, y2, y3⟩ := of_decide_eq_true BB.out
              rw [if_pos ⟨y1, y2, y3⟩] at PC
              obtain ⟨bx, ox, rfl, d5⟩ := (VX.out.keep T4.out.b).at (show k2 < X.length by rw [← NX.out]; exact y1)
              generalize X.getD k2 0 = x at *
              have z1 : (k2 : Int) < (m : Int) := by omega
              obtain ⟨⟨h1, h2⟩, h3, h4⟩ := HM.out
              have hw : IntKind.i64.wrap (x + 1) = x + 1 := wrapK (by omega) (by omega)
              have T5 := hide ((T4.out.keep (al wc (.cells #[.int .i64 (x + 1), .int .i64 r.2, .int .i64 r.1, .int .i64 x] 27))).keep (show Below _ _ ((wc.alloc (.cells #[.int .i64 (x + 1), .int .i64 r.2, .int .i64 r.1, .int .i64 x] 27)).drew) from ⟨rfl, rfl, rfl, Nat.le_refl _, fun _ _ => rfl⟩))
              have vn := hide (show Vs ((wc.alloc (.cells #[.int .i64 (x + 1), .int .i64 r.2, .int .i64 r.1, .int .i64 x] 27)).drew) (some ⟨wc.heap.size, 0, none⟩) [(x + 1, r.2), (r.1, x)] from vs_new2 wc (x + 1, r.2) (r.1, x))
              have NB := hide (show ¬ InA a2 bx from fun ⟨y, hy, e⟩ => by
                obtain ⟨b5, o5, e5, h5⟩ := VX.out.at (show k2 < X.length by rw [← NX.out]; exact y1)
                cases e5
                have h6 := block_lt_of_cell h5
                rcases T4.out.n2 y hy with ⟨z, hz, _⟩ | h7
                · cases hz
                · dsimp only at h6
                  omega)
              have S0 : wc.drew.cell? ⟨g, 0, none⟩ = some (.int .i64 r.1) ∧ wc.drew.cell? ⟨g, 1, none⟩ = some (.int .i64 r.2) ∧ wc.drew.cell? ⟨bx, ox + k2, none⟩ = some (.int .i64 x) := ⟨f1, f2, d5⟩
              have S2 : (wc.alloc (.cells #[.int .i64 (x + 1), .int .i64 r.2, .int .i64 r.1, .int .i64 x] 27)).drew.cell? ⟨g, 0, none⟩ = some (.int .i64 r.1) ∧ (wc.alloc (.cells #[.int .i64 (x + 1), .int .i64 r.2, .int .i64 r.1, .int .i64 x] 27)).drew.cell? ⟨g, 1, none⟩ = some (.int .i64 r.2) ∧ (wc.alloc (.cells #[.int .i64 (x + 1), .int .i64 r.2, .int .i64 r.1, .int .i64 x] 27)).drew.cell? ⟨bx, ox + k2, none⟩ = some (.int .i64 x) :=
                ⟨((al wc _).cell (block_lt_of_cell f1)).trans f1, ((al wc _).cell (block_lt_of_cell f2)).trans f2, ((al wc _).cell (block_lt_of_cell d5)).trans d5⟩
              go_wp2
              go_region_held3 (fun w' => w'.cell? ⟨g, 0, none⟩ = some (.int .i64 r.1) ∧ w'.cell? ⟨g, 1, none⟩ = some (.int .i64 r.2) ∧ w'.cell? ⟨bx, ox + k2, none⟩ = some (.int .i64 x))
                (first | with_reducible exact S0 | with_reducible exact S2 | with_reducible exact S3)
                (first | (refine step_apR rfl _ _ rfl a2 j2 c2 (bl L X s n k) (by simp [Act.eval]) HJ.out T5.out.r2 _ 2 2 [(x + 1, r.2), (r.1, x)] (by simp [Act.eval]) rfl vn.out (by simp) (by simp; omega) ?_; intro g2 d2' w1 q1 q2 q3; have T6 := hide (T5.out.symm.one q1 q2 q3).symm; have S3 := And.intro (((But.inA q3).cell (p := ⟨g, 0, none⟩) (block_lt_of_cell S2.1) (fun ⟨y, hy, e⟩ => NG.out y hy e)).trans S2.1) (And.intro (((But.inA q3).cell (p := ⟨g, 1, none⟩) (block_lt_of_cell S2.2.1) (fun ⟨y, hy, e⟩ => NG.out y hy e)).trans S2.2.1) (((But.inA q3).cell (p := ⟨bx, ox + k2, none⟩) (block_lt_of_cell S2.2.2) (NB.out)).trans S2.2.2)); clear q1 q2 q3))
              go_wp2
              go_roundw
              case rel => exact ⟨k + 1, _, _, _, _, j2 + 2, by omega, by simp, rfl, rfl, by rw [BK.out, PC.out, List.length_append, ← HJ.out]; rfl, by rw [BK.out, PC.out]; exact T6.out⟩
              case measure => simp [intOf]; omega
            | false =>
              rw [if_neg (fun h => Bool.false_ne_true (BB.out.symm.trans (decide_eq_true h)))] at PC
              obtain ⟨g2, d2', w1, hrun, q1, q2, q3⟩ := run_apR (wc.alloc (.cells #[.int .i64 r.1, .int .i64 r.2] 27)) 24 a2 j2 c2 (bl L X s n k) HJ.out (T4.out.keep (al wc _)).r2 _ 1 1 [r] rfl (vs_new1 wc r) (by simp) (by simp; omega)
              have T6 := hide ((T4.out.keep (al wc _)).symm.one q1 q2 q3).symm
              clear q1 q2 q3
              go_wp2_with (at_builtin; refine Lib.wpList_append_run _ rfl _ _ _ _ rfl _ _ rfl rfl _ _ hrun ?_)
              go_roundw
              case rel => exact ⟨k + 1, _, _, _, _, j2 + 1, by omega, by simp, rfl, rfl, by rw [BK.out, PC.out, List.length_append, ← HJ.out]; rfl, by rw [BK.out, PC.out]; exact T6.out⟩
              case measure => simp [intOf]; omega
    · obtain rfl : k = n := by omega
      have h1 := hT.r1
      have h2 := hT.r2
      have bT := hT.b
      have nz : ∀ r ∈ bl L X s k k, Nm r.1 ∧ Nm r.2 := by
        by_cases h0 : 0 < L.length
        · have := bl_nm (X := X) s HB.out h0 k
          rwa [← NL.out] at this
        · obtain rfl : k = 0 := by rw [NL.out]; omega
          intro r hr
          cases hr
      have hall : ∀ z, has (bl L X s k k) z = has L z := fun z => by have := has_all L X s z; rwa [← NL.out] at this
      have lb := bl_length L X s k k
      rw [NL.out, List.take_length] at h1
      have O1 := hide (Of_any wr a1 c1 L h1.vs (by rw [← NL.out]; omega) (fun h => by subst h; rcases h1.cases with ⟨_, x, y⟩ | ⟨_, _, x, _⟩; exact ⟨x, y⟩; cases x) HB.out)
      have O2 := hide fun (W : World) (hb : Below wr.heap.size wr W) => Of_any W a2 c2 (bl L X s k k) (h2.vs.keep hb) (by omega) (fun h => by subst h; rcases h2.cases with ⟨_, x, y⟩ | ⟨_, _, x, _⟩; exact ⟨x, y⟩; cases x) nz
      rw [← NL.out] at O1
      rw [← hj2] at O2
      have HA := hide hall
      clear h1 h2 nz hall hT
      go_wp2_with fail
      refine O1.out.mono ?_
      rintro e w1 ⟨b1, m1, p1, R1, rfl, q1, q2, q3⟩
      have O2' := hide (O2.out _ q1.w)
      have Q1 := hide q1
      have Q2 := hide q2
      clear q1 q2 q3 O1 O2 lb hj2
      go_wp2_with fail
      refine O2'.out.mono ?_
      rintro e w2 ⟨b2, m2, p2, R2, rfl, t1, t2, t3⟩
      have eR : R2 = R1 := can_unique t1.st.can Q1.out.st.can (fun x => by rw [Q2.out, t2, HA.out])
      subst eR
      have S1 := hide (Q1.out.st.keep t1.w)
      have S2 := hide t1.st
      have b02 := bt bT (bt Q1.out.w t1.w)
      have HR := hide Q2.out
      clear Q1 Q2 t1 t2 t3 O2' HA
      have K1 := hide (Same_any w2 b1 b2 m1 m2 p1 p2 R2 R2 S1.out S2.out)
      have K2 := hide fun (W : World) (hb : Below w2.heap.size w2 W) => Same_any W b2 b1 m2 m1 p2 p1 R2 R2 (S2.out.keep hb) (S1.out.keep hb)
      have K3 := hide fun (W : World) (hb : Below w2.heap.size w2 W) => Len_any W b1 m1 p1 R2 (S1.out.keep hb)
      have K4 := hide fun (W : World) (hb : Below w2.heap.size w2 W) => Len_any W b2 m2 p2 R2 (S2.out.keep hb)
      have K5 := hide fun (W : World) (hb : Below w2.heap.size w2 W) => Runs_any W b1 m1 p1 R2 (S1.out.keep hb)
      have K6 := hide fun (W : World) (hb : Below w2.heap.size w2 W) => Runs_any W b2 m2 p2 R2 (S2.out.keep hb)
      have K7 := hide fun (W : World) (hb : Below w2.heap.size w2 W) => some_any W a c L (VL.out.keep (bt b02 hb)) (by rw [← NL.out]; omega)
      have SL := S1.out.len
      obtain ⟨q, hq⟩ : ∃ q : Nat, q = R2.length := ⟨_, rfl⟩
      have NQ := hide hq
      rw [decide_eq_true (rfl : R2 = R2)] at K1 K2
      rw [← hq] at K5 K6 SL
      rw [← NL.out] at K7
      obtain ⟨v, hv⟩ : ∃ v : Nat, v = min (sz R2) mxi := ⟨_, rfl⟩
      rw [← hv] at K3 K4
      clear hv
      have hvv : ((v : Int) != (v : Int)) = false := by simp
      have hqq : ((q : Int) != (q : Int)) = false := by simp
      clear hq
      go_wp2_with fail
      refine K1.out.mono ?_
      rintro e w3 ⟨rfl, hb3⟩
      go_wp2_with fail
      refine (K2.out _ hb3).mono ?_
      rintro e w4 ⟨rfl, hb4'⟩
      have hb4 := bt hb3 hb4'
      clear hb3 hb4'
      go_wp2_with fail
      refine (K3.out _ hb4).mono ?_
      rintro e w5 ⟨rfl, hb5'⟩
      have hb5 := bt hb4 hb5'
      clear hb4 hb5'
      go_wp2_with fail
      refine (K4.out _ hb5).mono ?_
      rintro e w6 ⟨rfl, hb6'⟩
      have hb6 := bt hb5 hb6'
      clear hb5 hb6'
      go_wp2_with fail
      refine (K5.out _ hb6).mono ?_
      rintro e w7 ⟨rfl, v7, hb7'⟩
      have hb7 := bt hb6 hb7'
      go_wp2_with fail
      refine (K6.out _ hb7).mono ?_
      rintro e w8 ⟨rfl, v8, hb8'⟩
      have hb8 := bt hb7 hb8'
      have v7 := hide (v7.keep hb8').vs
      have v8 := hide v8.vs
      clear hb6 hb7 hb7' hb8' K1 K2 K3 K4 K5 K6
      have fin : ∀ (W : World), Below w2.heap.size w2 W → Below w.heap.size w W := fun W hW => bt b02 hW
      have FIN := hide fin
      clear fin
      have tail : ∀ (W : World), Below w8.heap.size w8 W → Below w2.heap.size w2 W := fun W hW => bt hb8 hW
      have TL := hide tail
      clear tail
      go_upto_region 16 with fail
      go_cut [149] from 20 to 149 (fun p wx => p = .bool false ∧ Below w8.heap.size w8 wx)
      case first =>
        by_cases h0 : q = 0
        · subst h0
          have hs : someR L = false := some_none (fun z => by rw [← HR.out, List.length_eq_zero_iff.1 NQ.out.symm]; rfl)
          rw [hs] at K7
          go_wp2_with fail
          refine (K7.out _ hb8).mono ?_
          rintro e w9 ⟨rfl, hb9⟩
          go_wp2
          go_meet
          exact ⟨rfl, hb9⟩
        · have hq0 : ((q : Int) == 0) = false := by simp; exact h0
          go_wp2
          go_meet
          exact ⟨rfl, Below.refl _ _⟩
      case rest =>
        obtain ⟨rfl, hb9⟩ := hcut
        clear hb8
        have V7 := hide (v7.out.keep hb9)
        have V8 := hide (v8.out.keep hb9)
        have B9 := hide (FIN.out _ (TL.out _ hb9))
        clear v7 v8 hb9 FIN TL K7 HR S1 S2
        go_wp2
        go_loopw [17] (fun i wx => ∃ t : Nat, t ≤ q ∧ i = .int .i64 t ∧ Below wc.heap.size wc wx) (fun i _ => q - (intOf i).toNat)
        case atStart => exact ⟨0, Nat.zero_le _, rfl, Below.refl _ _⟩
        case round =>
          obtain ⟨t, hk, rfl, hb⟩ := hrel
          by_cases hlt : t < q
          · obtain ⟨b3, o3, e3, d1, d2⟩ := (V7.out.keep hb).at (show t < R2.length by rw [← NQ.out]; exact hlt)
            obtain ⟨b4, o4, e4, d3, d4⟩ := (V8.out.keep hb).at (show t < R2.length by rw [← NQ.out]; exact hlt)
            simp only [Option.some.injEq, Addr.mk.injEq, and_true] at e3 e4
            obtain ⟨rfl, rfl⟩ := e3
            obtain ⟨rfl, rfl⟩ := e4
            rw [Nat.zero_add] at d1 d2 d3 d4
            have x1 : (t : Int) < (q : Int) := by omega
            generalize R2.getD t Rn.zero = r at *
            have hq := run_neq
            have hgd : Try.prog.eqGuardType Try.prog.depth 27 = false := by kernel_rfl
            obtain ⟨p, p'⟩ := r
            go_wp2
            go_quiet (fail)
            go_wp2
            go_roundw
            case rel => exact ⟨t + 1, by omega, by simp, bt hb (drews _ _)⟩
            case measure => simp [intOf]; omega
          · obtain rfl : t = q := by omega
            go_wp2
            go_ret
            exact ⟨rfl, bt B9.out hb⟩
end Go.Proofs.Ytcdigmhlpeeogaa
