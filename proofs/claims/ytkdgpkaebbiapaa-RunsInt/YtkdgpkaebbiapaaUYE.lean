import Derived.Test.YtkdgpkaebbiapaaUYB
import Derived.Test.YtkdgpkaebbiapaaUYD
namespace Go.Proofs.Ytkdgpkaebbiapaa
set_option linter.unusedVariables false
open Go.RowKit

/-! ### Norm -/
namespace Rf
theorem Two.put {w wx wy : World} {g : Nat} {a2 : Option Addr} {c1 c2 : Nat} {P Q P' : List Rn} (h : Two w wx (some ⟨g, 0, none⟩) a2 c1 c2 P Q) (hR : Vw wy (some ⟨g, 0, none⟩) c1 P') (hB : But (fun k => k = g) wx wy) : Two w wy (some ⟨g, 0, none⟩) a2 c1 c2 P' Q := by
  refine ⟨hR, h.r2.but hB (fun y hy e => h.ne _ y rfl hy e.symm), h.n1, h.n2, h.ne, ?_⟩
  refine ((But.ofBelow (S := fun _ => False) h.b).trans hB (fun k hk e => ?_)).below (fun _ _ h => h)
  rcases h.n1 _ rfl with ⟨z, hz, _⟩ | h2
  · cases hz
  · have h2' : w.heap.size ≤ g := h2
    omega
theorem Two.setv {w wx : World} {g : Nat} {a2 : Option Addr} {c1 c2 : Nat} {P Q : List Rn} (h : Two w wx (some ⟨g, 0, none⟩) a2 c1 c2 P Q) {i : Nat} (hi : i < P.length) (r : Rn) : Two w ((wx.setCell ⟨g, i * 2, none⟩ (.int .i64 r.1)).setCell ⟨g, i * 2 + 1, none⟩ (.int .i64 r.2)) (some ⟨g, 0, none⟩) a2 c1 c2 (P.set i r) Q :=
  h.put (h.r1.setv hi r) (((But.refl (fun k => k = g) wx).setCell (p := ⟨g, i * 2, none⟩) (fun _ => rfl) _).setCell (p := ⟨g, i * 2 + 1, none⟩) (fun _ => rfl) _)
theorem Two.setHi {w wx : World} {g : Nat} {a2 : Option Addr} {c1 c2 : Nat} {P Q : List Rn} (h : Two w wx (some ⟨g, 0, none⟩) a2 c1 c2 P Q) {i : Nat} (hi : i < P.length) (y : Int) : Two w (wx.setCell ⟨g, i * 2 + 1, none⟩ (.int .i64 y)) (some ⟨g, 0, none⟩) a2 c1 c2 (P.set i ((P.getD i Rn.zero).1, y)) Q :=
  h.put (h.r1.setHi hi y) ((But.refl (fun k => k = g) wx).setCell (p := ⟨g, i * 2 + 1, none⟩) (fun _ => rfl) _)
theorem Vw.one {w : World} {g cap : Nat} {L : List Rn} (h : Vw w (some ⟨g, 0, none⟩) cap L) {i : Nat} (hi : i < L.length) (v : Value) : (w.setCell ⟨g, i * 2, none⟩ v).cell? ⟨g, i * 2 + 1, none⟩ = some (.int .i64 (L.getD i Rn.zero).2) ∧ (w.setCell ⟨g, i * 2, none⟩ v).frozen? ⟨g, i * 2 + 1, none⟩ = false := by
  rcases h.cases with ⟨h0, _⟩ | ⟨g', Y, h0, hg, h1, h2, h3⟩
  · cases h0
  · simp only [Option.some.injEq, Addr.mk.injEq, and_true] at h0
    subst h0
    have hl := rc_length L
    have hs := hg.set (i * 2) v
    refine ⟨?_, frozen_of_row _ _ _ _ _ hs⟩
    rw [cell_of_row _ _ _ _ _ _ hs, List.getElem?_toArray, List.getElem?_set_ne (by omega), List.getElem?_append_left (by omega)]
    exact (rc_get L i hi).2
theorem Two.short {w wx : World} {a1 a2 : Option Addr} {c1 c2 : Nat} {P Q : List Rn} (h : Two w wx a1 a2 c1 c2 P Q) (h0 : P ≠ []) : Two w wx a1 a2 c1 c2 P.dropLast Q := ⟨h.r1.shorter h0, h.r2, h.n1, h.n2, h.ne, h.b⟩
end Rf
theorem set_last {O P : List Rn} {l v : Rn} {m : Nat} (e : O = P ++ [l]) (hm : P.length = m) : O.set m v = P ++ [v] := by
  rw [e, List.set_append_right _ _ (by omega), hm, Nat.sub_self]
  rfl
theorem filter_next {L : List Rn} {k : Nat} (hk : k < L.length) : (L.take (k + 1)).filter fit = (L.take k).filter fit ++ (if fit (L.getD k Rn.zero) then [L.getD k Rn.zero] else []) := by
  rw [take_next L Rn.zero hk, List.filter_append, List.filter_cons]
  rfl
def lenV : Value → Nat
  | .slice _ n _ => n
  | _ => 0
set_option maxHeartbeats 4000000 in
set_option maxRecDepth 20000 in
theorem Norm_any (w : World) (a : Option Addr) (c : Nat) (L : List Rn) (hV : Rf.Vs w a L) (hb : ∀ r ∈ L, N64 r.1 ∧ N64 r.2) (hl : L.length ≤ 11000000000000) :
    Calls Try.prog 40 #[.slice a L.length c] w fun e w' => ∃ a' cap' R, e = .returned (.slice a' R.length cap') ∧ Rf.Vw w' a' cap' R ∧ New w none a' ∧ Can R ∧ (∀ r ∈ R, N64 r.1 ∧ N64 r.2) ∧ (∀ z, has R z = has L z) ∧ R.length ≤ L.length ∧ Below w.heap.size w w' := by
  obtain ⟨n, hn⟩ : ∃ n : Nat, n = L.length := ⟨_, rfl⟩
  have NL := hide hn
  have VL := hide hV
  have HB := hide hb
  rw [← hn] at hl ⊢
  clear hn hV hb
  go_enter Try.func40, Try.ntmps40
  go_wp2
  go_loopw [3, 4] (fun p i wx => ∃ (k : Nat) (a1 : Option Addr) (c1 n1 : Nat), k ≤ n ∧ i = .int .i64 k ∧ p = .slice a1 n1 c1 ∧ n1 = ((L.take k).filter fit).length ∧ Rf.Two w wx a1 none c1 0 ((L.take k).filter fit) []) (fun _ i _ => n - (intOf i).toNat)
  case atStart => exact ⟨0, none, 0, 0, Nat.zero_le _, rfl, rfl, rfl, ⟨Rf.Vw.nil _, Rf.Vw.nil _, New.none _ _, New.none _ _, fun x y hx _ => by (cases hx), Below.refl _ _⟩⟩
  case round =>
    obtain ⟨k, a1, c1, n1, hk, rfl, rfl, hn1, hT⟩ := hrel
    have N1 := hide hn1
    have T := hide hT
    have hbw := hT.b
    have f1 : n1 ≤ k := by rw [hn1]; exact Nat.le_trans (List.length_filter_le _ _) (by rw [List.length_take]; omega)
    clear hn1 hT
    by_cases hlt : k < n
    · have hkL : k < L.length := by rw [← NL.out]; exact hlt
      obtain ⟨b1, o1, rfl, d1, d2⟩ := (VL.out.keep hbw).at hkL
      have FN := hide (filter_next hkL)
      generalize L.getD k Rn.zero = r at *
      have RR := hide (Prod.eta r)
      obtain ⟨x, y⟩ := r
      simp only at d1 d2
      by_cases h1 : x ≤ y
      · have hf : fit (x, y) = true := decide_eq_true h1
        have FN := hide (FN.out.trans (by rw [hf]; rfl : _ = (L.take k).filter fit ++ [(x, y)]))
        clear hf
        go_wp2
        go_quiet (fail)
        obtain ⟨W5, hW5⟩ : ∃ W5, wr.drewN nq = W5 := ⟨_, rfl⟩
        have T5 := T.out.keep (drews wr nq)
        have e1 : W5.cell? ⟨b1, o1 + k * 2, none⟩ = some (.int .i64 x) := by rw [← hW5]; exact d1
        have e2 : W5.cell? ⟨b1, o1 + k * 2 + 1, none⟩ = some (.int .i64 y) := by rw [← hW5]; exact d2
        rw [hW5] at T5 ⊢
        clear hW5
        have T6 := T5.keep (al W5 (.cells #[.int .i64 x, .int .i64 y] 79))
        obtain ⟨g, cap', w1, hrun, v1, v2, v3⟩ := Rf.run_apR (W5.alloc (.cells #[.int .i64 x, .int .i64 y] 79)) 35 a1 n1 c1 _ N1.out T6.r1 (some ⟨W5.heap.size, 0, none⟩) 1 1 [(x, y)] rfl (Rf.vs_new1 W5 (x, y)) (by simp) (by rw [← N1.out]; simp; omega)
        have T7 := hide (T6.one v1 v2 v3)
        clear T6 T5 v1 v2 v3 T
        go_wp2_with (at_builtin; refine Lib.wpList_append_run _ rfl _ _ _ _ rfl _ _ rfl rfl _ _ hrun ?_)
        go_roundw
        case rel => exact ⟨k + 1, _, cap', n1 + 1, by omega, by simp, rfl, by rw [FN.out, List.length_append, ← N1.out]; rfl, by rw [FN.out]; exact T7.out⟩
        case measure => simp [intOf]; omega
      · have hf : fit (x, y) = false := decide_eq_false h1
        have FN := hide (FN.out.trans (by rw [hf]; simp : _ = (L.take k).filter fit))
        clear hf
        go_wp2
        go_quiet (fail)
        go_wp2
        go_roundw
        case rel => exact ⟨k + 1, a1, c1, n1, by omega, by simp, rfl, by rw [FN.out]; exact N1.out, by rw [FN.out]; exact T.out.keep (drews _ _)⟩
        case measure => simp [intOf]; omega
    · obtain rfl : k = n := by omega
      have e1 : L.take k = L := by rw [NL.out, List.take_length]
      rw [e1] at N1 T
      have hS := hide (Nst.start HB.out)
      clear e1
      go_wp2
      go_loopw [3, 5] (fun p q wx => ∃ (I O : List Rn) (a1 a2 : Option Addr) (c1 c2 n1 n2 : Nat), p = .slice a1 n1 c1 ∧ q = .slice a2 n2 c2 ∧ n1 = I.length ∧ n2 = O.length ∧ Rf.Two w wx a1 a2 c1 c2 I O ∧ Nst L I O) (fun p _ _ => lenV p)
      case atStart => exact ⟨_, [], a1, none, c1, 0, n1, 0, rfl, rfl, N1.out, rfl, T.out, hS.out⟩
      case round =>
        obtain ⟨I, O, a1, a2, c1, c2, n1, n2, rfl, rfl, hn1, hn2, hT, hN⟩ := hrel
        clear T N1 hS f1
        have N1 := hide hn1
        have N2 := hide hn2
        have T := hide hT
        have NS := hide hN
        have l1 : n1 + n2 ≤ k := by rw [hn1, hn2, NL.out]; have := hN.len; omega
        obtain ⟨g1, g2⟩ := hT.r1.len
        rw [← hn1] at g1
        unfold maxLen at g2
        clear hn1 hn2 hT hN
        by_cases h0 : 0 < n1
        · have hI : I ≠ [] := by intro e; rw [N1.out, e] at h0; simp at h0
          obtain ⟨ga, rfl⟩ := T.out.r1.addr hI
          have T0 := hide T.out
          go_wp2
          go_loopw [6, 7] (fun p i wx => ∃ kk j : Nat, p = .int .i64 kk ∧ i = .int .i64 j ∧ kk < n1 ∧ j ≤ n1 ∧ (∀ t, t < j → (I.getD kk Rn.zero).1 ≤ (I.getD t Rn.zero).1) ∧ Rf.Two w wx (some ⟨ga, 0, none⟩) a2 c1 c2 I O) (fun _ i _ => n1 - (intOf i).toNat)
          case atStart => exact ⟨0, 0, rfl, rfl, h0, Nat.zero_le _, fun t ht => by omega, T0.out⟩
          case round =>
            obtain ⟨kk, j, rfl, rfl, hkk, hj, hmin, hT⟩ := hrel
            clear T0 T
            have T := hide hT
            have HM := hide hmin
            clear hmin
            by_cases hlt : j < n1
            · have d1 := (hT.r1.cell (i := j) (by rw [← N1.out]; exact hlt)).1
              have d2 := (hT.r1.cell (i := kk) (by rw [← N1.out]; exact hkk)).1
              clear hT
              generalize hxj : (I.getD j Rn.zero).1 = xj at *
              generalize hxk : (I.getD kk Rn.zero).1 = xk at *
              have XJ := hide hxj
              have XK := hide hxk
              clear hxj hxk
              by_cases h1 : xj < xk
              · go_wp2
                go_quiet (fail)
                go_wp2
                go_roundw
                case rel => exact ⟨j, j + 1, rfl, by simp, hlt, by omega, fun t ht => by
                    rw [XJ.out]
                    by_cases e : t = j
                    · rw [e, XJ.out]; exact Int.le_refl _
                    · have := HM.out t (by omega)
                      omega, T.out.keep (drews _ _)⟩
                case measure => simp [intOf]; omega
              · go_wp2
                go_quiet (fail)
                go_wp2
                go_roundw
                case rel => exact ⟨kk, j + 1, rfl, by simp, hkk, by omega, fun t ht => by
                    rw [XK.out]
                    by_cases e : t = j
                    · rw [e, XJ.out]; omega
                    · have := HM.out t (by omega)
                      omega, T.out.keep (drews _ _)⟩
                case measure => simp [intOf]; omega
            · obtain rfl : j = n1 := by omega
              have hkI : kk < I.length := by rw [← N1.out]; exact hkk
              have HA := hide (show ∀ r ∈ I, (I.getD kk Rn.zero).1 ≤ r.1 from fun r hr => by
                obtain ⟨t, ht, e⟩ := List.mem_iff_getElem.1 hr
                have := HM.out t (by rw [N1.out]; exact ht)
                rw [List.getD_eq_getElem?_getD (l := I) (i := t), List.getElem?_eq_getElem ht, e] at this
                exact this)
              clear HM
              obtain ⟨mi, hmi⟩ : ∃ mi : Nat, mi + 1 = j := ⟨j - 1, by omega⟩
              have i1 : (j : Int) - 1 = (mi : Int) := by omega
              have mI : mi < I.length := by rw [← N1.out]; omega
              have mEq := hide (show mi = I.length - 1 by rw [← N1.out]; omega)
              have c1' := hT.r1.cell hkI
              have c2' := hT.r1.cell mI
              generalize hr : I.getD kk Rn.zero = r at *
              generalize hs : I.getD mi Rn.zero = s at *
              have HR := hide hr
              have HSs := hide hs
              obtain ⟨x, y⟩ := r
              obtain ⟨p, q⟩ := s
              simp only at c1' c2'
              obtain ⟨cx, cy⟩ := c1'
              obtain ⟨cp, cq⟩ := c2'
              have aw := al wr (.cells #[.int .i64 x, .int .i64 y] 79)
              have T1 := hT.keep aw
              have V1 := Rf.new_run wr (x, y)
              obtain ⟨v1, v2⟩ := V1
              have dp := (aw.cell (p := ⟨ga, mi * 2, none⟩) (block_lt_of_cell cp)).trans cp
              have dq := (aw.cell (p := ⟨ga, mi * 2 + 1, none⟩) (block_lt_of_cell cq)).trans cq
              have fp := T1.r1.thaw (kk * 2)
              have fq := T1.r1.thaw (kk * 2 + 1)
              have dx := (aw.cell (p := ⟨ga, kk * 2, none⟩) (block_lt_of_cell cx)).trans cx
              have m1 : mi < j := by omega
              have two := hT.r1.one hkI (.int .i64 p)
              rw [hr] at two
              simp only at two
              obtain ⟨dy, fy⟩ := two
              have a2w := al (wr.setCell ⟨ga, kk * 2, none⟩ (.int .i64 p)) (.cells #[.int .i64 x, .int .i64 y] 79)
              have fy := (a2w.frozen (p := ⟨ga, kk * 2 + 1, none⟩) (block_lt_of_cell dy)).trans fy
              have dy := (a2w.cell (p := ⟨ga, kk * 2 + 1, none⟩) (block_lt_of_cell dy)).trans dy
              have HT1 := hide ((hT.setv hkI (p, q)).keep (al _ (.cells #[.int .i64 x, .int .i64 y] 79)))
              have z1 := Rf.new_run ((wr.setCell ⟨ga, kk * 2, none⟩ (.int .i64 p)).setCell ⟨ga, kk * 2 + 1, none⟩ (.int .i64 q)) (x, y)
              have z2 : ((wr.setCell ⟨ga, kk * 2, none⟩ (.int .i64 p)).setCell ⟨ga, kk * 2 + 1, none⟩ (.int .i64 q)).heap.size = wr.heap.size := by simp
              rw [z2] at z1
              have z1 := hide z1
              clear a2w z2
              clear hr hs hT T1 T aw mI hkI hmi
              have awl : ga < wr.heap.size := block_lt_of_cell cp
              have oP := outK_perm (I := I) (k := kk) (by rw [← N1.out]; exact hkk)
              have LO := hide (show mi = (outK I kk).length by have := oP.2; rw [← N1.out] at this; omega)
              clear oP
              go_wp2_with fail
              obtain ⟨W6, hW6⟩ : ∃ W6, ((wr.setCell ⟨ga, kk * 2, none⟩ (.int .i64 p)).setCell ⟨ga, kk * 2 + 1, none⟩ (.int .i64 q)).alloc (.cells #[.int .i64 x, .int .i64 y] 79) = W6 := ⟨_, rfl⟩
              rw [hW6] at z1
              obtain ⟨k1, k2⟩ := z1.out
              rw [hW6] at HT1 ⊢
              have T2 := hide (HT1.out.short (by intro e; have := congrArg List.length e; rw [List.length_set, ← N1.out] at this; simp at this; omega))
              have T2 : Hid (Rf.Two w W6 (some ⟨ga, 0, none⟩) a2 c1 c2 (outK I kk) O) := hide (by
                have t := T2.out
                unfold outK
                rw [← mEq.out, HSs.out]
                exact t)
              have APP := hide (show (∀ o ∈ O, o.2 + 1 < x) → Nst L (outK I kk) (O ++ [(x, y)]) from fun hO => by
                have t := NS.out.app (k := kk) (by rw [← N1.out]; exact hkk) (by rw [HR.out]; exact HA.out) (by rw [HR.out]; exact hO)
                rw [HR.out] at t
                exact t)
              have MRG := hide (show ∀ Pp l, O = Pp ++ [l] → x ≤ l.2 + 1 → Nst L (outK I kk) (Pp ++ [(l.1, max l.2 y)]) from fun Pp l e hx => by
                have t := NS.out
                rw [e] at t
                have t := t.mrg (k := kk) (by rw [← N1.out]; exact hkk) (by rw [HR.out]; exact HA.out) (by rw [HR.out]; exact hx)
                rw [HR.out] at t
                exact t)
              have CO := hide NS.out.can
              have XB := hide (show N64 x by have t := (NS.out.ne _ (getD_mem (L := I) (i := kk) (by rw [← N1.out]; exact hkk))).2.1; rw [HR.out] at t; exact t)
              have BO := hide NS.out.bnd
              clear HT1 hW6 z1 v1 v2 dp dq dx dy fy fp fq cx cy cp cq awl NS HA HR HSs hI mEq
              generalize wr.heap.size = bx at *
              by_cases z0 : 0 < n2
              · have hO : O ≠ [] := by intro e; rw [N2.out, e] at z0; simp at z0
                obtain ⟨gb, rfl⟩ := T2.out.r2.addr hO
                obtain ⟨mo, hmo⟩ : ∃ mo : Nat, mo + 1 = n2 := ⟨n2 - 1, by omega⟩
                have i2 : (n2 : Int) - 1 = (mo : Int) := by omega
                have m2 : mo < n2 := by omega
                have z1 : (0 : Int) < (n2 : Int) := by omega
                have z2 : decide (0 < n2) = true := decide_eq_true z0
                have z3 : decide ((0 : Int) < (n2 : Int)) = true := decide_eq_true z1
                have moL : mo < O.length := by rw [← N2.out]; omega
                obtain ⟨Pp, hPp, lPp⟩ := last_split (I := O) (by rw [← N2.out]; exact z0)
                rw [← N2.out, show n2 - 1 = mo by omega] at hPp
                have k3 := (T2.out.r2.cell moL).2
                generalize hll : O.getD mo Rn.zero = l at *
                have HLl := hide hll
                have bl := BO.out l (by rw [hPp]; simp)
                obtain ⟨l1', h⟩ := l
                simp only at k3 bl
                obtain ⟨_, ⟨b5, b6⟩⟩ := bl
                have OE := hide hPp
                have LP := hide (show Pp.length + 1 = n2 by rw [lPp, ← N2.out])
                have SL := hide (show ∀ v, O.set mo v = Pp ++ [v] from fun v => set_last OE.out (by have := LP.out; omega))
                have MR := hide (MRG.out Pp (l1', h) OE.out)
                have AP := hide (show h + 1 < x → ∀ o ∈ O, o.2 + 1 < x from fun hx o ho => by
                  rw [OE.out] at ho
                  rcases List.mem_append.1 ho with ho | ho
                  · have pw := CO.out.2
                    rw [OE.out, List.pairwise_append] at pw
                    have := pw.2.2 o ho (l1', h) (by simp)
                    have t := CO.out.1 (l1', h) (by rw [OE.out]; simp)
                    simp only at this t
                    omega
                  · rw [List.mem_singleton.1 ho]
                    exact hx)
                clear hPp lPp hll hmo MRG hO
                by_cases hmx : h = 9223372036854775807
                · subst hmx
                  have x9 : x ≤ 9223372036854775807 + 1 := by have := XB.out.2; omega
                  go_quiet (fail)
                  obtain ⟨W5, hW5⟩ : ∃ W5, W6.drewN nq = W5 := ⟨_, rfl⟩
                  have T5 := T2.out.keep (drews W6 nq)
                  have x1 : W5.cell? ⟨bx, 0, none⟩ = some (.int .i64 x) := by rw [← hW5]; exact k1
                  have x2 : W5.cell? ⟨bx, 1, none⟩ = some (.int .i64 y) := by rw [← hW5]; exact k2
                  have x3 : W5.cell? ⟨gb, mo * 2 + 1, none⟩ = some (.int .i64 9223372036854775807) := by rw [← hW5]; exact k3
                  rw [hW5] at T5 ⊢
                  clear hW5
                  by_cases hy : 9223372036854775807 < y
                  · have x4 := T5.r2.thaw (mo * 2 + 1)
                    have T6 := hide T5
                    clear T5
                    go_wp2
                    go_quiet (fail)
                    go_wp2
                    go_roundw
                    case rel => exact ⟨outK I kk, Pp ++ [(l1', max 9223372036854775807 y)], _, _, c1, c2, mi, n2, rfl, rfl, LO.out, by rw [List.length_append]; exact LP.out.symm, by rw [Int.max_eq_right (by omega)]; have t := ((T6.out.keep (drews W5 nq)).symm.setHi moL y).symm; rw [SL.out, HLl.out] at t; exact t, MR.out (x9)⟩
                    case measure => simp [lenV]; omega
                  · have T6 := hide T5
                    clear T5
                    go_wp2
                    go_quiet (fail)
                    go_wp2
                    go_roundw
                    case rel => exact ⟨outK I kk, Pp ++ [(l1', max 9223372036854775807 y)], _, _, c1, c2, mi, n2, rfl, rfl, LO.out, by rw [List.length_append]; exact LP.out.symm, by rw [Int.max_eq_left (by omega), ← OE.out]; exact T6.out.keep (drews _ _), MR.out (x9)⟩
                    case measure => simp [lenV]; omega
                · have q1 : decide (h = 9223372036854775807) = false := decide_eq_false hmx
                  have q1b : (h == 9223372036854775807) = false := by simp [hmx]
                  have q1d : h < 9223372036854775807 := by omega
                  have q2 : IntKind.i64.wrap (h + 1) = h + 1 := wrapI (by omega) (by omega)
                  have q3 : wrap64 (h + 1) = h + 1 := by unfold wrap64; omega
                  by_cases hle : x ≤ h + 1
                  · have q4 : decide (x ≤ h + 1) = true := decide_eq_true hle
                    go_quiet (fail)
                    obtain ⟨W5, hW5⟩ : ∃ W5, W6.drewN nq = W5 := ⟨_, rfl⟩
                    have T5 := T2.out.keep (drews W6 nq)
                    have x1 : W5.cell? ⟨bx, 0, none⟩ = some (.int .i64 x) := by rw [← hW5]; exact k1
                    have x2 : W5.cell? ⟨bx, 1, none⟩ = some (.int .i64 y) := by rw [← hW5]; exact k2
                    have x3 : W5.cell? ⟨gb, mo * 2 + 1, none⟩ = some (.int .i64 h) := by rw [← hW5]; exact k3
                    rw [hW5] at T5 ⊢
                    clear hW5
                    by_cases hy : h < y
                    · have x4 := T5.r2.thaw (mo * 2 + 1)
                      have T6 := hide T5
                      clear T5
                      go_wp2
                      go_quiet (fail)
                      go_wp2
                      go_roundw
                      case rel => exact ⟨outK I kk, Pp ++ [(l1', max h y)], _, _, c1, c2, mi, n2, rfl, rfl, LO.out, by rw [List.length_append]; exact LP.out.symm, by rw [Int.max_eq_right (by omega)]; have t := ((T6.out.keep (drews W5 nq)).symm.setHi moL y).symm; rw [SL.out, HLl.out] at t; exact t, MR.out (hle)⟩
                      case measure => simp [lenV]; omega
                    · have T6 := hide T5
                      clear T5
                      go_wp2
                      go_quiet (fail)
                      go_wp2
                      go_roundw
                      case rel => exact ⟨outK I kk, Pp ++ [(l1', max h y)], _, _, c1, c2, mi, n2, rfl, rfl, LO.out, by rw [List.length_append]; exact LP.out.symm, by rw [Int.max_eq_left (by omega), ← OE.out]; exact T6.out.keep (drews _ _), MR.out (hle)⟩
                      case measure => simp [lenV]; omega
                  · have q4 : decide (x ≤ h + 1) = false := decide_eq_false hle
                    go_quiet (fail)
                    obtain ⟨W5, hW5⟩ : ∃ W5, W6.drewN nq = W5 := ⟨_, rfl⟩
                    have T5 := T2.out.keep (drews W6 nq)
                    have x1 : W5.cell? ⟨bx, 0, none⟩ = some (.int .i64 x) := by rw [← hW5]; exact k1
                    have x2 : W5.cell? ⟨bx, 1, none⟩ = some (.int .i64 y) := by rw [← hW5]; exact k2
                    rw [hW5] at T5 ⊢
                    clear hW5
                    have T6 := T5.keep (al W5 (.cells #[.int .i64 x, .int .i64 y] 79))
                    obtain ⟨g, cap', w1, hrun, v1, v2, v3⟩ := Rf.run_apR (W5.alloc (.cells #[.int .i64 x, .int .i64 y] 79)) 35 (some ⟨gb, 0, none⟩) n2 c2 O N2.out T6.r2 (some ⟨W5.heap.size, 0, none⟩) 1 1 [(x, y)] rfl (Rf.vs_new1 W5 (x, y)) (by simp) (by rw [← N2.out]; simp; omega)
                    have T7 := hide ((T6.symm.one v1 v2 v3).symm)
                    clear T6 T5 v1 v2 v3
                    go_wp2_with (at_builtin; refine Lib.wpList_append_run _ rfl _ _ _ _ rfl _ _ rfl rfl _ _ hrun ?_)
                    go_roundw
                    case rel => exact ⟨outK I kk, O ++ [(x, y)], _, _, c1, cap', mi, n2 + 1, rfl, rfl, LO.out, by rw [List.length_append, ← N2.out]; rfl, T7.out, APP.out (AP.out (by omega))⟩
                    case measure => simp [lenV]; omega
              · obtain rfl : n2 = 0 := by omega
                have hO : O = [] := List.length_eq_zero_iff.1 N2.out.symm
                have HO := hide hO
                clear hO
                go_quiet (fail)
                obtain ⟨W5, hW5⟩ : ∃ W5, W6.drewN nq = W5 := ⟨_, rfl⟩
                have T5 := T2.out.keep (drews W6 nq)
                have x1 : W5.cell? ⟨bx, 0, none⟩ = some (.int .i64 x) := by rw [← hW5]; exact k1
                have x2 : W5.cell? ⟨bx, 1, none⟩ = some (.int .i64 y) := by rw [← hW5]; exact k2
                rw [hW5] at T5 ⊢
                clear hW5
                have T6 := T5.keep (al W5 (.cells #[.int .i64 x, .int .i64 y] 79))
                obtain ⟨g, cap', w1, hrun, v1, v2, v3⟩ := Rf.run_apR (W5.alloc (.cells #[.int .i64 x, .int .i64 y] 79)) 35 a2 0 c2 O N2.out T6.r2 (some ⟨W5.heap.size, 0, none⟩) 1 1 [(x, y)] rfl (Rf.vs_new1 W5 (x, y)) (by simp) (by rw [HO.out]; simp)
                have T7 := hide ((T6.symm.one v1 v2 v3).symm)
                clear T6 T5 v1 v2 v3
                go_wp2_with (at_builtin; refine Lib.wpList_append_run _ rfl _ _ _ _ rfl _ _ rfl rfl _ _ hrun ?_)
                go_roundw
                case rel => exact ⟨outK I kk, O ++ [(x, y)], _, _, c1, cap', mi, 0 + 1, rfl, rfl, LO.out, by rw [List.length_append, ← N2.out]; rfl, T7.out, APP.out (fun o ho => by (rw [HO.out] at ho; cases ho))⟩
                case measure => simp [lenV]; omega
        · have HI := hide (show I = [] from List.length_eq_zero_iff.1 (by rw [← N1.out]; omega))
          obtain rfl : n1 = 0 := by omega
          go_wp2
          go_ret
          refine ⟨a2, c2, O, by rw [← N2.out]; rfl, T.out.r2, T.out.n2, NS.out.can, NS.out.bnd, fun z => ?_, by rw [NL.out]; have := NS.out.len; omega, T.out.b⟩
          have := NS.out.has z
          rw [HI.out, has_nil, Bool.or_false] at this
          exact this
end Go.Proofs.Ytkdgpkaebbiapaa
