import Derived.Test.YtlneomgjjkfnoabGreatPM
import Derived.Test.YtlneomgjjkfnoabGreatPOE
namespace Go.Proofs.YtlneomgjjkfnoabGreat
open Go.RowKit

theorem numV_at (l : List Nat) (i n : Nat) : numV ((l.drop i).take (n + 1)) = l.getD i 0 + 256 * numV ((l.drop (i + 1)).take n) := by
  by_cases h : i < l.length
  · rw [List.drop_eq_getElem_cons h, List.take_succ_cons, numV]
    simp [h]
  · rw [List.drop_eq_nil_of_le (by omega), List.drop_eq_nil_of_le (by omega)]
    simp [numV, h]
theorem numV_mono (l : List Nat) (i k : Nat) : ∀ j, j ≤ k → numV ((l.drop (i + j)).take (k - j)) ≤ numV ((l.drop i).take k)
  | 0, _ => Nat.le_refl _
  | j + 1, h => by
    have h1 := numV_mono l i k j (by omega)
    have h2 := numV_at l (i + j) (k - (j + 1))
    rw [show k - (j + 1) + 1 = k - j by omega] at h2
    rw [show i + (j + 1) = i + j + 1 by omega]
    omega
theorem take_at (l : List Nat) (i n : Nat) : (l.drop i).take (n + 1) = (l.drop i).take n ++ (if i + n < l.length then [l.getD (i + n) 0] else []) := by
  by_cases h : i + n < l.length
  · rw [if_pos h, List.take_succ_eq_append_getElem (by rw [List.length_drop]; omega)]
    simp [h]
  · rw [if_neg h, List.append_nil, List.take_of_length_le (by rw [List.length_drop]; omega), List.take_of_length_le (by rw [List.length_drop]; omega)]
theorem numV_take_lt {l : List Nat} (h : ∀ x ∈ l, x < 256) (i k : Nat) : numV ((l.drop i).take k) < 256 ^ k := by
  have h1 := numV_lt (l := (l.drop i).take k) fun x hx => h x (List.mem_of_mem_drop (List.mem_of_mem_take hx))
  exact Nat.lt_of_lt_of_le h1 (Nat.pow_le_pow_right (by decide) (by rw [List.length_take]; omega))
theorem wsum {a b : Nat} (h : a + b < 9223372036854775808) : wrap64 ((a : Int) + (b : Int)) = (a : Int) + (b : Int) := by unfold wrap64; omega
theorem wsub1 {j : Nat} (h : j < 9223372036854775808) : wrap64 ((j : Int) - 1) = (j : Int) - 1 := by unfold wrap64; omega
theorem wmac {X c Y : Nat} (h : Y = c + 256 * X) : (X : Int) * 256 + (c : Int) = (Y : Int) := by omega
theorem wmac0 {X Y : Nat} (h : Y = 0 + 256 * X) : (X : Int) * 256 = (Y : Int) := by omega
set_option maxHeartbeats 400000 in
theorem number_any (w : World) (a : Option Addr) (n cap : Nat) (l : List Nat) (hB : Bs w a l) (hn : n = l.length) (i k : Nat) (hk : k ≤ 8) (hi : i ≤ 1000000) (hl : l.length ≤ 1048576) (hv : numV ((l.drop i).take k) < 9223372036854775808) :
    Calls Tryz.prog 53 #[.slice a n cap, .int .i64 (i : Int), .int .i64 (k : Int)] w fun e w' => e = .returned (.int .i64 ((numV ((l.drop i).take k) : Nat) : Int)) ∧ w' = w := by
  subst hn
  have HM := hide (numV_mono l i k)
  have HA := hide (numV_at l)
  have HB := hide fun (j : Nat) (hj : j < l.length) => hB.at hj
  have H8 := hide fun (j : Nat) (hj : j < l.length) => hB.1 _ (show l.getD j 0 ∈ l by simp [hj])
  have HZ := hide fun (j : Nat) (hj : ¬ j < l.length) => (show l.getD j 0 = 0 by simp [hj])
  clear hB
  have hk1 := wsub1 (j := k) (by omega)
  go_enter Tryz.func53, Tryz.ntmps53
  go_wp2
  go_loopw [7, 8] (fun x y wx => ∃ j : Nat, j ≤ k ∧ y = .int .i64 ((j : Int) - 1) ∧ x = .int .i64 ((numV ((l.drop (i + j)).take (k - j)) : Nat) : Int) ∧ wx = w) (fun _ y _ => (intOf y + 1).toNat)
  case atStart => exact ⟨k, Nat.le_refl _, rfl, by simp [numV], rfl⟩
  case round =>
    clear hk1
    obtain ⟨j, hj, rfl, rfl, rfl⟩ := hrel
    cases j with
    | zero =>
      go_wp2
      go_ret
      exact ⟨rfl, rfl⟩
    | succ j =>
      have e0 : (((j + 1 : Nat) : Int) - 1) = (j : Int) := by omega
      rw [e0]
      have hge : (0 : Int) ≤ (j : Int) := by omega
      have h1 := HM.out j (by omega)
      have h2 := HA.out (i + j) (k - (j + 1))
      rw [show k - (j + 1) + 1 = k - j by omega] at h2
      rw [show i + (j + 1) = i + j + 1 by omega]
      generalize numV ((l.drop (i + j + 1)).take (k - (j + 1))) = X at *
      generalize hY : numV ((l.drop (i + j)).take (k - j)) = Y at *
      have HY := hide hY
      clear hY
      have hjk : j ≤ k := by omega
      have hyl : Y < 9223372036854775808 := by omega
      have hxl : X * 256 < 9223372036854775808 := by omega
      have hij : i + j < 9223372036854775808 := by omega
      by_cases hlt : i + j < l.length
      · have hlti : (i : Int) + (j : Int) < (l.length : Int) := by omega
        have h8 := H8.out _ hlt
        obtain ⟨bk, off, rfl, hc⟩ := HB.out _ hlt
        generalize l.getD (i + j) 0 = c at *
        have E5 := hide (wmac h2)
        clear h1 h2
        go_wp2
        go_roundw
        case rel => exact ⟨j, hjk, rfl, by rw [HY.out, E5.out], by first | rfl | trivial⟩
        case measure => simp [intOf]
      · have hlti : decide ((i : Int) + (j : Int) < (l.length : Int)) = false := by simp; omega
        have hz := HZ.out _ hlt
        rw [hz] at h2
        have E5 := hide (wmac0 h2)
        clear h1 h2
        go_wp2
        go_roundw
        case rel => exact ⟨j, hjk, rfl, by rw [HY.out, E5.out], by first | rfl | trivial⟩
        case measure => simp [intOf]
set_option maxHeartbeats 400000 in
theorem piece_any (w : World) (a : Option Addr) (n cap : Nat) (l : List Nat) (hB : Bs w a l) (hn : n = l.length) (i k : Nat) (hk : k ≤ 1048576) (hi : i ≤ 1000000) (hl : l.length ≤ 1048576) :
    Calls Tryz.prog 78 #[.slice a n cap, .int .i64 (i : Int), .int .i64 (k : Int)] w fun e w' => ∃ a' c', e = .returned (.slice a' ((l.drop i).take k).length c') ∧ Own w w' a' c' ((l.drop i).take k) := by
  subst hn
  have HA := hide (take_at l i)
  have HB := hide fun (w1 : World) (hb : Below w.heap.size w w1) (j : Nat) (hj : j < l.length) => (hB.keep hb).at hj
  have HL := hide fun (j : Nat) => (show ((l.drop i).take j).length ≤ j from by rw [List.length_take]; omega)
  clear hB
  go_enter Tryz.func78, Tryz.ntmps78
  go_wp2
  go_loopw [7, 8] (fun o y wx => ∃ (j : Nat) (aj : Option Addr) (cj : Nat), j ≤ k ∧ y = .int .i64 j ∧ o = .slice aj ((l.drop i).take j).length cj ∧ Own w wx aj cj ((l.drop i).take j)) (fun _ y _ => k - (intOf y).toNat)
  case atStart => exact ⟨0, some ⟨w.heap.size, 0, none⟩, 0, Nat.zero_le _, rfl, rfl, by simpa using ⟨Rw.mk (heap_alloc_new _ _) (Nat.le_refl _) (by decide) rfl rfl, fun x hx => .inr (by cases hx; exact Nat.le_refl _), al _ _⟩⟩
  case round =>
    obtain ⟨j, aj, cj, hj, rfl, rfl, hO⟩ := hrel
    have O0 := hide hO
    clear hO
    by_cases hlt : j < k
    · have hlti : (j : Int) < (k : Int) := by omega
      have hij : i + j < 9223372036854775808 := by omega
      have hjk : j + 1 ≤ k := by omega
      have hj1 := w64 (j := j) (by omega)
      have HS := hide (HA.out j)
      have hll := HL.out j
      have hll1 : ((l.drop i).take j).length + 1 ≤ 140737488355328 := by omega
      generalize (l.drop i).take j = L at *
      by_cases hin : i + j < l.length
      · have hini : (i : Int) + (j : Int) < (l.length : Int) := by omega
        obtain ⟨bk, off, rfl, hc⟩ := HB.out _ O0.out.b _ hin
        rw [if_pos hin] at HS
        generalize l.getD (i + j) 0 = c at *
        have e2 := wsum hij
        go_wp2_with (at_builtin; refine wpList_ap1 rfl _ _ rfl aj L.length cj L rfl rfl (O0.out.r.keep ((Below.refl _ _).alloc (Nat.le_refl _) _)) ⟨wr.heap.size, 0, none⟩ 1 c rfl ?c1 hll1 ?_)
        try case c1 => simp
        intro g c2 w2 hR hN hg hlt2
        have O2 := hide (((Od.first O0.out).keep (al wr _)).grow (fun _ h => h.elim) hR hN hg).own
        rw [← HS.out] at O2
        have HLN := hide (congrArg List.length HS.out)
        clear hR hN hg
        go_wp2
        go_roundw
        case rel => exact ⟨j + 1, _, c2, hjk, by first | (go_num; done) | exact congrArg (Value.int IntKind.i64) (by omega), by rw [HLN.out]; simp, O2.out⟩
        case measure => first | exact meas_up _ _ _ hj1 hlt | exact meas_up _ _ _ rfl hlt | (simp [intOf]; omega)
      · have hini : decide ((i : Int) + (j : Int) < (l.length : Int)) = false := by simp; omega
        rw [if_neg hin, List.append_nil] at HS
        have e2 := wsum hij
        go_wp2
        go_roundw
        case rel => exact ⟨j + 1, aj, cj, hjk, by first | (go_num; done) | exact congrArg (Value.int IntKind.i64) (by omega), by rw [HS.out], by rw [HS.out]; exact O0.out⟩
        case measure => first | exact meas_up _ _ _ hj1 hlt | exact meas_up _ _ _ rfl hlt | (simp [intOf]; omega)
    · obtain rfl : j = k := by omega
      go_wp2
      go_ret
      exact ⟨aj, cj, rfl, O0.out⟩
end Go.Proofs.YtlneomgjjkfnoabGreat

namespace Go.Proofs.YtlneomgjjkfnoabGreat
open Go.RowKit

/-! ### a page that grows by an item -/
theorem Jw.butg {w1 w2 : World} {a : Option Addr} {c : Nat} {L : List Iv} (_ : Jw w1 a c L) (hg : w1.grownBy w2 (a.map Addr.block)) : But (fun k => ∃ x, a = some x ∧ x.block = k) w1 w2 :=
  (But.refl _ _).grown hg fun k hk _ => by
    obtain ⟨x, hx, e⟩ := map_some hk
    exact ⟨x, hx, e⟩
theorem Bx.butJ {w1 w2 : World} {t : TypeId} {g : Nat} {cs : Array Value} {a : Option Addr} {c : Nat} {L : List Iv} (h : Bx w1 t g cs) (ht : t ≠ 55) (hJ : Jw w1 a c L) (hg : w1.grownBy w2 (a.map Addr.block)) : Bx w2 t g cs :=
  h.but (hJ.butg hg) fun ⟨_, hx, e⟩ => hJ.nty h ht hx e
theorem Pn.push {w W0 W1 W2 : World} {P : Pv} {x : Iv} {g2 c2 : Nat} (h : Pn w W0 P) (hd : P.aD = none) (hx : Io W0 W1 x) (hn : N64 x.child ∧ N64 x.size) (hw : w.heap.size ≤ W0.heap.size)
    (hJ : Jw W2 (some ⟨g2, 0, none⟩) c2 (P.items ++ [x])) (hN : New W1 P.aI (some ⟨g2, 0, none⟩)) (hg : W1.grownBy W2 (P.aI.map Addr.block)) :
    Pn w W2 ⟨P.kind, P.level, some ⟨g2, 0, none⟩, c2, P.items ++ [x], P.aD, P.cD, P.data, P.next⟩ := by
  have h1 := h.keep hx.k.b
  have hB := h1.it.butg hg
  have hr : ∀ {a c l}, Rw W1 a c l → Rw W2 a c l := fun hr => hr.but hB fun y hy ⟨z, hz, e⟩ => h1.it.ne hr hz hy e
  have fx := hx.fam
  refine ⟨hJ, h1.itn.trans hN (Nat.le_trans hw hx.k.b.size), hr h1.d, h.dn, fun t ht => ?_, ?_, h.d8, fun r hr => ?_, h.nk, h.nl, h.nn⟩
  · rw [rowsOf_append, rowsOf_one] at ht
    rcases List.mem_append.1 ht with ht | ht
    · exact ⟨hr (h1.fr t ht).1, (h1.fr t ht).2⟩
    · obtain ⟨o, o8⟩ := fx.own t ht
      exact ⟨hr o.r, o.n.mono hw, o8⟩
  · rw [rowsOf_append, rowsOf_one]
    have hp := List.pairwise_cons.1 h.dist
    refine List.pairwise_cons.2 ⟨fun t _ y z hy _ => ?_, List.pairwise_append.2 ⟨hp.2, fx.dist, fun s hs t ht y z hy hz e => ?_⟩⟩
    · simp only at hy
      rw [hd] at hy
      cases hy
    · have k1 := (h.fr s hs).1.lt hy
      have k2 := (fx.own t ht).1.fresh hz
      omega
  · rcases List.mem_append.1 hr with hr | hr
    · exact h.ns r hr
    · rw [List.mem_singleton.1 hr]; exact hn

/-- an item that is being made: its box X, and what belongs to it -/
structure Gi (W0 W : World) (X : Nat) (x : Iv) : Prop where
  bx : Bx W 55 X x.cs
  io : Io W0 W x
  lt : W0.heap.size ≤ X
  nc : N64 x.child
  ns : N64 x.size
theorem Gi.keep {W0 W W' : World} {X : Nat} {x : Iv} (h : Gi W0 W X x) (hb : Below W.heap.size W W') : Gi W0 W' X x := ⟨h.bx.keep hb, h.io.keep hb, h.lt, h.nc, h.ns⟩
theorem Gi.b {W0 W : World} {X : Nat} {x : Iv} (h : Gi W0 W X x) : Below W0.heap.size W0 W := h.io.k.b
theorem Gi.froz {W0 W : World} {X : Nat} {x : Iv} (h : Gi W0 W X x) (i : Nat) : W.frozen? ⟨X, i, none⟩ = false := frozen_of_row _ _ _ _ _ h.bx
theorem Gi.io_set {W0 W : World} {X : Nat} {x : Iv} (h : Gi W0 W X x) (i : Nat) (u : Value) : Io W0 (W.setCell ⟨X, i, none⟩ u) x := by
  have hB : But (fun k => k = X) W (W.setCell ⟨X, i, none⟩ u) := (But.refl (fun k => k = X) W).setCell (p := ⟨X, i, none⟩) (fun _ => rfl) u
  have hw : Below W0.heap.size W0 (W.setCell ⟨X, i, none⟩ u) := ((But.ofBelow (S := fun _ => False) h.b).trans hB fun y hy e => by have := h.lt; omega).below fun _ _ h => h
  exact ⟨h.io.k.but hB hw fun y hy e => h.io.k.r.nty h.bx (by decide) hy e, h.io.v.but hB hw fun y hy e => h.io.v.r.nty h.bx (by decide) hy e, h.io.apart, h.io.k8, h.io.v8⟩
theorem Gi.size {W0 W : World} {X : Nat} {x : Iv} (h : Gi W0 W X x) (z : Int) (hz : N64 z) : Gi W0 (W.setCell ⟨X, 3, none⟩ (.int .i64 z)) X ⟨x.aK, x.cK, x.key, x.aV, x.cV, x.val, x.child, z⟩ :=
  have k := h.io_set 3 (.int .i64 z)
  ⟨h.bx.setc 3 _, ⟨k.k, k.v, k.apart, k.k8, k.v8⟩, h.lt, h.nc, hz⟩
theorem Gi.child {W0 W : World} {X : Nat} {x : Iv} (h : Gi W0 W X x) (z : Int) (hz : N64 z) : Gi W0 (W.setCell ⟨X, 2, none⟩ (.int .i64 z)) X ⟨x.aK, x.cK, x.key, x.aV, x.cV, x.val, z, x.size⟩ :=
  have k := h.io_set 2 (.int .i64 z)
  ⟨h.bx.setc 2 _, ⟨k.k, k.v, k.apart, k.k8, k.v8⟩, h.lt, hz, h.ns⟩
theorem Gi.val {W0 W W' : World} {X : Nat} {x : Iv} (h : Gi W0 W X x) {a : Option Addr} {c : Nat} {l : List Nat} (o : Own W W' a c l) (h8 : B8 l) : Gi W0 (W'.setCell ⟨X, 1, none⟩ (.slice a l.length c)) X ⟨x.aK, x.cK, x.key, a, c, l, x.child, x.size⟩ := by
  have h1 := h.keep o.b
  have k := h1.io_set 1 (.slice a l.length c)
  have hB : But (fun k => k = X) W' (W'.setCell ⟨X, 1, none⟩ (.slice a l.length c)) := (But.refl (fun k => k = X) W').setCell (p := ⟨X, 1, none⟩) (fun _ => rfl) _
  exact ⟨h1.bx.setc 1 _, ⟨k.k, (Own.pre h.b o).but hB k.k.b fun y hy e => o.r.nty h1.bx (by decide) hy e, fun y z hy hz e => by
    have k1 := h.io.k.r.lt hy
    have k2 := o.fresh hz
    omega, k.k8, h8⟩, h.lt, h.nc, h.ns⟩

/-- what guess has in hand: the box of its result, the box of its page, and the page's own rows -/
structure Gs (w W : World) (P : Pv) : Prop where
  res : Bx W 27 w.heap.size Pv.zero.cs
  pg : Bx W 27 (w.heap.size + 1) P.cs
  own : Pn w W P
  b : Below w.heap.size w W
theorem Gs.keep {w W W' : World} {P : Pv} (h : Gs w W P) (hb : Below W.heap.size W W') : Gs w W' P := ⟨h.res.keep hb, h.pg.keep hb, h.own.keep hb, bt h.b hb⟩
theorem Gs.froz {w W : World} {P : Pv} (h : Gs w W P) (i : Nat) : W.frozen? ⟨w.heap.size + 1, i, none⟩ = false := frozen_of_row _ _ _ _ _ h.pg
theorem Gs.set {w W : World} {P : Pv} (h : Gs w W P) (i : Nat) (u : Value) : Bx (W.setCell ⟨w.heap.size + 1, i, none⟩ u) 27 w.heap.size Pv.zero.cs ∧ Bx (W.setCell ⟨w.heap.size + 1, i, none⟩ u) 27 (w.heap.size + 1) (P.cs.setIfInBounds i u) ∧ Pn w (W.setCell ⟨w.heap.size + 1, i, none⟩ u) P ∧ Below w.heap.size w (W.setCell ⟨w.heap.size + 1, i, none⟩ u) ∧ But (fun k => k = w.heap.size + 1) W (W.setCell ⟨w.heap.size + 1, i, none⟩ u) :=
  have hB : But (fun k => k = w.heap.size + 1) W (W.setCell ⟨w.heap.size + 1, i, none⟩ u) := (But.refl (fun k => k = w.heap.size + 1) W).setCell (p := ⟨w.heap.size + 1, i, none⟩) (fun _ => rfl) u
  ⟨h.res.but hB (by omega), h.pg.setc i u, h.own.but hB fun k hk => by subst hk; exact ⟨27, _, h.pg, by decide, by decide⟩, ((But.ofBelow (S := fun _ => False) h.b).trans hB fun y hy e => by omega).below fun _ _ h => h, hB⟩
theorem Gs.next {w W : World} {P : Pv} (h : Gs w W P) (z : Int) (hz : N64 z) : Gs w (W.setCell ⟨w.heap.size + 1, 4, none⟩ (.int .i64 z)) ⟨P.kind, P.level, P.aI, P.cI, P.items, P.aD, P.cD, P.data, z⟩ := by
  obtain ⟨h1, h2, h3, h4, _⟩ := h.set 4 (.int .i64 z)
  exact ⟨h1, h2, ⟨h3.it, h3.itn, h3.d, h3.dn, h3.fr, h3.dist, h3.d8, h3.ns, h3.nk, h3.nl, hz⟩, h4⟩
theorem Gs.data {w W W' : World} {P : Pv} (h : Gs w W P) (hi : P.items = []) {a : Option Addr} {c : Nat} {l : List Nat} (o : Own W W' a c l) (h8 : B8 l) : Gs w (W'.setCell ⟨w.heap.size + 1, 3, none⟩ (.slice a l.length c)) ⟨P.kind, P.level, P.aI, P.cI, P.items, a, c, l, P.next⟩ := by
  have hk := h.keep o.b
  obtain ⟨h1, h2, h3, h4, hB⟩ := hk.set 3 (.slice a l.length c)
  refine ⟨h1, h2, ⟨h3.it, h3.itn, o.r.but hB fun y hy e => o.r.nty hk.pg (by decide) hy e, o.n.mono h.b.size, h3.fr, ?_, h8, h3.ns, h3.nk, h3.nl, h3.nn⟩, h4⟩
  rw [hi]
  exact List.pairwise_singleton _ _
theorem Gs.push {w W0 W W1 W2 : World} {P : Pv} {x : Iv} {g2 c2 X : Nat} (h : Gs w W0 P) (hd : P.aD = none) (hx : Gi W0 W X x) (hb : Below W.heap.size W W1)
    (hJ : Jw W2 (some ⟨g2, 0, none⟩) c2 (P.items ++ [x])) (hN : New W1 P.aI (some ⟨g2, 0, none⟩)) (hg : W1.grownBy W2 (P.aI.map Addr.block)) :
    Gs w (W2.setCell ⟨w.heap.size + 1, 2, none⟩ (.slice (some ⟨g2, 0, none⟩) (P.items.length + 1) c2)) ⟨P.kind, P.level, some ⟨g2, 0, none⟩, c2, P.items ++ [x], P.aD, P.cD, P.data, P.next⟩ ∧ Bx W2 27 (w.heap.size + 1) P.cs := by
  have h1 := h.keep (bt hx.b hb)
  have p2 := Pn.push h.own hd (hx.io.keep hb) ⟨hx.nc, hx.ns⟩ h.b.size hJ hN hg
  have b2 : Bx W2 27 (w.heap.size + 1) P.cs := h1.pg.butJ (by decide) h1.own.it hg
  have r2 : Bx W2 27 w.heap.size Pv.zero.cs := h1.res.butJ (by decide) h1.own.it hg
  have w2 : Below w.heap.size w W2 := ((But.ofBelow (S := fun _ => False) h1.b).trans (h1.own.it.butg hg) fun y hy ⟨z, hz, e⟩ => by
    rcases h.own.itn z hz with ⟨q, hq, _⟩ | h5
    · cases hq
    · omega).below fun _ _ h => h
  have hB : But (fun k => k = w.heap.size + 1) W2 (W2.setCell ⟨w.heap.size + 1, 2, none⟩ (.slice (some ⟨g2, 0, none⟩) (P.items.length + 1) c2)) := (But.refl (fun k => k = w.heap.size + 1) W2).setCell (p := ⟨w.heap.size + 1, 2, none⟩) (fun _ => rfl) _
  refine ⟨⟨r2.but hB (by omega), ?_, p2.but hB fun k hk => by subst hk; exact ⟨27, _, b2, by decide, by decide⟩, ((But.ofBelow (S := fun _ => False) w2).trans hB fun y hy e => by omega).below fun _ _ h => h⟩, b2⟩
  have h5 := b2.setc 2 (.slice (some ⟨g2, 0, none⟩) (P.items.length + 1) c2)
  have e : (P.items ++ [x]).length = P.items.length + 1 := by simp
  unfold Pv.cs
  rw [e]
  exact h5
end Go.Proofs.YtlneomgjjkfnoabGreat

namespace Go.Proofs.YtlneomgjjkfnoabGreat
open Go.RowKit

theorem Bs.cell {w : World} {bk off : Nat} {l : List Nat} (h : Bs w (some ⟨bk, off, none⟩) l) {j : Nat} (hj : j < l.length) : w.cell? ⟨bk, off + j, none⟩ = some (.int .u8 ((l.getD j 0 : Nat) : Int)) := by
  obtain ⟨b, o, e, hc⟩ := h.at hj
  cases e
  exact hc
/-- what guess hands out -/
def GsQ (w : World) (b : List Nat) (e : Ending) (w' : World) : Prop := ∃ P : Pv, e = .returned P.vl ∧ P.pg = guess b ∧ Pn w w' P ∧ P.items.length ≤ 9 ∧ Below w.heap.size w w'
theorem Gs.start (w : World) (k lv : Nat) (hk : k < 256) (hl : lv < 256) : Gs w ((w.alloc (.cells Pv.zero.cs 27)).alloc (.cells (Pv.mk k lv none 0 [] none 0 [] 0).cs 27)).drew ⟨k, lv, none, 0, [], none, 0, [], 0⟩ := by
  have e : (w.alloc (.cells Pv.zero.cs 27)).heap.size = w.heap.size + 1 := size_alloc _ _
  have h1 : Bx ((w.alloc (.cells Pv.zero.cs 27)).alloc (.cells (Pv.mk k lv none 0 [] none 0 [] 0).cs 27)) 27 (w.heap.size + 1) (Pv.mk k lv none 0 [] none 0 [] 0).cs := e ▸ Bx.new _ _ _
  exact ⟨((Bx.new w 27 Pv.zero.cs).keep (al _ _)).keep (dr2 _), h1.keep (dr2 _), ⟨Jw.nil _, New.none _ _, Rw.nil _, New.none _ _, (fun _ h => by cases h), List.pairwise_singleton _ _, B8.nil, (fun _ h => by cases h), n64_nat (by omega), n64_nat (by omega), by simp [N64]⟩, bt (bt (al _ _) (al _ _)) (dr2 _)⟩
theorem Gs.fin {w W : World} {P : Pv} (h : Gs w W P) : Bx (W.setRow w.heap.size P.cs) 27 w.heap.size P.cs ∧ Pn w (W.setRow w.heap.size P.cs) P ∧ Below w.heap.size w (W.setRow w.heap.size P.cs) :=
  ⟨setRow_heap _ _ _ _ _ _ h.res, h.own.row h.res (by decide) (by decide) _, below_setRow h.b (Nat.le_refl _) _⟩
set_option maxRecDepth 8000 in
set_option maxHeartbeats 3200000 in
theorem guess_3 (w : World) (a : Option Addr) (cap : Nat) (b : List Nat) (hB : Bs w a b) (hl : b.length = 512) (h3 : b.getD 0 0 = 3) :
    Calls Tryz.prog 55 #[.slice a 512 cap] w (GsQ w b) := by
  obtain ⟨bk, off, rfl, _⟩ := hB.at (j := 0) (by omega)
  have HN := hide fun (w1 : World) (hb : Below w.heap.size w w1) (i k : Nat) (hk : k ≤ 4) (hi : i ≤ 1000000) => number_any w1 (some ⟨bk, off, none⟩) 512 cap b (hB.keep hb) hl.symm i k (by omega) hi (by omega) (Nat.lt_of_lt_of_le (numV_take_lt hB.1 i k) (Nat.le_trans (Nat.pow_le_pow_right (by decide) hk) (by decide)))
  have HP := hide fun (w1 : World) (hb : Below w.heap.size w w1) (i k : Nat) (hk : k ≤ 1048576) (hi : i ≤ 1000000) => piece_any w1 (some ⟨bk, off, none⟩) 512 cap b (hB.keep hb) hl.symm i k hk hi (by omega)
  have HV := hide (numV_take_lt hB.1)
  have HC := hide fun (w1 : World) (hb : Below w.heap.size w w1) (j : Nat) (hj : j < b.length) => (hB.keep hb).cell hj
  have H8 := hide hB.1
  have M0 := hide (Bx.new w 27 Pv.zero.cs)
  have W0 := hide (al w (.cells Pv.zero.cs 27))
  have h0 : b.getD 0 0 < 256 := hB.1 _ (by simp [hl])
  have h1 : b.getD 1 0 < 256 := hB.1 _ (by simp [hl])
  have k0 := HC.out _ W0.out 0 (by omega)
  have k1 := HC.out _ W0.out 1 (by omega)
  have k2 := HC.out _ (bt W0.out (al _ (.cells Pv.zero.cs 27))) 0 (by omega)
  have k3 := HC.out _ (bt W0.out (al _ (.cells Pv.zero.cs 27))) 1 (by omega)
  rw [Nat.add_zero] at k0 k2
  clear hB
  have HG := hide (show guess b = ⟨3, (b.getD 1 0 : Nat), [], (b.drop 20).take (numV ((b.drop 14).take 2)), (numV ((b.drop 16).take 4) : Nat)⟩ from by unfold guess; rw [if_pos h3])
  rw [h3] at k0 k2 h0
  generalize b.getD 1 0 = lv at *
  have G0 := hide (Gs.start w 3 lv (by decide) h1)
  unfold Pv.zero Pv.cs at M0 W0 k0 k1 k2 k3 G0
  simp only [List.length_nil] at M0 W0 k0 k1 k2 k3 G0
  have NX := hide fun (w1 : World) (hb : Below w.heap.size w w1) => HN.out w1 hb 16 4 (by decide) (by decide)
  have NL := hide fun (w1 : World) (hb : Below w.heap.size w w1) => HN.out w1 hb 14 2 (by decide) (by decide)
  have hnx := HV.out 16 4
  have hnl := HV.out 14 2
  generalize numV ((b.drop 16).take 4) = nx at *
  generalize numV ((b.drop 14).take 2) = nl at *
  have PC := hide fun (w1 : World) (hb : Below w.heap.size w w1) => HP.out w1 hb 20 nl (by omega) (by decide)
  have D8 : Hid (B8 ((b.drop 20).take nl)) := fun x hx => H8.out x (List.mem_of_mem_drop (List.mem_of_mem_take hx))
  generalize (b.drop 20).take nl = dt at *
  go_enter Tryz.func55, Tryz.ntmps55
  go_wp2
  go_region
  clear k0 k1 k2 k3 M0 W0 HN HP HV HC H8
  generalize hv : World.drew _ = v at *
  obtain ⟨b0, b1, b2, b3, b4⟩ := Bx.page G0.out.pg
  have f4 := G0.out.froz 4
  go_wp2_with fail
  refine (NX.out _ G0.out.b).mono ?_
  rintro e w1 ⟨rfl, hww⟩
  obtain rfl := hww.symm
  have G1 := hide (G0.out.next (nx : Int) (n64_nat (by omega)))
  clear G0 NX b0 b1 b2 b3 hww hv
  dsimp only at G1
  go_wp2_with fail
  generalize World.setCell _ _ _ = v1 at *
  clear b4 f4
  refine (NL.out _ G1.out.b).mono ?_
  rintro e w1 ⟨rfl, hww⟩
  obtain rfl := hww.symm
  clear hww NL
  go_wp2_with fail
  refine (PC.out _ G1.out.b).mono ?_
  rintro e w2 ⟨a2, c2, rfl, o2⟩
  have G2 := hide (G1.out.data rfl o2 D8.out)
  have f3 := (G1.out.keep o2.b).froz 3
  have b3 := (Bx.page (G1.out.keep o2.b).pg).2.2.2.1
  obtain ⟨d0, d1, d2, d3, d4⟩ := Bx.page G2.out.pg
  clear G1 PC o2
  dsimp only at G2 d0 d1 d2 d3 d4
  simp only [List.length_nil] at d0 d1 d2 d3 d4 b3
  go_wp2_with (refine wpList_store_row rfl 27 _ _ rfl w.heap.size _ rfl rfl 27 _ G2.out.res sizePage rfl (by simp [Value.oneCell']) ?_)
  refine bodyPost_ret (v := .agg _) (results_cell_row Tryz.results55 _ _ w.heap.size 27 _ (0, 0) _ rfl G2.out.fin.1 Tryz.underlying27 rfl sizePage) rfl ?_
  exact ⟨⟨3, lv, none, 0, [], a2, c2, dt, nx⟩, rfl, HG.out.symm, G2.out.fin.2.1, by simp, G2.out.fin.2.2⟩
end Go.Proofs.YtlneomgjjkfnoabGreat

namespace Go.Proofs.YtlneomgjjkfnoabGreat
open Go.RowKit

theorem dd (b : List Nat) (t n : Nat) : (b.drop t).drop n = b.drop (t + n) := by rw [List.drop_drop]
theorem gItem_1a {b : List Nat} {t n1 sz : Nat} (h1 : numV ((b.drop t).take 1) = n1) (h2 : numV ((b.drop (t + (1 + n1))).take 2) = sz) (h3 : sz ≤ 32) : gItem 1 (b.drop t) = (⟨(b.drop (t + 1)).take n1, (b.drop (t + (1 + n1) + 2)).take sz, 0, (sz : Nat)⟩, b.drop (t + (1 + n1) + 2 + sz)) := by
  unfold gItem
  simp only [dd, h1, h2, if_pos h3, ↓reduceIte, Nat.add_assoc]
theorem gItem_1b {b : List Nat} {t n1 sz ch : Nat} (h1 : numV ((b.drop t).take 1) = n1) (h2 : numV ((b.drop (t + (1 + n1))).take 2) = sz) (h3 : ¬ sz ≤ 32) (h4 : numV ((b.drop (t + (1 + n1) + 2)).take 4) = ch) : gItem 1 (b.drop t) = (⟨(b.drop (t + 1)).take n1, [], (ch : Nat), (sz : Nat)⟩, b.drop (t + (1 + n1) + 2 + 4)) := by
  rw [Nat.add_assoc t, Nat.add_assoc 1] at h4
  unfold gItem
  simp only [dd, h1, h2, if_neg h3, ↓reduceIte, Nat.add_assoc, h4]
theorem gItem_r {b : List Nat} {t n1 ch : Nat} {K : Int} (hK : K ≠ 1) (h1 : numV ((b.drop t).take 1) = n1) (h4 : numV ((b.drop (t + (1 + n1))).take 4) = ch) : gItem K (b.drop t) = (⟨(b.drop (t + 1)).take n1, [], (ch : Nat), 0⟩, b.drop (t + (1 + n1) + 4)) := by
  unfold gItem
  simp only [dd, h1, h4, if_neg hK, Nat.add_assoc]
theorem Gi.start {W0 W1 : World} {aK : Option Addr} {cK : Nat} {key : List Nat} (o : Own W0 W1 aK cK key) (h8 : B8 key) : Gi W0 (W1.alloc (.cells (Iv.mk aK cK key none 0 [] 0 0).cs 55)) W1.heap.size ⟨aK, cK, key, none, 0, [], 0, 0⟩ :=
  ⟨Bx.new _ _ _, ⟨o.keep (al _ _), Own.nil _ (bt o.b (al _ _)), (fun _ _ _ h => by cases h), h8, B8.nil⟩, o.b.size, by simp [N64], by simp [N64]⟩
theorem box_cells (w : World) (x : Iv) (g : Nat) (hg : g = w.heap.size) : ∀ j u, x.cs.toList[j]? = some u → (w.alloc (.cells x.cs 55)).cell? ((⟨g, 0, none⟩ : Addr).add j) = some u := by
  subst hg
  intro j u h
  rw [Addr.add_mid, Nat.zero_add, cell_of_row _ _ _ _ _ _ (heap_alloc_new _ _)]
  simpa using h
/-- where the loop stands -/
structure Gl9 (w : World) (b : List Nat) (j t : Nat) (wx : World) (kd lv : Nat) (aI : Option Addr) (cI : Nat) (its : List Iv) : Prop where
  t9 : t ≤ 15 + 400 * j
  rest : (gItems (kd : Int) (b.drop 15) j).2 = b.drop t
  ie : its.map Iv.it = (gItems (kd : Int) (b.drop 15) j).1
  g : Gs w wx ⟨kd, lv, aI, cI, its, none, 0, [], 0⟩
theorem Gl9.len {w : World} {b : List Nat} {j t : Nat} {wx : World} {kd lv : Nat} {aI : Option Addr} {cI : Nat} {its : List Iv} (h : Gl9 w b j t wx kd lv aI cI its) : its.length = j := by
  have := congrArg List.length h.ie
  rw [List.length_map, gItems_length] at this
  exact this
set_option maxRecDepth 4000 in
theorem Gl9.step {w : World} {b : List Nat} {j t t2 : Nat} {wx wy : World} {kd lv : Nat} {aI aI2 : Option Addr} {cI cI2 : Nat} {its : List Iv} {x : Iv} (h : Gl9 w b j t wx kd lv aI cI its) (e : gItem (kd : Int) (b.drop t) = (x.it, b.drop t2)) (ht : t2 ≤ t + 400) (g : Gs w wy ⟨kd, lv, aI2, cI2, its ++ [x], none, 0, [], 0⟩) : Gl9 w b (j + 1) t2 wy kd lv aI2 cI2 (its ++ [x]) := by
  have e1 := h.rest
  have e2 := h.ie
  have e3 := h.t9
  have e4 : t2 ≤ 15 + 400 * (j + 1) := by clear e e1 e2 g h; omega
  refine ⟨e4, ?_, ?_, g⟩
  · show (gItem (kd : Int) (gItems (kd : Int) (b.drop 15) j).2).2 = _
    rw [e1, e]
  · show _ = (gItems (kd : Int) (b.drop 15) j).1 ++ [(gItem (kd : Int) (gItems (kd : Int) (b.drop 15) j).2).1]
    rw [e1, e, ← e2, List.map_append]
    rfl
set_option maxRecDepth 8000 in
set_option maxHeartbeats 3200000 in
theorem guess_r (w : World) (a : Option Addr) (cap : Nat) (b : List Nat) (hB : Bs w a b) (hl : b.length = 512) (h1n : b.getD 0 0 ≠ 1) (h3 : b.getD 0 0 ≠ 3) :
    Calls Tryz.prog 55 #[.slice a 512 cap] w (GsQ w b) := by
  obtain ⟨bk, off, rfl, _⟩ := hB.at (j := 0) (by omega)
  have HN := hide fun (w1 : World) (hb : Below w.heap.size w w1) (i k : Nat) (hk : k ≤ 4) (hi : i ≤ 1000000) => number_any w1 (some ⟨bk, off, none⟩) 512 cap b (hB.keep hb) hl.symm i k (by omega) hi (by omega) (Nat.lt_of_lt_of_le (numV_take_lt hB.1 i k) (Nat.le_trans (Nat.pow_le_pow_right (by decide) hk) (by decide)))
  have HP := hide fun (w1 : World) (hb : Below w.heap.size w w1) (i k : Nat) (hk : k ≤ 1048576) (hi : i ≤ 1000000) => piece_any w1 (some ⟨bk, off, none⟩) 512 cap b (hB.keep hb) hl.symm i k hk hi (by omega)
  have HV := hide (numV_take_lt hB.1)
  have HC := hide fun (w1 : World) (hb : Below w.heap.size w w1) (j : Nat) (hj : j < b.length) => (hB.keep hb).cell hj
  have H8 := hide hB.1
  have M0 := hide (Bx.new w 27 Pv.zero.cs)
  have W0 := hide (al w (.cells Pv.zero.cs 27))
  have h0 : b.getD 0 0 < 256 := hB.1 _ (by simp [hl])
  have h1 : b.getD 1 0 < 256 := hB.1 _ (by simp [hl])
  have k0 := HC.out _ W0.out 0 (by omega)
  have k1 := HC.out _ W0.out 1 (by omega)
  have k2 := HC.out _ (bt W0.out (al _ (.cells Pv.zero.cs 27))) 0 (by omega)
  have k3 := HC.out _ (bt W0.out (al _ (.cells Pv.zero.cs 27))) 1 (by omega)
  rw [Nat.add_zero] at k0 k2
  clear hB
  have h14 : b.getD 14 0 < 256 := H8.out _ (by simp [hl])
  have HG := hide (show guess b = ⟨(b.getD 0 0 : Nat), (b.getD 1 0 : Nat), (gItems (b.getD 0 0 : Nat) (b.drop 15) (min (b.getD 14 0) 9)).1, [], 0⟩ from by unfold guess; rw [if_neg (by omega)])
  have HC := hide fun (w1 : World) (hb : Below w.heap.size w w1) => HC.out w1 hb 14 (by omega)
  have G0 := hide (Gs.start w (b.getD 0 0) (b.getD 1 0) h0 h1)
  generalize b.getD 0 0 = kd at *
  generalize b.getD 1 0 = lv at *
  generalize b.getD 14 0 = b14 at *
  unfold Pv.zero Pv.cs at M0 W0 k0 k1 k2 k3 G0
  simp only [List.length_nil] at M0 W0 k0 k1 k2 k3 G0
  have hk1 : (((kd : Nat) : Int) == 1) = false := by simp; omega
  have hk3 : (((kd : Nat) : Int) == 3) = false := by simp; omega
  have HG0 : Hid (∀ w1, Gs w w1 ⟨kd, lv, none, 0, [], none, 0, [], 0⟩ → Gl9 w b 0 15 w1 kd lv none 0 []) := fun w1 h => ⟨by decide, rfl, rfl, h⟩
  go_enter Tryz.func55, Tryz.ntmps55
  go_wp2
  go_region
  clear k0 k1 k2 k3 M0 W0
  generalize hv : World.drew _ = v at *
  obtain ⟨b0, b1, b2, b3, b4⟩ := Bx.page G0.out.pg
  go_wp2
  go_loopw [4, 5, 6] (fun at' i _ wx => ∃ (j t : Nat) (aI : Option Addr) (cI : Nat) (its : List Iv), j ≤ min b14 9 ∧ i = .int .i64 j ∧ at' = .int .i64 t ∧ Gl9 w b j t wx kd lv aI cI its) (fun _ i _ _ => min b14 9 - (intOf i).toNat)
  case atStart => exact ⟨0, 15, none, 0, [], Nat.zero_le _, rfl, rfl, HG0.out _ G0.out⟩
  case round =>
    obtain ⟨j, t, aI, cI, its, hj, rfl, rfl, hR⟩ := hrel
    clear b0 b1 b2 b3 b4 G0 HG0 hv
    have HR := hide hR
    have ht := hR.t9
    clear hR
    by_cases hlt : j < min b14 9
    · have hl1 : (j : Int) < (b14 : Int) := by omega
      have hl2 : (j : Int) ≤ 8 := by omega
      have ht2 : t ≤ 5000 := by omega
      have hj1 : j + 1 ≤ min b14 9 := by omega
      have c14 := HC.out _ HR.out.g.b
      obtain ⟨n1, hn1⟩ : ∃ n1, numV ((b.drop t).take 1) = n1 := ⟨_, rfl⟩
      have hb1 := HV.out t 1
      have N1 := hide fun (w1 : World) (hb : Below w.heap.size w w1) => HN.out w1 hb t 1 (by decide) (by omega)
      rw [hn1] at hb1 N1
      have E1 := hide hn1
      clear hn1
      have P1 := hide fun (w1 : World) (hb : Below w.heap.size w w1) => HP.out w1 hb (t + 1) n1 (by omega) (by omega)
      have K8 : Hid (B8 ((b.drop (t + 1)).take n1)) := fun x hx => H8.out x (List.mem_of_mem_drop (List.mem_of_mem_take hx))
      obtain ⟨key, hkey⟩ : ∃ key, (b.drop (t + 1)).take n1 = key := ⟨_, rfl⟩
      rw [hkey] at P1 K8
      have EK := hide hkey
      clear hkey
      go_wp2_with fail
      refine (N1.out _ HR.out.g.b).mono ?_
      rintro e w0 ⟨rfl, hww⟩
      obtain rfl := hww.symm
      clear hww
      go_wp2_with fail
      refine (P1.out _ HR.out.g.b).mono ?_
      rintro e w2 ⟨aK, cK, rfl, o2⟩
      have I0 := hide (Gi.start o2 K8.out)
      simp only [Iv.cs, List.length_nil] at I0
      have G2 := hide (HR.out.g.keep I0.out.b)
      obtain ⟨q0, q1, q2, q3, q4⟩ := Bx.page G2.out.pg
      obtain ⟨x0, x1, x2, x3⟩ := Bx.item I0.out.bx
      clear o2 P1 K8 c14 HC
      dsimp only [List.length_nil] at x0 x1 x2 x3 q0 q1 q2 q3 q4
      go_wp2_with fail
      generalize World.alloc w2 _ = w3 at *
      refine (N1.out _ G2.out.b).mono ?_
      rintro e w0 ⟨rfl, hww⟩
      obtain rfl := hww.symm
      clear hww
      obtain ⟨ch, hch⟩ : ∃ ch, numV ((b.drop (t + (1 + n1))).take 4) = ch := ⟨_, rfl⟩
      have hb4 := HV.out (t + (1 + n1)) 4
      have N4 := hide fun (w1 : World) (hb : Below w.heap.size w w1) => HN.out w1 hb (t + (1 + n1)) 4 (by decide) (by omega)
      rw [hch] at hb4 N4
      have E4 := hide (gItem_r (K := (kd : Int)) (by omega) E1.out hch)
      rw [EK.out] at E4
      clear hch
      have f2 := I0.out.froz 2
      have I1 := hide (I0.out.child (ch : Int) (n64_nat (by omega)))
      go_wp2_with fail
      refine (N4.out _ G2.out.b).mono ?_
      rintro e w0 ⟨rfl, hww⟩
      obtain rfl := hww.symm
      clear hww
      clear q0 q1 q2 q3 q4 x0 x1 x3 G2
      obtain ⟨x0, x1, x2, x3⟩ := Bx.item I1.out.bx
      have G9 := hide (HR.out.g.keep I1.out.b)
      obtain ⟨q0, q1, q2, q3, q4⟩ := Bx.page G9.out.pg
      dsimp only [List.length_nil] at x0 x1 x2 x3 q0 q1 q2 q3 q4
      have hil : its.length + 1 ≤ 2199023255489 := by have := HR.out.len; omega
      go_wp2_with (at_builtin; refine wpList_apJ rfl _ _ rfl aI its.length cI its rfl rfl (G9.out.own.it.keep (al _ _)) ⟨_, 0, none⟩ 1 ⟨aK, cK, key, none, 0, [], (ch : Int), 0⟩ rfl (box_cells _ ⟨aK, cK, key, none, 0, [], (ch : Int), 0⟩ _ (by first | rfl | simp)) hil ?_)
      intro g2 c2 w5 hJ hN hg
      obtain ⟨G5, B5⟩ := HR.out.g.push rfl I1.out (al _ _) hJ hN hg
      obtain ⟨y0, y1, y2, y3, y4⟩ := Bx.page B5
      have f5 := frozen_of_row _ _ 2 _ _ B5
      have G6 := hide (HR.out.step (x := ⟨aK, cK, key, none, 0, [], (ch : Int), 0⟩) (t2 := t + (1 + n1) + 4) E4.out (by omega) G5)
      clear hJ hN hg G5 B5
      dsimp only at y0 y1 y2 y3 y4
      go_wp2
      go_roundw
      case rel => exact ⟨j + 1, t + (1 + n1) + 4, _, c2, _, hj1, by first | (go_num; done) | exact congrArg (Value.int IntKind.i64) (by omega), by first | (go_num; done) | exact congrArg (Value.int IntKind.i64) (by omega), G6.out⟩
      case measure => first | exact meas_up _ _ _ rfl hlt | (simp [intOf]; omega)
    · have hjm : Hid (j = min b14 9) := by show _ = _; omega
      have hlen := hide HR.out.len
      obtain ⟨d0, d1, d2, d3, d4⟩ := Bx.page HR.out.g.pg
      have HD := hide (show GsQ w b (.returned (Pv.vl ⟨kd, lv, aI, cI, its, none, 0, [], 0⟩)) (wr.setRow w.heap.size (Pv.mk kd lv aI cI its none 0 [] 0).cs) from ⟨_, rfl, (by rw [HG.out]; unfold Pv.pg; rw [HR.out.ie, hjm.out]; try rfl), HR.out.g.fin.2.1, by rw [hlen.out]; omega, HR.out.g.fin.2.2⟩)
      have c14 := HC.out _ HR.out.g.b
      dsimp only at d0 d1 d2 d3 d4
      simp only [List.length_nil] at d0 d1 d2 d3 d4
      by_cases hj14 : j < b14
      · have hl1 : (j : Int) < (b14 : Int) := by omega
        have hl2 : decide ((j : Int) ≤ 8) = false := by simp; omega
        go_wp2_with (refine wpList_store_row rfl 27 _ _ rfl w.heap.size _ rfl rfl 27 _ HR.out.g.res sizePage rfl (by simp [Value.oneCell']) ?_)
        refine bodyPost_ret (v := .agg _) (results_cell_row Tryz.results55 _ _ w.heap.size 27 _ (0, 0) _ rfl HR.out.g.fin.1 Tryz.underlying27 rfl sizePage) rfl ?_
        exact HD.out
      · have hl1 : decide ((j : Int) < (b14 : Int)) = false := by simp; omega
        go_wp2_with (refine wpList_store_row rfl 27 _ _ rfl w.heap.size _ rfl rfl 27 _ HR.out.g.res sizePage rfl (by simp [Value.oneCell']) ?_)
        refine bodyPost_ret (v := .agg _) (results_cell_row Tryz.results55 _ _ w.heap.size 27 _ (0, 0) _ rfl HR.out.g.fin.1 Tryz.underlying27 rfl sizePage) rfl ?_
        exact HD.out
end Go.Proofs.YtlneomgjjkfnoabGreat

namespace Go.Proofs.YtlneomgjjkfnoabGreat
open Go.RowKit

set_option maxRecDepth 8000 in
set_option maxHeartbeats 3200000 in
theorem guess_1 (w : World) (a : Option Addr) (cap : Nat) (b : List Nat) (hB : Bs w a b) (hl : b.length = 512) (h1e : b.getD 0 0 = 1) :
    Calls Tryz.prog 55 #[.slice a 512 cap] w (GsQ w b) := by
  obtain ⟨bk, off, rfl, _⟩ := hB.at (j := 0) (by omega)
  have HN := hide fun (w1 : World) (hb : Below w.heap.size w w1) (i k : Nat) (hk : k ≤ 4) (hi : i ≤ 1000000) => number_any w1 (some ⟨bk, off, none⟩) 512 cap b (hB.keep hb) hl.symm i k (by omega) hi (by omega) (Nat.lt_of_lt_of_le (numV_take_lt hB.1 i k) (Nat.le_trans (Nat.pow_le_pow_right (by decide) hk) (by decide)))
  have HP := hide fun (w1 : World) (hb : Below w.heap.size w w1) (i k : Nat) (hk : k ≤ 1048576) (hi : i ≤ 1000000) => piece_any w1 (some ⟨bk, off, none⟩) 512 cap b (hB.keep hb) hl.symm i k hk hi (by omega)
  have HV := hide (numV_take_lt hB.1)
  have HC := hide fun (w1 : World) (hb : Below w.heap.size w w1) (j : Nat) (hj : j < b.length) => (hB.keep hb).cell hj
  have H8 := hide hB.1
  have M0 := hide (Bx.new w 27 Pv.zero.cs)
  have W0 := hide (al w (.cells Pv.zero.cs 27))
  have h0 : b.getD 0 0 < 256 := hB.1 _ (by simp [hl])
  have h1 : b.getD 1 0 < 256 := hB.1 _ (by simp [hl])
  have k0 := HC.out _ W0.out 0 (by omega)
  have k1 := HC.out _ W0.out 1 (by omega)
  have k2 := HC.out _ (bt W0.out (al _ (.cells Pv.zero.cs 27))) 0 (by omega)
  have k3 := HC.out _ (bt W0.out (al _ (.cells Pv.zero.cs 27))) 1 (by omega)
  rw [Nat.add_zero] at k0 k2
  clear hB
  have h14 : b.getD 14 0 < 256 := H8.out _ (by simp [hl])
  have HG := hide (show guess b = ⟨(b.getD 0 0 : Nat), (b.getD 1 0 : Nat), (gItems (b.getD 0 0 : Nat) (b.drop 15) (min (b.getD 14 0) 9)).1, [], 0⟩ from by unfold guess; rw [if_neg (by omega)])
  have HC := hide fun (w1 : World) (hb : Below w.heap.size w w1) => HC.out w1 hb 14 (by omega)
  have G0 := hide (Gs.start w (b.getD 0 0) (b.getD 1 0) h0 h1)
  generalize b.getD 0 0 = kd at *
  generalize b.getD 1 0 = lv at *
  generalize b.getD 14 0 = b14 at *
  unfold Pv.zero Pv.cs at M0 W0 k0 k1 k2 k3 G0
  simp only [List.length_nil] at M0 W0 k0 k1 k2 k3 G0
  subst h1e
  have HG0 : Hid (∀ w1, Gs w w1 ⟨1, lv, none, 0, [], none, 0, [], 0⟩ → Gl9 w b 0 15 w1 1 lv none 0 []) := fun w1 h => ⟨by decide, rfl, rfl, h⟩
  go_enter Tryz.func55, Tryz.ntmps55
  go_wp2
  go_region
  clear k0 k1 k2 k3 M0 W0
  generalize hv : World.drew _ = v at *
  obtain ⟨b0, b1, b2, b3, b4⟩ := Bx.page G0.out.pg
  go_wp2
  go_loopw [4, 5, 6] (fun at' i _ wx => ∃ (j t : Nat) (aI : Option Addr) (cI : Nat) (its : List Iv), j ≤ min b14 9 ∧ i = .int .i64 j ∧ at' = .int .i64 t ∧ Gl9 w b j t wx 1 lv aI cI its) (fun _ i _ _ => min b14 9 - (intOf i).toNat)
  case atStart => exact ⟨0, 15, none, 0, [], Nat.zero_le _, rfl, rfl, HG0.out _ G0.out⟩
  case round =>
    obtain ⟨j, t, aI, cI, its, hj, rfl, rfl, hR⟩ := hrel
    clear b0 b1 b2 b3 b4 G0 HG0 hv
    have HR := hide hR
    have ht := hR.t9
    clear hR
    by_cases hlt : j < min b14 9
    · have hl1 : (j : Int) < (b14 : Int) := by omega
      have hl2 : (j : Int) ≤ 8 := by omega
      have ht2 : t ≤ 5000 := by omega
      have hj1 : j + 1 ≤ min b14 9 := by omega
      have c14 := HC.out _ HR.out.g.b
      obtain ⟨n1, hn1⟩ : ∃ n1, numV ((b.drop t).take 1) = n1 := ⟨_, rfl⟩
      have hb1 := HV.out t 1
      have N1 := hide fun (w1 : World) (hb : Below w.heap.size w w1) => HN.out w1 hb t 1 (by decide) (by omega)
      rw [hn1] at hb1 N1
      have E1 := hide hn1
      clear hn1
      have P1 := hide fun (w1 : World) (hb : Below w.heap.size w w1) => HP.out w1 hb (t + 1) n1 (by omega) (by omega)
      have K8 : Hid (B8 ((b.drop (t + 1)).take n1)) := fun x hx => H8.out x (List.mem_of_mem_drop (List.mem_of_mem_take hx))
      obtain ⟨key, hkey⟩ : ∃ key, (b.drop (t + 1)).take n1 = key := ⟨_, rfl⟩
      rw [hkey] at P1 K8
      have EK := hide hkey
      clear hkey
      go_wp2_with fail
      refine (N1.out _ HR.out.g.b).mono ?_
      rintro e w0 ⟨rfl, hww⟩
      obtain rfl := hww.symm
      clear hww
      go_wp2_with fail
      refine (P1.out _ HR.out.g.b).mono ?_
      rintro e w2 ⟨aK, cK, rfl, o2⟩
      have I0 := hide (Gi.start o2 K8.out)
      simp only [Iv.cs, List.length_nil] at I0
      have G2 := hide (HR.out.g.keep I0.out.b)
      obtain ⟨q0, q1, q2, q3, q4⟩ := Bx.page G2.out.pg
      obtain ⟨x0, x1, x2, x3⟩ := Bx.item I0.out.bx
      clear o2 P1 K8 c14 HC
      dsimp only [List.length_nil] at x0 x1 x2 x3 q0 q1 q2 q3 q4
      go_wp2_with fail
      generalize World.alloc w2 _ = w3 at *
      refine (N1.out _ G2.out.b).mono ?_
      rintro e w0 ⟨rfl, hww⟩
      obtain rfl := hww.symm
      clear hww
      obtain ⟨sz, hsz⟩ : ∃ sz, numV ((b.drop (t + (1 + n1))).take 2) = sz := ⟨_, rfl⟩
      have hb2 := HV.out (t + (1 + n1)) 2
      have N2 := hide fun (w1 : World) (hb : Below w.heap.size w w1) => HN.out w1 hb (t + (1 + n1)) 2 (by decide) (by omega)
      rw [hsz] at hb2 N2
      have E2 := hide hsz
      clear hsz
      have f3 := I0.out.froz 3
      have I1 := hide (I0.out.size (sz : Int) (n64_nat (by omega)))
      go_wp2_with fail
      refine (N2.out _ G2.out.b).mono ?_
      rintro e w0 ⟨rfl, hww⟩
      obtain rfl := hww.symm
      clear hww
      clear q0 q1 q2 q3 q4 x0 x1 x2 G2 I0 N1 N2
      have G3 := hide (HR.out.g.keep I1.out.b)
      obtain ⟨q0, q1, q2, q3, q4⟩ := Bx.page G3.out.pg
      obtain ⟨y0, y1, y2, y3⟩ := Bx.item I1.out.bx
      dsimp only [List.length_nil] at y0 y1 y2 y3 q0 q1 q2 q3 q4
      by_cases h32 : sz ≤ 32
      · have h32i : (sz : Int) ≤ 32 := by omega
        have P2 := hide fun (w1 : World) (hb : Below w.heap.size w w1) => HP.out w1 hb (t + (1 + n1) + 2) sz (by omega) (by omega)
        have V8 : Hid (B8 ((b.drop (t + (1 + n1) + 2)).take sz)) := fun x hx => H8.out x (List.mem_of_mem_drop (List.mem_of_mem_take hx))
        have E5 : Hid (gItem ((1 : Nat) : Int) (b.drop t) = _) := gItem_1a E1.out E2.out h32
        rw [EK.out] at E5
        generalize (b.drop (t + (1 + n1) + 2)).take sz = val at *
        go_wp2_with fail
        generalize World.setCell w3 _ _ = w4 at *
        refine (P2.out _ G3.out.b).mono ?_
        rintro e w5 ⟨aV, cV, rfl, o5⟩
        have f1 := (I1.out.keep o5.b).froz 1
        have z1 := (Bx.item (I1.out.keep o5.b).bx).2.1
        have I2 := hide (I1.out.val o5 V8.out)
        dsimp only [List.length_nil] at z1 I2
        clear P2 V8 o5 q0 q1 q2 q3 q4 y0 y1 y2 y3 I1 G3 x3 f3
        obtain ⟨x0, x1, x2, x3⟩ := Bx.item I2.out.bx
        have G9 := hide (HR.out.g.keep I2.out.b)
        obtain ⟨q0, q1, q2, q3, q4⟩ := Bx.page G9.out.pg
        dsimp only [List.length_nil] at x0 x1 x2 x3 q0 q1 q2 q3 q4
        have hil : its.length + 1 ≤ 2199023255489 := by have := HR.out.len; omega
        go_wp2_with (at_builtin; refine wpList_apJ rfl _ _ rfl aI its.length cI its rfl rfl (G9.out.own.it.keep (al _ _)) ⟨_, 0, none⟩ 1 ⟨aK, cK, key, aV, cV, val, 0, (sz : Int)⟩ rfl (box_cells _ ⟨aK, cK, key, aV, cV, val, 0, (sz : Int)⟩ _ (by first | rfl | simp)) hil ?_)
        intro g2 c2 w5 hJ hN hg
        obtain ⟨G5, B5⟩ := HR.out.g.push rfl I2.out (al _ _) hJ hN hg
        obtain ⟨y0, y1, y2, y3, y4⟩ := Bx.page B5
        have f5 := frozen_of_row _ _ 2 _ _ B5
        have G6 := hide (HR.out.step (x := ⟨aK, cK, key, aV, cV, val, 0, (sz : Int)⟩) (t2 := t + (1 + n1) + 2 + sz) E5.out (by omega) G5)
        clear hJ hN hg G5 B5
        dsimp only at y0 y1 y2 y3 y4
        go_wp2
        go_roundw
        case rel => exact ⟨j + 1, t + (1 + n1) + 2 + sz, _, c2, _, hj1, by first | (go_num; done) | exact congrArg (Value.int IntKind.i64) (by omega), by first | (go_num; done) | exact congrArg (Value.int IntKind.i64) (by omega), G6.out⟩
        case measure => first | exact meas_up _ _ _ rfl hlt | (simp [intOf]; omega)
      · have h32i : decide ((sz : Int) ≤ 32) = false := by simp; omega
        obtain ⟨ch, hch⟩ : ∃ ch, numV ((b.drop (t + (1 + n1) + 2)).take 4) = ch := ⟨_, rfl⟩
        have hb4 := HV.out (t + (1 + n1) + 2) 4
        have N4 := hide fun (w1 : World) (hb : Below w.heap.size w w1) => HN.out w1 hb (t + (1 + n1) + 2) 4 (by decide) (by omega)
        rw [hch] at hb4 N4
        have E5 : Hid (gItem ((1 : Nat) : Int) (b.drop t) = _) := gItem_1b E1.out E2.out h32 hch
        rw [EK.out] at E5
        clear hch
        have f2 := I1.out.froz 2
        have I2 := hide (I1.out.child (ch : Int) (n64_nat (by omega)))
        dsimp only [List.length_nil] at I2
        go_wp2_with fail
        generalize World.setCell w3 _ _ = w4 at *
        refine (N4.out _ G3.out.b).mono ?_
        rintro e w0 ⟨rfl, hww⟩
        obtain rfl := hww.symm
        clear hww q0 q1 q2 q3 q4 y0 y1 y3 G3 I1 x3 f3
        obtain ⟨x0, x1, x2, x3⟩ := Bx.item I2.out.bx
        have G9 := hide (HR.out.g.keep I2.out.b)
        obtain ⟨q0, q1, q2, q3, q4⟩ := Bx.page G9.out.pg
        dsimp only [List.length_nil] at x0 x1 x2 x3 q0 q1 q2 q3 q4
        have hil : its.length + 1 ≤ 2199023255489 := by have := HR.out.len; omega
        go_wp2_with (at_builtin; refine wpList_apJ rfl _ _ rfl aI its.length cI its rfl rfl (G9.out.own.it.keep (al _ _)) ⟨_, 0, none⟩ 1 ⟨aK, cK, key, none, 0, [], (ch : Int), (sz : Int)⟩ rfl (box_cells _ ⟨aK, cK, key, none, 0, [], (ch : Int), (sz : Int)⟩ _ (by first | rfl | simp)) hil ?_)
        intro g2 c2 w5 hJ hN hg
        obtain ⟨G5, B5⟩ := HR.out.g.push rfl I2.out (al _ _) hJ hN hg
        obtain ⟨y0, y1, y2, y3, y4⟩ := Bx.page B5
        have f5 := frozen_of_row _ _ 2 _ _ B5
        have G6 := hide (HR.out.step (x := ⟨aK, cK, key, none, 0, [], (ch : Int), (sz : Int)⟩) (t2 := t + (1 + n1) + 2 + 4) E5.out (by omega) G5)
        clear hJ hN hg G5 B5
        dsimp only at y0 y1 y2 y3 y4
        go_wp2
        go_roundw
        case rel => exact ⟨j + 1, t + (1 + n1) + 2 + 4, _, c2, _, hj1, by first | (go_num; done) | exact congrArg (Value.int IntKind.i64) (by omega), by first | (go_num; done) | exact congrArg (Value.int IntKind.i64) (by omega), G6.out⟩
        case measure => first | exact meas_up _ _ _ rfl hlt | (simp [intOf]; omega)
    · have hjm : Hid (j = min b14 9) := by show _ = _; omega
      have hlen := hide HR.out.len
      obtain ⟨d0, d1, d2, d3, d4⟩ := Bx.page HR.out.g.pg
      have HD := hide (show GsQ w b (.returned (Pv.vl ⟨1, lv, aI, cI, its, none, 0, [], 0⟩)) (wr.setRow w.heap.size (Pv.mk 1 lv aI cI its none 0 [] 0).cs) from ⟨_, rfl, (by rw [HG.out]; unfold Pv.pg; rw [HR.out.ie, hjm.out]; try rfl), HR.out.g.fin.2.1, by rw [hlen.out]; omega, HR.out.g.fin.2.2⟩)
      have c14 := HC.out _ HR.out.g.b
      dsimp only at d0 d1 d2 d3 d4
      simp only [List.length_nil] at d0 d1 d2 d3 d4
      by_cases hj14 : j < b14
      · have hl1 : (j : Int) < (b14 : Int) := by omega
        have hl2 : decide ((j : Int) ≤ 8) = false := by simp; omega
        go_wp2_with (refine wpList_store_row rfl 27 _ _ rfl w.heap.size _ rfl rfl 27 _ HR.out.g.res sizePage rfl (by simp [Value.oneCell']) ?_)
        refine bodyPost_ret (v := .agg _) (results_cell_row Tryz.results55 _ _ w.heap.size 27 _ (0, 0) _ rfl HR.out.g.fin.1 Tryz.underlying27 rfl sizePage) rfl ?_
        exact HD.out
      · have hl1 : decide ((j : Int) < (b14 : Int)) = false := by simp; omega
        go_wp2_with (refine wpList_store_row rfl 27 _ _ rfl w.heap.size _ rfl rfl 27 _ HR.out.g.res sizePage rfl (by simp [Value.oneCell']) ?_)
        refine bodyPost_ret (v := .agg _) (results_cell_row Tryz.results55 _ _ w.heap.size 27 _ (0, 0) _ rfl HR.out.g.fin.1 Tryz.underlying27 rfl sizePage) rfl ?_
        exact HD.out
theorem guess_any (w : World) (a : Option Addr) (cap : Nat) (b : List Nat) (hB : Bs w a b) (hl : b.length = 512) : Calls Tryz.prog 55 #[.slice a 512 cap] w (GsQ w b) := by
  by_cases h3 : b.getD 0 0 = 3
  · exact guess_3 w a cap b hB hl h3
  · by_cases h1 : b.getD 0 0 = 1
    · exact guess_1 w a cap b hB hl h1
    · exact guess_r w a cap b hB hl h1 h3
end Go.Proofs.YtlneomgjjkfnoabGreat
