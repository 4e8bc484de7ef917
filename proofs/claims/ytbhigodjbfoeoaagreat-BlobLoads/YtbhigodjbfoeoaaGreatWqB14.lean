import Derived.Test.YtbhigodjbfoeoaaGreatWqB11
import Derived.Test.YtbhigodjbfoeoaaGreatWqB12
import Derived.Test.YtbhigodjbfoeoaaGreatWqB13
import Derived.Deep.RegionHeld3
import Derived.BigRegion
import Derived.BigQuiet
import Derived.Deep.QuietTactic
import Derived.Laws.BitsAllLaws
import Derived.Laws.Cover3
import Derived.Defers
import Derived.Recover
import Derived.Deep.RegionWith
import Derived.Lib.AppendZerosOnto
import Derived.Deep.RegionLaw
import Derived.Lib.SlBytesConst
import Derived.ProofKit
import Derived.OpenShut
import Derived.ShutString
import Derived.ChangeOld
import Derived.Deep.Slices
import Derived.SizedLaws
import Derived.JoinedCond
import Derived.Deep.CutRange
namespace Go.Proofs.YtbhigodjbfoeoaaGreat
set_option linter.unusedVariables false
section
open Go.RowKit
variable {T : TypeId} {w w' : World} {b : Nat} {a : Option Addr} {cap : Nat}
theorem But.cell1 (w : World) (b i : Nat) (u : Value) : But (fun k => k = b) w (w.setCell ⟨b, i, none⟩ u) := (But.refl (fun k => k = b) w).setCell (p := ⟨b, i, none⟩) (fun _ => rfl) u
end
section
open Go.RowKit
variable {w w' : World} {b : Nat} {a : Option Addr} {cap : Nat} {s : RS}
end
section
open Go.RowKit
variable {v w : World} {G : Nat → Prop} {b : Nat} {l : List Nat}
end
section
open Go.RowKit
variable {v w w' : World} {b : Nat} {s s' : RS}
end
section
open Go.RowKit
theorem bx2 (w : World) (t1 t2 : TypeId) (c1 c2 : Array Value) : Bx ((w.alloc (.cells c1 t1)).alloc (.cells c2 t2)) t1 w.heap.size c1 ∧ Bx ((w.alloc (.cells c1 t1)).alloc (.cells c2 t2)) t2 (w.heap.size + 1) c2 := by
  refine ⟨(Bx.new w t1 c1).keep (al _ _), ?_⟩
  have := Bx.new (w.alloc (.cells c1 t1)) t2 c2
  rwa [size_alloc] at this
end
section
open Go.RowKit
theorem Bx.setc {w : World} {t : TypeId} {g : Nat} {cs : Array Value} (h : Bx w t g cs) (i : Nat) (u : Value) : Bx (w.setCell ⟨g, i, none⟩ u) t g (cs.setIfInBounds i u) := heap_setCell_same w g i _ _ _ h
theorem Rw.nty {w : World} {a : Option Addr} {c : Nat} {l : List Nat} (h : Rw w a c l) {t : TypeId} {g : Nat} {cs : Array Value} (hg : Bx w t g cs) (ht : t ≠ 5) {x : Addr} (hx : a = some x) : x.block ≠ g := by
  intro e
  rcases h.cases with ⟨rfl, _⟩ | ⟨g', cur, rfl, hg', _⟩
  · cases hx
  · cases hx
    dsimp only at e
    subst e
    unfold Bx at hg
    rw [hg'] at hg
    simp only [Option.some.injEq, Obj.cells.injEq] at hg
    exact absurd hg.2.1.symm ht
theorem but_setRow (w : World) (g : Nat) (cs : Array Value) : But (fun k => k = g) w (w.setRow g cs) := by
  have h := below_setRow (Below.refl 0 w) (Nat.zero_le g) cs
  exact ⟨h.os, h.tape, h.output, h.size, fun k _ hn => setRow_other _ _ _ _ hn⟩
end
section
open Go.RowKit
theorem but_setCells (g : Nat) : ∀ (vs : List Value) (w : World) (o : Nat), But (fun k => k = g) w (w.setCells g o vs)
  | [], _, _ => But.refl _ _
  | v :: vs, w, o => ((But.refl (fun k => k = g) w).setCell (p := ⟨g, o, none⟩) (fun _ => rfl) v).trans (but_setCells g vs _ (o + 1)) fun _ _ h => h
end
section
open Go.RowKit
structure Pn (v wx : World) (P : Pv) : Prop where
  it : Jw wx P.aI P.cI P.items
  itn : New v none P.aI
  d : Rw wx P.aD P.cD P.data
  dn : New v none P.aD
  fr : ∀ t ∈ rowsOf P.items, Rw wx t.a t.c t.l ∧ New v none t.a ∧ B8 t.l
  dist : ((⟨P.aD, P.cD, P.data⟩ : Br) :: rowsOf P.items).Pairwise brApart
  d8 : B8 P.data
  ns : ∀ r ∈ P.items, N64 r.child ∧ N64 r.size
  nk : N64 P.kind
  nl : N64 P.level
  nn : N64 P.next
theorem Jw.nty {w : World} {a : Option Addr} {c : Nat} {L : List Iv} (h : Jw w a c L) {t : TypeId} {g : Nat} {cs : Array Value} (hg : Bx w t g cs) (ht : t ≠ 34) {x : Addr} (hx : a = some x) : x.block ≠ g := by
  intro e
  rcases h.cases with ⟨rfl, _⟩ | ⟨g', cur, rfl, hg', _⟩
  · cases hx
  · cases hx
    dsimp only at e
    subst e
    unfold Bx at hg
    rw [hg'] at hg
    simp only [Option.some.injEq, Obj.cells.injEq] at hg
    exact absurd hg.2.1.symm ht
theorem Pn.but {S : Nat → Prop} {v wx wy : World} {P : Pv} (h : Pn v wx P) (hb : But S wx wy) (hS : ∀ k, S k → ∃ t cs, Bx wx t k cs ∧ t ≠ 5 ∧ t ≠ 34) : Pn v wy P := by
  have hr : ∀ {a c l}, Rw wx a c l → Rw wy a c l := fun hr => hr.but hb fun x hx hs => by
    obtain ⟨t, cs, h1, h2, h3⟩ := hS _ hs
    exact hr.nty h1 h2 hx rfl
  exact ⟨h.it.but hb fun x hx hs => by
    obtain ⟨t, cs, h1, h2, h3⟩ := hS _ hs
    exact h.it.nty h1 h3 hx rfl, h.itn, hr h.d, h.dn, fun t ht => ⟨hr (h.fr t ht).1, (h.fr t ht).2⟩, h.dist, h.d8, h.ns, h.nk, h.nl, h.nn⟩
theorem Pn.keep {v wx wy : World} {P : Pv} (h : Pn v wx P) (hb : Below wx.heap.size wx wy) : Pn v wy P := h.but (S := fun _ => False) (But.ofBelow hb) fun _ h => h.elim
theorem dr2 (w : World) : Below w.heap.size w w.drew := (Below.refl _ _).drew
end
section
open Go.RowKit
theorem Pn.zero (v w : World) : Pn v w Pv.zero := ⟨Jw.nil _, New.none _ _, Rw.nil _, New.none _ _, (fun _ h => by cases h), List.pairwise_singleton _ _, B8.nil, (fun _ h => by cases h), by simp [N64, Pv.zero], by simp [N64, Pv.zero], by simp [N64, Pv.zero]⟩
theorem Pn.pre {v v' w : World} {P : Pv} (h : Pn v w P) (hv : v'.heap.size ≤ v.heap.size) : Pn v' w P := ⟨h.it, h.itn.mono hv, h.d, h.dn.mono hv, fun t ht => ⟨(h.fr t ht).1, (h.fr t ht).2.1.mono hv, (h.fr t ht).2.2⟩, h.dist, h.d8, h.ns, h.nk, h.nl, h.nn⟩
theorem Pn.row {v w : World} {P : Pv} (h : Pn v w P) {t : TypeId} {g : Nat} {cs : Array Value} (hg : Bx w t g cs) (h1 : t ≠ 5) (h2 : t ≠ 34) (cs' : Array Value) : Pn v (w.setRow g cs') P :=
  h.but (but_setRow _ _ _) fun k hk => by subst hk; exact ⟨t, cs, hg, h1, h2⟩
theorem Pn.pi {v w : World} {P : Pv} (h : Pn v w P) (hl : P.items.length ≤ 2199023255489) : Pi w P := by
  have hc : P.items.length ≤ P.cI := by
    rcases h.it.cases with ⟨_, h1, h2⟩ | ⟨g, cur, _, _, h1, _⟩
    · rw [h1, h2]; simp
    · exact h1
  have hi : ∀ r ∈ P.items, Ii w r := fun r hr => by
    have hs := (rows_sub hr).subset
    obtain ⟨k1, k2, k3⟩ := h.fr ⟨r.aK, r.cK, r.key⟩ (hs (by simp [Iv.rows]))
    obtain ⟨v1, v2, v3⟩ := h.fr ⟨r.aV, r.cV, r.val⟩ (hs (by simp [Iv.rows]))
    exact ⟨k1.bs k3 k1.len_le, k1.cap, v1.bs v3 v1.len_le, v1.cap, (h.ns r hr).1, (h.ns r hr).2⟩
  exact ⟨h.it.qs hi hl, hc, h.d.bs h.d8 h.d.len_le, h.d.cap, h.nk, h.nl, h.nn⟩
end
section
open Go.RowKit
set_option maxRecDepth 8000 in
set_option maxHeartbeats 3200000 in
theorem EqItem_same (w : World) (x y : Iv) (hx : Ii w x) (hy : Ii w y) (he : x.it = y.it) : Calls Tryz.prog 14 #[x.vl, y.vl] w fun e w' => e = .returned (.bool true) ∧ Below w.heap.size w w' := by
  obtain ⟨aK, cK, key, aV, cV, val, child, size⟩ := x
  obtain ⟨bK, dK, key2, bV, dV, val2, child2, size2⟩ := y
  simp only [Iv.it, It.mk.injEq] at he
  obtain ⟨rfl, rfl, rfl, rfl⟩ := he
  have E1 := hide fun (w1 : World) (hb : Below w.heap.size w w1) => EqBytes_same w1 aK bK key.length key.length cK dK key (hx.bk.keep hb) (hy.bk.keep hb) rfl rfl
  have E2 := hide fun (w1 : World) (hb : Below w.heap.size w w1) => EqBytes_same w1 aV bV val.length val.length cV dV val (hx.bv.keep hb) (hy.bv.keep hb) rfl rfl
  obtain ⟨q1, q2⟩ := bx2 w 34 34 (Iv.cs ⟨aK, cK, key, aV, cV, val, child, size⟩) (Iv.cs ⟨bK, dK, key, bV, dV, val, child, size⟩)
  have CC := hide fun (w1 : World) (hb : Below ((w.alloc (.cells (Iv.cs ⟨aK, cK, key, aV, cV, val, child, size⟩) 34)).alloc (.cells (Iv.cs ⟨bK, dK, key, bV, dV, val, child, size⟩) 34)).heap.size ((w.alloc (.cells (Iv.cs ⟨aK, cK, key, aV, cV, val, child, size⟩) 34)).alloc (.cells (Iv.cs ⟨bK, dK, key, bV, dV, val, child, size⟩) 34)) w1) => And.intro (Bx.item (q1.keep hb)) (Bx.item (q2.keep hb))
  clear hx hy q1 q2
  unfold Iv.vl
  simp only [Iv.cs] at *
  go_enter Tryz.func14, Tryz.ntmps14
  go_wp2_with fail
  refine (E1.out _ (bt (al _ _) (al _ _))).mono ?_
  rintro y w1 ⟨rfl, hb1⟩
  obtain ⟨⟨c0, c1, c2, c3⟩, d0, d1, d2, d3⟩ := CC.out _ hb1
  have T1 := hide (bt (bt (al w _) (al _ _)) hb1)
  clear hb1
  go_wp2_with fail
  refine (E2.out _ T1.out).mono ?_
  rintro y w2 ⟨rfl, hb2⟩
  have T2 := hide (bt T1.out hb2)
  clear hb2
  go_wp2
  go_ret
  exact ⟨by simp, T2.out⟩
set_option maxRecDepth 8000 in
set_option maxHeartbeats 3200000 in
theorem EqPage_same (w : World) (p q : Pv) (hp : Pi w p) (hq : Pi w q) (he : p.pg = q.pg) : Calls Tryz.prog 47 #[p.vl, q.vl] w fun e w' => e = .returned (.bool true) ∧ Below w.heap.size w w' := by
  have hin : p.items.length ≤ 2199023255489 := hp.it.2.1
  have HP := hide hp
  have HQ := hide hq
  obtain ⟨q1, q2⟩ := bx2 w 93 93 p.cs q.cs
  have HW := hide (bt (al w (.cells p.cs 93)) (al _ (.cells q.cs 93)))
  obtain ⟨v, hv⟩ : ∃ v, (w.alloc (.cells p.cs 93)).alloc (.cells q.cs 93) = v := ⟨_, rfl⟩
  rw [hv] at q1 q2 HW
  have CC := hide fun (w1 : World) (hb : Below v.heap.size v w1) => And.intro (Bx.page (q1.keep hb)) (Bx.page (q2.keep hb))
  have HIT : Hid (p.items.map Iv.it = q.items.map Iv.it) := congrArg Pg.items he
  have hlen : q.items.length = p.items.length := by have := congrArg List.length HIT.out; simpa using this.symm
  have HEI := hide fun (k : Nat) (hk : k < p.items.length) (w1 : World) (hb : Below v.heap.size v w1) => EqItem_same w1 (p.items.getD k Iv.zero) (q.items.getD k Iv.zero) ((HP.out.it.keep (bt HW.out hb)).1 _ (getD_memR hk)) ((HQ.out.it.keep (bt HW.out hb)).1 _ (getD_memR (by omega))) (by
    have h1 := congrArg (fun L => L.getD k It.zero) HIT.out
    have e1 := Pv.at p k
    have e2 := Pv.at q k
    unfold Pg.at at e1 e2
    rw [← e1, ← e2]
    exact h1)
  have HRA := hide fun (w1 : World) (hb : Below v.heap.size v w1) => HP.out.it.keep (bt HW.out hb)
  have HRB := hide fun (w1 : World) (hb : Below v.heap.size v w1) => HQ.out.it.keep (bt HW.out hb)
  have hd : q.data = p.data := (congrArg Pg.data he).symm
  have ED := hide fun (w1 : World) (hb : Below v.heap.size v w1) => EqBytes_same w1 p.aD q.aD p.data.length q.data.length p.cD q.cD p.data (HP.out.bd.keep (bt HW.out hb)) (hd ▸ HQ.out.bd.keep (bt HW.out hb)) rfl (by rw [hd])
  have h1 : q.kind = p.kind := (congrArg Pg.kind he).symm
  have h2 : q.level = p.level := (congrArg Pg.level he).symm
  have h3 : q.next = p.next := (congrArg Pg.next he).symm
  clear he hp hq q1 q2 HIT hd HP HQ
  obtain ⟨kind, level, aI, cI, items, aD, cD, data, next⟩ := p
  obtain ⟨kind', level', bIa, dI, items', bD, dD, data', next'⟩ := q
  unfold Pv.vl
  simp only [Pv.cs] at *
  subst h1 h2 h3
  rw [hlen] at hv CC ⊢
  obtain ⟨⟨b0, b1, b2, b3, b4⟩, e0, e1, e2, e3, e4⟩ := CC.out _ (Below.refl _ _)
  go_enter Tryz.func47, Tryz.ntmps47
  go_wp2_with fail
  refine (ED.out _ (Below.refl _ _)).mono ?_
  rintro y w1 ⟨rfl, hb1⟩
  have T1 := hide hb1
  clear hb1 hv b0 b1 b2 b3 b4 e0 e1 e2 e3 e4
  obtain ⟨⟨c0, c1, c2, c3, c4⟩, d0, d1, d2, d3, d4⟩ := CC.out _ T1.out
  go_wp2
  go_loopw [5] (fun i wx => ∃ k : Nat, k ≤ items.length ∧ i = .int .i64 k ∧ Below v.heap.size v wx) (fun i _ => items.length - (intOf i).toNat)
  case atStart => exact ⟨0, Nat.zero_le _, rfl, T1.out⟩
  case round =>
    clear T1 c0 c1 c2 c3 c4 d0 d1 d2 d3 d4
    obtain ⟨k, hk, rfl, hT⟩ := hrel
    have T1 := hide hT
    clear hT
    obtain ⟨⟨c0, c1, c2, c3, c4⟩, d0, d1, d2, d3, d4⟩ := CC.out _ T1.out
    by_cases hlt : k < items.length
    · have hlti : (k : Int) < (items.length : Int) := by omega
      have hj1 := w64 (j := k) (by omega)
      have EI := hide (HEI.out k hlt)
      obtain ⟨bI, oI, rfl⟩ : ∃ bI oI, aI = some ⟨bI, oI, none⟩ := by obtain ⟨b2, o2, e2, _⟩ := (HRA.out _ (Below.refl _ _)).at hlt; exact ⟨b2, o2, e2⟩
      obtain ⟨bJ, oJ, rfl⟩ : ∃ bI oI, bIa = some ⟨bI, oI, none⟩ := by obtain ⟨b2, o2, e2, _⟩ := (HRB.out _ (Below.refl _ _)).at (r := k) (by omega); exact ⟨b2, o2, e2⟩
      have HA := hide fun (w1 : World) (hb : Below v.heap.size v w1) => rowAt (HRA.out w1 hb) hlt
      have HB := hide fun (w1 : World) (hb : Below v.heap.size v w1) => rowAt (HRB.out w1 hb) (k := k) (by omega)
      clear HEI HRA HRB
      generalize items.getD k Iv.zero = x at *
      generalize items'.getD k Iv.zero = y at *
      generalize items.length = n at *
      obtain ⟨aK, cK, key, aV, cV, val, child, size⟩ := x
      obtain ⟨bK, dK, key2, bV, dV, val2, child2, size2⟩ := y
      simp only [Iv.vl, Iv.cs] at EI HA HB
      go_wp2
      have T1 := hide (bt T1.out (dr2 _))
      have S1 := And.intro (And.intro (CC.out _ T1.out).1.2.2.1 (CC.out _ T1.out).2.2.2.1) (And.intro (HA.out _ T1.out) (HB.out _ T1.out))
      refine wp_region_held_drew (S := fun w' => (w'.cell? ⟨w.heap.size, 2, none⟩ = some (.slice (some ⟨bI, oI, none⟩) n cI) ∧ w'.cell? ⟨w.heap.size + 1, 2, none⟩ = some (.slice (some ⟨bJ, oJ, none⟩) n dI)) ∧ (w'.cell? ⟨bI, oI + k * 4, none⟩ = some (.slice aK key.length cK) ∧ w'.cell? ⟨bI, oI + k * 4 + 1, none⟩ = some (.slice aV val.length cV) ∧ w'.cell? ⟨bI, oI + k * 4 + 2, none⟩ = some (.int .i64 child) ∧ w'.cell? ⟨bI, oI + k * 4 + 3, none⟩ = some (.int .i64 size)) ∧ (w'.cell? ⟨bJ, oJ + k * 4, none⟩ = some (.slice bK key2.length dK) ∧ w'.cell? ⟨bJ, oJ + k * 4 + 1, none⟩ = some (.slice bV val2.length dV) ∧ w'.cell? ⟨bJ, oJ + k * 4 + 2, none⟩ = some (.int .i64 child2) ∧ w'.cell? ⟨bJ, oJ + k * 4 + 3, none⟩ = some (.int .i64 size2))) (by kernel_rfl) (by exact S1) (fun hHeld => ?_)
      refine wpAnyH_take (i := 0) (v := ?v1) rfl (by kernel_rfl) (by kernel_rfl) (by kernel_rfl) (fun _ _ _ h => h) (Or.inl ⟨by rfl, ?hy1⟩) (by assumption) ?rest1
      case hy1 => (intro w hSw; (try dsimp only at hSw); go_simp <;> with_reducible rfl)
      try simp only [Act.put, List.getElem_toArray, List.getElem_cons_zero, List.setIfInBounds_toArray, List.set_cons_zero, List.set_cons_succ]
      refine wpAnyH_take (i := 1) (v := ?v2) rfl (by kernel_rfl) (by kernel_rfl) (by kernel_rfl) (fun _ _ _ h => h) (Or.inl ⟨by rfl, ?hy2⟩) (by assumption) ?rest2
      case hy2 => (intro w hSw; (try dsimp only at hSw); go_simp <;> with_reducible rfl)
      try simp only [Act.put, List.getElem_toArray, List.getElem_cons_zero, List.getElem_cons_succ, List.setIfInBounds_toArray, List.set_cons_zero, List.set_cons_succ]
      refine wpAnyH_take (i := 2) (v := ?v3) rfl (by kernel_rfl) (by kernel_rfl) (by kernel_rfl) (fun _ _ _ h => h) (Or.inl ⟨by rfl, ?hy3⟩) (by assumption) ?rest3
      case hy3 => (intro w hSw; (try dsimp only at hSw); go_simp <;> with_reducible rfl)
      try simp only [Act.put, List.getElem_toArray, List.getElem_cons_zero, List.getElem_cons_succ, List.setIfInBounds_toArray, List.set_cons_zero, List.set_cons_succ]
      refine wpAnyH_take (i := 3) (v := ?v4) rfl (by kernel_rfl) (by kernel_rfl) (by kernel_rfl) (fun _ _ _ h => h) (Or.inl ⟨by rfl, ?hy4⟩) (by assumption) ?rest4
      case hy4 => (intro w hSw; (try dsimp only at hSw); go_simp <;> with_reducible rfl)
      try simp only [Act.put, List.getElem_toArray, List.getElem_cons_zero, List.getElem_cons_succ, List.setIfInBounds_toArray, List.set_cons_zero, List.set_cons_succ]
      refine wpAnyH_take (i := 4) (v := ?v5) rfl (by kernel_rfl) (by kernel_rfl) (by kernel_rfl) (fun _ _ _ h => h) (Or.inl ⟨by rfl, ?hy5⟩) (by assumption) ?rest5
      case hy5 => (intro w hSw; (try dsimp only at hSw); go_simp <;> with_reducible rfl)
      try simp only [Act.put, List.getElem_toArray, List.getElem_cons_zero, List.getElem_cons_succ, List.setIfInBounds_toArray, List.set_cons_zero, List.set_cons_succ]
      refine wpAnyH_take (i := 5) (v := ?v6) rfl (by kernel_rfl) (by kernel_rfl) (by kernel_rfl) (fun _ _ _ h => h) (Or.inl ⟨by rfl, ?hy6⟩) (by assumption) ?rest6
      case hy6 => (intro w hSw; (try dsimp only at hSw); go_simp <;> with_reducible rfl)
      try simp only [Act.put, List.getElem_toArray, List.getElem_cons_zero, List.getElem_cons_succ, List.setIfInBounds_toArray, List.set_cons_zero, List.set_cons_succ]
      refine wpAnyH_take (i := 6) (v := ?v7) rfl (by kernel_rfl) (by kernel_rfl) (by kernel_rfl) (fun _ _ _ h => h) (Or.inl ⟨by rfl, ?hy7⟩) (by assumption) ?rest7
      case hy7 => (intro w hSw; (try dsimp only at hSw); go_simp <;> with_reducible rfl)
      try simp only [Act.put, List.getElem_toArray, List.getElem_cons_zero, List.getElem_cons_succ, List.setIfInBounds_toArray, List.set_cons_zero, List.set_cons_succ]
      refine wpAnyH_take (i := 7) (v := ?v8) rfl (by kernel_rfl) (by kernel_rfl) (by kernel_rfl) (fun _ _ _ h => h) (Or.inl ⟨by rfl, ?hy8⟩) (by assumption) ?rest8
      case hy8 => (intro w hSw; (try dsimp only at hSw); go_simp <;> with_reducible rfl)
      try simp only [Act.put, List.getElem_toArray, List.getElem_cons_zero, List.getElem_cons_succ, List.setIfInBounds_toArray, List.set_cons_zero, List.set_cons_succ]
      refine wpAnyH_take (i := 8) (v := ?v9) rfl (by kernel_rfl) (by kernel_rfl) (by kernel_rfl) (fun _ _ _ h => h) (Or.inl ⟨by rfl, ?hy9⟩) (by assumption) ?rest9
      case hy9 => (intro w hSw; (try dsimp only at hSw); go_simp <;> with_reducible rfl)
      try simp only [Act.put, List.getElem_toArray, List.getElem_cons_zero, List.getElem_cons_succ, List.setIfInBounds_toArray, List.set_cons_zero, List.set_cons_succ]
      refine wpAnyH_take (i := 9) (v := ?v10) rfl (by kernel_rfl) (by kernel_rfl) (by kernel_rfl) (fun _ _ _ h => h) (Or.inl ⟨by rfl, ?hy10⟩) (by assumption) ?rest10
      case hy10 => (intro w hSw; (try dsimp only at hSw); go_simp <;> with_reducible rfl)
      try simp only [Act.put, List.getElem_toArray, List.getElem_cons_zero, List.getElem_cons_succ, List.setIfInBounds_toArray, List.set_cons_zero, List.set_cons_succ]
      refine wpAnyH_ready (rs := [10]) (by kernel_rfl) (by simp) ?_
      refine AllReadyH.cons rfl (fun K hK => ?_) AllReadyH.nil
      go_simp
      refine (EI.out _ T1.out).mono ?_
      rintro e w9 ⟨rfl, hb⟩
      have T1 := hide (bt T1.out hb)
      have S1 := And.intro (And.intro (CC.out _ T1.out).1.2.2.1 (CC.out _ T1.out).2.2.2.1) (And.intro (HA.out _ T1.out) (HB.out _ T1.out))
      clear hb
      go_wp2_with fail
      refine hK.out _ _ (by exact S1) (fun hHeld => ?_)
      clear hK K
      try simp only [Act.put, List.getElem_toArray, List.getElem_cons_zero, List.getElem_cons_succ, List.setIfInBounds_toArray, List.set_cons_zero, List.set_cons_succ]
      refine wpAnyH_take (i := 11) (v := ?v11) rfl (by kernel_rfl) (by kernel_rfl) (by kernel_rfl) (fun _ _ _ h => h) (Or.inl ⟨by rfl, ?hy11⟩) (by assumption) ?rest11
      case hy11 => (intro w hSw; (try dsimp only at hSw); go_simp <;> with_reducible rfl)
      try simp only [Act.put, List.getElem_toArray, List.getElem_cons_zero, List.getElem_cons_succ, List.setIfInBounds_toArray, List.set_cons_zero, List.set_cons_succ]
      refine wpAnyH_done (by kernel_rfl) ?_ _
      clear S1
      go_wp2
      go_roundw
      case rel => exact ⟨k + 1, by omega, by first | (go_num; done) | exact congrArg (Value.int IntKind.i64) (by omega), T1.out⟩
      case measure => first | exact meas_up _ _ _ hj1 hlt | exact meas_up _ _ _ rfl hlt | (simp [intOf]; omega)
    · obtain rfl : k = items.length := by omega
      go_wp2
      go_ret
      exact ⟨rfl, bt HW.out T1.out⟩
end
section
open Go.RowKit
theorem Jw.butg {w1 w2 : World} {a : Option Addr} {c : Nat} {L : List Iv} (_ : Jw w1 a c L) (hg : w1.grownBy w2 (a.map Addr.block)) : But (fun k => ∃ x, a = some x ∧ x.block = k) w1 w2 :=
  (But.refl _ _).grown hg fun k hk _ => by
    obtain ⟨x, hx, e⟩ := map_some hk
    exact ⟨x, hx, e⟩
end
section
open Go.RowKit
end
section
open Go.RowKit
end
section
open Go.RowKit
theorem two_blocks (w : World) (o p : Obj) {w1 : World} (hb : Below ((w.alloc o).alloc p).heap.size ((w.alloc o).alloc p) w1) : w1.heap[w.heap.size]? = some o ∧ w1.heap[w.heap.size + 1]? = some p ∧ Below w.heap.size w w1 ∧ w.heap.size + 2 ≤ w1.heap.size := by
  have hs : ((w.alloc o).alloc p).heap.size = w.heap.size + 2 := by rw [size_alloc, size_alloc]
  refine ⟨(hb.block _ (by rw [hs]; omega)).trans ?_, (hb.block _ (by rw [hs]; omega)).trans ?_, bt (bt (al _ _) (al _ _)) hb, by have := hb.size; omega⟩
  · rw [heap_alloc_old _ _ (by rw [size_alloc]; omega)]; exact heap_alloc_new _ _
  · have := heap_alloc_new (w.alloc o) p; rw [size_alloc] at this; exact this
theorem CopyBytes_at (w : World) (aa : Option Addr) (n capa : Nat) (p : List Nat) (hB : Bs w aa p) (hn : n = p.length) (hlen : p.length ≤ 140737488355264) :
    Calls Tryz.prog 86 #[.slice aa n capa] w fun x w' => ∃ a' cap', x = .returned (.slice a' p.length cap') ∧ Own w w' a' cap' p := by
  subst hn
  exact (CopyBytes_any w aa p.length capa p hB rfl (by omega)).mono fun _ _ ⟨a', c', h1, h2, h3, h4⟩ => ⟨a', c', h1, h2, h3, h4⟩
theorem but_set4 (g : Nat) (w : World) (a b c d : Value) : But (fun k => k = g) w ((((w.setCell ⟨g, 0, none⟩ a).setCell ⟨g, 1, none⟩ b).setCell ⟨g, 2, none⟩ c).setCell ⟨g, 3, none⟩ d) :=
  ((((But.refl (fun k => k = g) w).setCell (p := ⟨g, 0, none⟩) (fun _ => rfl) a).setCell (p := ⟨g, 1, none⟩) (fun _ => rfl) b).setCell (p := ⟨g, 2, none⟩) (fun _ => rfl) c).setCell (p := ⟨g, 3, none⟩) (fun _ => rfl) d
theorem but_set5 (g : Nat) (w : World) (a b c d e : Value) : But (fun k => k = g) w (((((w.setCell ⟨g, 0, none⟩ a).setCell ⟨g, 1, none⟩ b).setCell ⟨g, 2, none⟩ c).setCell ⟨g, 3, none⟩ d).setCell ⟨g, 4, none⟩ e) :=
  (but_set4 g w a b c d).setCell (p := ⟨g, 4, none⟩) (fun _ => rfl) e
theorem bx_set4 {w : World} {g : Nat} {t : TypeId} {o0 o1 o2 o3 : Value} (h : Bx w t g #[o0, o1, o2, o3]) (a b c d : Value) : Bx ((((w.setCell ⟨g, 0, none⟩ a).setCell ⟨g, 1, none⟩ b).setCell ⟨g, 2, none⟩ c).setCell ⟨g, 3, none⟩ d) t g #[a, b, c, d] := by
  have h4 := (((h.setc 0 a).setc 1 b).setc 2 c).setc 3 d
  have e : (((#[o0, o1, o2, o3].setIfInBounds 0 a).setIfInBounds 1 b).setIfInBounds 2 c).setIfInBounds 3 d = #[a, b, c, d] := by simp
  rw [e] at h4
  exact h4
theorem bx_set5 {w : World} {g : Nat} {t : TypeId} {o0 o1 o2 o3 o4 : Value} (h : Bx w t g #[o0, o1, o2, o3, o4]) (a b c d f : Value) : Bx (((((w.setCell ⟨g, 0, none⟩ a).setCell ⟨g, 1, none⟩ b).setCell ⟨g, 2, none⟩ c).setCell ⟨g, 3, none⟩ d).setCell ⟨g, 4, none⟩ f) t g #[a, b, c, d, f] := by
  have h4 := ((((h.setc 0 a).setc 1 b).setc 2 c).setc 3 d).setc 4 f
  have e : ((((#[o0, o1, o2, o3, o4].setIfInBounds 0 a).setIfInBounds 1 b).setIfInBounds 2 c).setIfInBounds 3 d).setIfInBounds 4 f = #[a, b, c, d, f] := by simp
  rw [e] at h4
  exact h4
theorem fr4 {w : World} {g : Nat} {t : TypeId} {cs : Array Value} (h : Bx w t g cs) : w.frozen? ⟨g, 0, none⟩ = false ∧ w.frozen? ⟨g, 1, none⟩ = false ∧ w.frozen? ⟨g, 2, none⟩ = false ∧ w.frozen? ⟨g, 3, none⟩ = false ∧ w.frozen? ⟨g, 4, none⟩ = false :=
  ⟨frozen_of_row _ _ _ _ _ h, frozen_of_row _ _ _ _ _ h, frozen_of_row _ _ _ _ _ h, frozen_of_row _ _ _ _ _ h, frozen_of_row _ _ _ _ _ h⟩
set_option maxRecDepth 8000 in
set_option maxHeartbeats 3200000 in
theorem CopyItem_any (w : World) (r : Iv) (hR : Ii w r) (hl : r.key.length ≤ 140737488355264) (hh : r.val.length ≤ 140737488355264) :
    Calls Tryz.prog 51 #[r.vl] w fun e w' => ∃ q : Iv, e = .returned q.vl ∧ Io w w' q ∧ q.it = r.it := by
  have S1 := hide fun w1 (hb : Below w.heap.size w w1) => CopyBytes_at w1 r.aK r.key.length r.cK r.key (hR.bk.keep hb) rfl hl
  have S2 := hide fun w1 (hb : Below w.heap.size w w1) => CopyBytes_at w1 r.aV r.val.length r.cV r.val (hR.bv.keep hb) rfl hh
  have L8 := hide hR.bk.1
  have H8 := hide hR.bv.1
  clear hR
  unfold Iv.vl
  obtain ⟨aK, cK, key, aV, cV, val, child, size⟩ := r
  have IT := hide fun (W : World) (h : W.heap[w.heap.size]? = some (.cells (Iv.cs ⟨aK, cK, key, aV, cV, val, child, size⟩) 34)) => Bx.item (p := ⟨aK, cK, key, aV, cV, val, child, size⟩) h
  have IS := hide fun (W : World) (h : W.heap[w.heap.size]? = some (.cells (Iv.cs ⟨aK, cK, key, aV, cV, val, child, size⟩) 34)) (a b c d : Value) => Bx.item (p := ⟨aK, cK, key, aV, cV, val, child, size⟩) ((show Bx W 34 w.heap.size _ from h).but (but_set4 (w.heap.size + 1) W a b c d) (by omega))
  have TZ := hide fun (W : World) (h : W.heap[w.heap.size + 1]? = some (.cells (Iv.cs Iv.zero) 34)) => And.intro (Bx.item (p := Iv.zero) h) (fr4 (show Bx W 34 (w.heap.size + 1) _ from h))
  have TM := hide fun (W : World) (h : W.heap[w.heap.size + 1]? = some (.cells (Iv.cs Iv.zero) 34)) (a b c d : Value) => bx_set4 (show Bx W 34 (w.heap.size + 1) _ from h) a b c d
  dsimp only [Iv.cs, Iv.zero, List.length_nil] at *
  go_enter Tryz.func51, Tryz.ntmps51
  go_wp2
  have T0 : Hid (Below ((w.alloc (.cells #[.slice aK key.length cK, .slice aV val.length cV, .int .i64 child, .int .i64 size] 34)).alloc (.cells #[.slice none 0 0, .slice none 0 0, .int .i64 0, .int .i64 0] 34)).heap.size ((w.alloc (.cells #[.slice aK key.length cK, .slice aV val.length cV, .int .i64 child, .int .i64 size] 34)).alloc (.cells #[.slice none 0 0, .slice none 0 0, .int .i64 0, .int .i64 0] 34)) ((w.alloc (.cells #[.slice aK key.length cK, .slice aV val.length cV, .int .i64 child, .int .i64 size] 34)).alloc (.cells #[.slice none 0 0, .slice none 0 0, .int .i64 0, .int .i64 0] 34)).drew) := (Below.refl _ _).drew
  have C0 := IT.out _ (two_blocks w _ _ T0.out).1
  have hn : w.heap.size + 1 ≠ w.heap.size := by omega
  go_region_held3 (fun w' => w'.cell? ⟨w.heap.size, 0, none⟩ = some (.slice aK key.length cK) ∧ w'.cell? ⟨w.heap.size, 1, none⟩ = some (.slice aV val.length cV) ∧ w'.cell? ⟨w.heap.size, 2, none⟩ = some (.int .i64 child) ∧ w'.cell? ⟨w.heap.size, 3, none⟩ = some (.int .i64 size))
    (first | with_reducible exact C0 | with_reducible exact IS.out _ (two_blocks w _ _ T0.out).1 _ _ _ _)
    (first | (go_at_call 86; with_reducible refine (S1.out _ (two_blocks w _ _ T0.out).2.2.1).mono ?_; rintro e w1 ⟨g1, d1, rfl, o1⟩; have hb1 := o1.b; have Z1 := hide (fun x (hx : g1 = some x) => Nat.le_trans (two_blocks w _ _ T0.out).2.2.2 (o1.fresh hx)); have L1 := hide (fun x (hx : g1 = some x) => o1.r.lt hx); have T0 := hide (bt T0.out hb1); have C0 := IT.out _ (two_blocks w _ _ T0.out).1; have R1 := hide o1.r; clear hb1 o1) | (go_at_call 86; with_reducible refine (S2.out _ (two_blocks w _ _ T0.out).2.2.1).mono ?_; rintro e w2 ⟨g2, d2, rfl, o2⟩; have hb2 := o2.b; have Z2 := hide (fun x y (hx : g1 = some x) (hy : g2 = some y) => Nat.lt_of_lt_of_le (L1.out x hx) (o2.fresh hy)); have Z3 := hide (fun y (hy : g2 = some y) => Nat.le_trans (two_blocks w _ _ T0.out).2.2.2 (o2.fresh hy)); have T0 := hide (bt T0.out hb2); have C0 := IT.out _ (two_blocks w _ _ T0.out).1; obtain ⟨⟨y0, y1, y2, y3⟩, f0, f1, f2, f3, f4⟩ := TZ.out _ (two_blocks w _ _ T0.out).2.1; have R1 := hide (R1.out.keep hb2); have R2 := hide o2.r; clear hb2 o2))
  clear C0
  have M1 := hide (TM.out _ (two_blocks w _ _ T0.out).2.1 (.slice g1 key.length d1) (.slice g2 val.length d2) (.int .i64 child) (.int .i64 size))
  have BB := hide (but_set4 (w.heap.size + 1) w2 (.slice g1 key.length d1) (.slice g2 val.length d2) (.int .i64 child) (.int .i64 size))
  have TB := hide (two_blocks w _ _ T0.out).2.2.1
  clear y0 y1 y2 y3 f0 f1 f2 f3 f4 T0
  go_wp2
  refine bodyPost_ret (v := .agg _) (results_cell_row Tryz.results51 _ _ (w.heap.size + 1) 34 _ (0, 0) _ rfl M1.out Tryz.underlying34 rfl sizeItem) rfl ?_
  have bel : Below w.heap.size w _ := ((But.ofBelow (S := fun k => k = w.heap.size + 1) TB.out).trans BB.out fun _ _ e => e).below fun k hk e => by omega
  have w1 := R1.out.but BB.out fun x hx e => by have := Z1.out x hx; omega
  have w2' := R2.out.but BB.out fun x hx e => by have := Z3.out x hx; omega
  exact ⟨⟨g1, d1, key, g2, d2, val, child, size⟩, rfl, ⟨⟨w1, fun x hx => .inr (by have := Z1.out x hx; omega), bel⟩, ⟨w2', fun x hx => .inr (by have := Z3.out x hx; omega), bel⟩, fun x y hx hy e => by have := Z2.out x y hx hy; omega, L8.out, H8.out⟩, rfl⟩
end
section
open Go.RowKit
theorem Fam.grown {w W1 W2 : World} {T : List Br} {a : Option Addr} {c : Nat} {L : List Iv} (f : Fam w W1 T) (hJ : Jw W1 a c L) (hg : W1.grownBy W2 (a.map Addr.block)) (hw : Below w.heap.size w W2) : Fam w W2 T :=
  f.but (hJ.butg hg) hw fun t ht _ hx ⟨_, hy, e⟩ => hJ.ne (f.own t ht).1.r hy hx e
structure Ck (w W : World) (a : Option Addr) (c : Nat) (M : List Iv) (L : List Iv) : Prop where
  j : JOwn w W a c M
  f : Fam w W (rowsOf M)
  e : M.map Iv.it = L.map Iv.it
  n : ∀ r ∈ M, N64 r.child ∧ N64 r.size
theorem Ck.len {w W : World} {a : Option Addr} {c : Nat} {M L : List Iv} (h : Ck w W a c M L) : M.length = L.length := by have := congrArg List.length h.e; simpa using this
theorem Ck.keep {w W W' : World} {a : Option Addr} {c : Nat} {M L : List Iv} (h : Ck w W a c M L) (hb : Below W.heap.size W W') : Ck w W' a c M L := ⟨h.j.keep hb, h.f.keep hb, h.e, h.n⟩
theorem Ck.nil (w : World) {W : World} (hb : Below w.heap.size w W) : Ck w W none 0 [] [] := ⟨JOwn.nil w hb, Fam.nil _ _, rfl, (fun _ h => by cases h)⟩
theorem box_item (w : World) (x : Iv) (g : Nat) (hg : g = w.heap.size) : ∀ j u, x.cs.toList[j]? = some u → (w.alloc (.cells x.cs 34)).cell? ((⟨g, 0, none⟩ : Addr).add j) = some u := by
  subst hg
  intro j u h
  rw [Addr.add_mid, Nat.zero_add, cell_of_row _ _ _ _ _ _ (heap_alloc_new _ _)]
  simpa using h
theorem Ck.push {w W W0 W1 W2 : World} {a : Option Addr} {c g c2 : Nat} {M L : List Iv} {q x : Iv} (h : Ck w W a c M L) (hq : Io W W0 q) (he : q.it = x.it) (hn : N64 q.child ∧ N64 q.size) (hb : Below W0.heap.size W0 W1) (hJ : Jw W2 (some ⟨g, 0, none⟩) c2 (M ++ [q])) (hN : New W1 a (some ⟨g, 0, none⟩)) (hg : W1.grownBy W2 (a.map Addr.block)) :
    Ck w W2 (some ⟨g, 0, none⟩) c2 (M ++ [q]) (L ++ [x]) := by
  have b1 : Below W.heap.size W W1 := bt hq.k.b hb
  have j2 := h.j.step b1 hJ hN hg
  have f1 : Fam w W1 (rowsOf M ++ q.rows) := h.f.add (hq.fam.keep hb) b1 h.j.b
  refine ⟨j2, ?_, by rw [List.map_append, List.map_append, h.e]; simp [he], fun r hr => ?_⟩
  · rw [rowsOf_append, rowsOf_one]
    exact f1.grown (h.j.r.keep b1) hg j2.b
  · rcases List.mem_append.1 hr with hr | hr
    · exact h.n r hr
    · rw [List.mem_singleton.1 hr]; exact hn
theorem it_n {q x : Iv} (h : q.it = x.it) (hx : N64 x.child ∧ N64 x.size) : N64 q.child ∧ N64 q.size := by
  have h1 : q.child = x.child := congrArg It.child h
  have h2 : q.size = x.size := congrArg It.size h
  rw [h1, h2]; exact hx
set_option maxRecDepth 8000 in
set_option maxHeartbeats 3200000 in
theorem CopyItems_any (w : World) (a : Option Addr) (n c : Nat) (L : List Iv) (hJ : Js w a L) (hn : n = L.length) (hL : L.length ≤ 1048576) (hs : ∀ r ∈ L, r.key.length ≤ 140737488355264 ∧ r.val.length ≤ 140737488355264) :
    Calls Tryz.prog 101 #[.slice a n c] w fun e w' => ∃ a' c' M, e = .returned (.slice a' L.length c') ∧ Ck w w' a' c' M L := by
  subst hn
  have HR := hide fun (w1 : World) (hb : Below w.heap.size w w1) (k : Nat) (hk : k < L.length) => (hJ.keep hb).at hk
  have CI := hide fun (w1 : World) (hb : Below w.heap.size w w1) (k : Nat) (hk : k < L.length) => CopyItem_any w1 (L.getD k Iv.zero) ((hJ.1 _ (getD_memR hk)).keep hb) (hs _ (getD_memR hk)).1 (hs _ (getD_memR hk)).2
  have HN := hide fun (k : Nat) (hk : k < L.length) => And.intro (hJ.1 _ (getD_memR hk)).nc (hJ.1 _ (getD_memR hk)).ns
  have HT := hide fun (k : Nat) (hk : k < L.length) => (show L.take (k + 1) = L.take k ++ [L.getD k Iv.zero] from by rw [List.take_succ_eq_append_getElem hk]; simp [hk])
  clear hJ hs
  go_enter Tryz.func101, Tryz.ntmps101
  go_wp2
  go_loopw [3, 4] (fun o i wx => ∃ (k : Nat) (ak : Option Addr) (ck : Nat) (M : List Iv), k ≤ L.length ∧ i = .int .i64 k ∧ o = .slice ak k ck ∧ Ck w wx ak ck M (L.take k)) (fun _ i _ => L.length - (intOf i).toNat)
  case atStart => exact ⟨0, none, 0, [], Nat.zero_le _, rfl, rfl, Ck.nil w (Below.refl _ _)⟩
  case round =>
    obtain ⟨k, ak, ck, M, hk, rfl, rfl, hO⟩ := hrel
    have O0 := hide hO
    have HM : Hid (k = M.length) := by show _ = _; rw [hO.len, List.length_take]; omega
    clear hO
    by_cases hlt : k < L.length
    · have hlti : (k : Int) < (L.length : Int) := by omega
      have hk1 : k + 1 ≤ L.length := by omega
      obtain ⟨bI, off, rfl, hr⟩ := HR.out _ O0.out.j.b k hlt
      obtain ⟨k0, k1, k2, k3⟩ := range4 hr
      have C1 := hide (CI.out _ O0.out.j.b k hlt)
      have N1 := hide (HN.out k hlt)
      have T1 := hide (HT.out k hlt)
      have hml : M.length + 1 ≤ 2199023255489 := by have := HM.out; omega
      clear hr HR CI HN HT
      generalize L.getD k Iv.zero = x at *
      have INQ := hide fun (q : Iv) (h : q.it = x.it) => it_n h N1.out
      obtain ⟨aK, cK, key, aV, cV, val, child, size⟩ := x
      simp only [Iv.vl, Iv.cs] at C1 k0 k1 k2 k3
      go_wp2_with fail
      refine C1.out.mono ?_
      rintro e w2 ⟨q, rfl, hq, he⟩
      have Q1 := hide hq
      have Q2 := hide he
      have Q3 := hide (INQ.out q he)
      have J2 := hide ((O0.out.j.keep hq.k.b).r.keep (al w2 (.cells q.cs 34)))
      have BX := hide (box_item w2 q w2.heap.size rfl)
      clear hq he C1 k0 k1 k2 k3
      obtain ⟨qK, dK, kq, qV, dV, vq, cq, sq⟩ := q
      simp only [Iv.cs] at J2 BX ⊢
      go_wp2_with (at_builtin; refine wpList_apJ rfl _ _ rfl ak k ck M rfl HM.out J2.out ⟨_, 0, none⟩ 1 ⟨qK, dK, kq, qV, dV, vq, cq, sq⟩ rfl BX.out hml ?_)
      intro g2 c2 w5 hJ hN hg
      have O5 := hide (O0.out.push Q1.out Q2.out Q3.out (al _ _) hJ hN hg)
      rw [← T1.out] at O5
      clear hJ hN hg
      go_wp2
      go_roundw
      case rel => exact ⟨k + 1, _, c2, _, hk1, by first | (go_num; done) | exact congrArg (Value.int IntKind.i64) (by omega), rfl, O5.out⟩
      case measure => first | exact meas_up _ _ _ rfl hlt | (simp [intOf]; omega)
    · obtain rfl : k = L.length := by omega
      rw [List.take_length] at O0
      go_wp2
      go_ret
      exact ⟨ak, ck, M, rfl, O0.out⟩
set_option maxRecDepth 8000 in
set_option maxHeartbeats 3200000 in
theorem CopyPage_any (w : World) (r : Pv) (hR : Pi w r) (hd : r.data.length ≤ 140737488355264) (hi : r.items.length ≤ 1048576) (hs : ∀ x ∈ r.items, x.key.length ≤ 140737488355264 ∧ x.val.length ≤ 140737488355264) :
    Calls Tryz.prog 62 #[r.vl] w fun e w' => ∃ q : Pv, e = .returned q.vl ∧ Pi w' q ∧ q.pg = r.pg ∧ Below w.heap.size w w' := by
  have S1 := hide fun w1 (hb : Below w.heap.size w w1) => CopyItems_any w1 r.aI r.items.length r.cI r.items (hR.it.keep hb) rfl hi hs
  have S2 := hide fun w1 (hb : Below w.heap.size w w1) => CopyBytes_at w1 r.aD r.data.length r.cD r.data (hR.bd.keep hb) rfl hd
  have L8 := hide hR.bd.1
  have NK := hide (And.intro hR.nk (And.intro hR.nl hR.nn))
  clear hR
  unfold Pv.vl
  obtain ⟨kind, level, aI, cI, items, aD, cD, data, next⟩ := r
  have IT := hide fun (W : World) (h : W.heap[w.heap.size]? = some (.cells (Pv.cs ⟨kind, level, aI, cI, items, aD, cD, data, next⟩) 93)) => Bx.page (p := ⟨kind, level, aI, cI, items, aD, cD, data, next⟩) h
  have IS := hide fun (W : World) (h : W.heap[w.heap.size]? = some (.cells (Pv.cs ⟨kind, level, aI, cI, items, aD, cD, data, next⟩) 93)) (a b c d f : Value) => Bx.page (p := ⟨kind, level, aI, cI, items, aD, cD, data, next⟩) ((show Bx W 93 w.heap.size _ from h).but (but_set5 (w.heap.size + 1) W a b c d f) (by omega))
  have TZ := hide fun (W : World) (h : W.heap[w.heap.size + 1]? = some (.cells (Pv.cs Pv.zero) 93)) => And.intro (Bx.page (p := Pv.zero) h) (fr4 (show Bx W 93 (w.heap.size + 1) _ from h))
  have TM := hide fun (W : World) (h : W.heap[w.heap.size + 1]? = some (.cells (Pv.cs Pv.zero) 93)) (a b c d f : Value) => bx_set5 (show Bx W 93 (w.heap.size + 1) _ from h) a b c d f
  dsimp only [Pv.cs, Pv.zero, List.length_nil] at *
  go_enter Tryz.func62, Tryz.ntmps62
  go_wp2
  have T0 : Hid (Below ((w.alloc (.cells #[.int .i64 kind, .int .i64 level, .slice aI items.length cI, .slice aD data.length cD, .int .i64 next] 93)).alloc (.cells #[.int .i64 0, .int .i64 0, .slice none 0 0, .slice none 0 0, .int .i64 0] 93)).heap.size ((w.alloc (.cells #[.int .i64 kind, .int .i64 level, .slice aI items.length cI, .slice aD data.length cD, .int .i64 next] 93)).alloc (.cells #[.int .i64 0, .int .i64 0, .slice none 0 0, .slice none 0 0, .int .i64 0] 93)) ((w.alloc (.cells #[.int .i64 kind, .int .i64 level, .slice aI items.length cI, .slice aD data.length cD, .int .i64 next] 93)).alloc (.cells #[.int .i64 0, .int .i64 0, .slice none 0 0, .slice none 0 0, .int .i64 0] 93)).drew) := (Below.refl _ _).drew
  have C0 := IT.out _ (two_blocks w _ _ T0.out).1
  have hn : w.heap.size + 1 ≠ w.heap.size := by omega
  go_region_held3 (fun w' => w'.cell? ⟨w.heap.size, 0, none⟩ = some (.int .i64 kind) ∧ w'.cell? ⟨w.heap.size, 1, none⟩ = some (.int .i64 level) ∧ w'.cell? ⟨w.heap.size, 2, none⟩ = some (.slice aI items.length cI) ∧ w'.cell? ⟨w.heap.size, 3, none⟩ = some (.slice aD data.length cD) ∧ w'.cell? ⟨w.heap.size, 4, none⟩ = some (.int .i64 next))
    (first | with_reducible exact C0 | with_reducible exact IS.out _ (two_blocks w _ _ T0.out).1 _ _ _ _ _)
    (first | (go_at_call 101; with_reducible refine (S1.out _ (two_blocks w _ _ T0.out).2.2.1).mono ?_; rintro e w1 ⟨g1, d1, M, rfl, o1⟩; have hb1 := o1.j.b; have T0 := hide (bt T0.out hb1); have C0 := IT.out _ (two_blocks w _ _ T0.out).1; have R1 := hide o1; clear hb1 o1) | (go_at_call 86; with_reducible refine (S2.out _ (two_blocks w _ _ T0.out).2.2.1).mono ?_; rintro e w2 ⟨g2, d2, rfl, o2⟩; have hb2 := o2.b; have T0 := hide (bt T0.out hb2); have C0 := IT.out _ (two_blocks w _ _ T0.out).1; obtain ⟨⟨y0, y1, y2, y3, y4⟩, f0, f1, f2, f3, f4⟩ := TZ.out _ (two_blocks w _ _ T0.out).2.1; have R1 := hide (R1.out.keep hb2); have R2 := hide o2.r; clear hb2 o2))
  clear C0
  have M1 := hide (TM.out _ (two_blocks w _ _ T0.out).2.1 (.int .i64 kind) (.int .i64 level) (.slice g1 items.length d1) (.slice g2 data.length d2) (.int .i64 next))
  have BB := hide (but_set5 (w.heap.size + 1) w2 (.int .i64 kind) (.int .i64 level) (.slice g1 items.length d1) (.slice g2 data.length d2) (.int .i64 next))
  have TB := hide (two_blocks w _ _ T0.out).2.2.1
  have X1 : Hid (Bx w2 93 (w.heap.size + 1) _) := (two_blocks w _ _ T0.out).2.1
  clear y0 y1 y2 y3 y4 f0 f1 f2 f3 f4 T0
  go_wp2
  refine bodyPost_ret (v := .agg _) (results_cell_row Tryz.results62 _ _ (w.heap.size + 1) 93 _ (0, 0) _ rfl M1.out Tryz.underlying93 rfl sizePage) rfl ?_
  have bel : Below w.heap.size w _ := ((But.ofBelow (S := fun k => k = w.heap.size + 1) TB.out).trans BB.out fun _ _ e => e).below fun k hk e => by omega
  have r2 := R2.out.but BB.out fun x hx e => R2.out.nty X1.out (by decide) hx e
  have j2 := R1.out.j.r.but BB.out fun x hx e => R1.out.j.r.nty X1.out (by decide) hx e
  have hml := R1.out.len
  have ii : ∀ r ∈ M, Ii _ r := fun r hr => by
    have k := Fam.io (R1.out.f.sub (rows_sub hr))
    have kk := k.k.r.but BB.out fun x hx e => k.k.r.nty X1.out (by decide) hx e
    have kv := k.v.r.but BB.out fun x hx e => k.v.r.nty X1.out (by decide) hx e
    exact ⟨kk.bs k.k8 kk.len_le, kk.cap, kv.bs k.v8 kv.len_le, kv.cap, (R1.out.n r hr).1, (R1.out.n r hr).2⟩
  have hc1 : M.length ≤ d1 := by
    rcases j2.cases with ⟨_, h1, h2⟩ | ⟨g, cur, _, _, h1, _⟩
    · rw [h1, h2]; simp
    · exact h1
  refine ⟨⟨kind, level, g1, d1, M, g2, d2, data, next⟩, by rw [← hml], ⟨j2.qs ii (by omega), hc1, r2.bs L8.out r2.len_le, r2.cap, NK.out.1, NK.out.2.1, NK.out.2.2⟩, ?_, bel⟩
  unfold Pv.pg
  dsimp only
  rw [R1.out.e]
end
section
open Go.RowKit
variable {v0 W W2 : World} {p : Pv} {g3 gD g j : Nat} {D : List Iv}
end
section
open Go.RowKit
theorem infoBytes : (Tryz.prog.info? 32).map (fun i => (i.zero, i.size, i.bytes)) = some (some (.slice none 0 0), 1, 24) := by kernel_rfl
def Ar (w : World) (at' : Option Addr) (ct : Nat) (vs : List Value) : Prop := w.ownsRow 0 32 1 (.slice at' vs.length ct) vs.length vs
theorem Ar.nil (w : World) : Ar w none 0 [] := World.ownsRow_nil w 0 32 1
theorem Ar.cases {w : World} {a : Option Addr} {cap : Nat} {vs : List Value} (h : Ar w a cap vs) : (a = none ∧ cap = 0 ∧ vs = []) ∨
    ∃ g cur, a = some ⟨g, 0, none⟩ ∧ w.heap[g]? = some (.cells cur 32 (0, 0)) ∧ vs.length ≤ cap ∧ cap ≤ maxLen ∧ cur.size = cap ∧ cur.toList.take vs.length = vs := by
  obtain ⟨_, h2⟩ := h
  rcases h2 with ⟨hv, h0⟩ | ⟨g, cap', cur, hv, _, hg, hn, hm, hs, ht⟩
  · simp only [Value.slice.injEq] at hv
    exact .inl ⟨hv.1, hv.2.2, List.length_eq_zero_iff.1 h0⟩
  · simp only [Value.slice.injEq] at hv
    obtain ⟨h1, _, rfl⟩ := hv
    exact .inr ⟨g, cur, h1, hg, hn, hm, by omega, by rw [Nat.mul_one] at ht; exact ht⟩
theorem Ar.mk {w : World} {g cap : Nat} {cur : Array Value} {vs : List Value} (hg : w.heap[g]? = some (.cells cur 32 (0, 0))) (hn : vs.length ≤ cap) (hm : cap ≤ maxLen) (hs : cur.size = cap) (ht : cur.toList.take vs.length = vs) : Ar w (some ⟨g, 0, none⟩) cap vs :=
  ⟨by rw [Nat.mul_one], .inr ⟨g, cap, cur, rfl, Nat.zero_le _, hg, hn, hm, by omega, by rw [Nat.mul_one]; exact ht⟩⟩
theorem Ar.lt {w : World} {a : Option Addr} {cap : Nat} {vs : List Value} (h : Ar w a cap vs) {x : Addr} (hx : a = some x) : x.block < w.heap.size := by
  rcases h.cases with ⟨rfl, _⟩ | ⟨g, cur, rfl, hg, _⟩
  · cases hx
  · cases hx; exact (Array.getElem?_eq_some_iff.1 hg).1
theorem Ar.but {S : Nat → Prop} {w w' : World} {a : Option Addr} {cap : Nat} {vs : List Value} (h : Ar w a cap vs) (hb : But S w w') (hn : ∀ x, a = some x → ¬ S x.block) : Ar w' a cap vs := by
  rcases h.cases with ⟨rfl, rfl, rfl⟩ | ⟨g, cur, rfl, hg, h1, h2, h3, h4⟩
  · exact Ar.nil w'
  · exact Ar.mk ((hb.block g (Array.getElem?_eq_some_iff.1 hg).1 (hn _ rfl)).trans hg) h1 h2 h3 h4
theorem Ar.keep {w w' : World} {a : Option Addr} {cap : Nat} {vs : List Value} (h : Ar w a cap vs) (hb : Below w.heap.size w w') : Ar w' a cap vs :=
  h.but (S := fun _ => False) (But.ofBelow hb) (fun _ _ hf => hf)
theorem run_apRows (w : World) (ty : TypeId) (a : Option Addr) (n cap : Nat) (vs : List Value) (hn : n = vs.length) (hR : Ar w a cap vs) (ad : Addr) (c : Nat) (v : Value) (hc : w.cell? ad = some v) (h1 : v.oneCell' = true) (hlen : (vs.length + 1) * 24 ≤ 140737488355328) :
    ∃ g cap' w', (Builtin.append_ #[41, 41] ty #[.slice a n cap, .slice (some ad) 1 c]).run Tryz.prog w = .ok (.slice (some ⟨g, 0, none⟩) (n + 1) cap') w' ∧
      Ar w' (some ⟨g, 0, none⟩) cap' (vs ++ [v]) ∧ New w a (some ⟨g, 0, none⟩) ∧ w.grownBy w' (a.map Addr.block) := by
  subst hn
  obtain ⟨i0, hi, hz0, hz1, hz2⟩ := info_parts infoBytes
  obtain ⟨g, cap', w', hr, k1, k2, k3, k4⟩ := run_append_lies (P := Tryz.prog) w 41 ty 0 32 i0 (.slice none 0 0) 1 24 Tryz.underlying41 hi hz0 hz1 hz2 rfl (by decide) (.slice a vs.length cap) vs.length vs hR ad 1 c [v] rfl
    (by intro j u hj
        match j, hj with
        | 0, hj => simp at hj; subst hj; simpa [Addr.add] using hc) (by intro u hu; simp at hu; subst hu; exact h1) (by decide) (by unfold maxLen; omega) hlen (Nat.zero_le _) w.heap.size rfl
  rw [ob_eq] at k2 k3
  refine ⟨g, cap', w', hr, ?_, ?_, k2⟩
  · unfold Ar
    rw [List.length_append]
    exact k1
  · intro y hy
    simp only [Option.some.injEq] at hy
    subst hy
    rcases k3 with k3 | k3
    · obtain ⟨z, hz, e⟩ := map_some k3
      exact .inl ⟨z, hz, e⟩
    · exact .inr (by show _ ≤ g; omega)
theorem wpList_apRows {w : World} {ops : Array Oper} {rest : List Oper} {o : Oper} {a : Act} {Q : Exit → Act → World → Prop} (hgd : o.guard = none) (s x : Operand)
    (ho : o.op = .call { callee := .builtin .append, args := #[s, x], argTypes := #[41, 41] }) (ao : Option Addr) (n cap : Nat) (vs : List Value) (hs : a.eval s = .slice ao n cap) (hn : n = vs.length) (hR : Ar w ao cap vs)
    (ad : Addr) (c : Nat) (v : Value) (hx : a.eval x = .slice (some ad) 1 c) (hc : w.cell? ad = some v) (h1 : v.oneCell' = true) (hlen : (vs.length + 1) * 24 ≤ 140737488355328)
    (h : ∀ g cap' w', Ar w' (some ⟨g, 0, none⟩) cap' (vs ++ [v]) → New w ao (some ⟨g, 0, none⟩) → w.grownBy w' (ao.map Addr.block) → wpList Tryz.prog ops Q rest (a.put o.dst (.slice (some ⟨g, 0, none⟩) (n + 1) cap')) w') : wpList Tryz.prog ops Q (o :: rest) a w := by
  refine wpList_plain hgd fun K hK => ?_
  obtain ⟨g, cap', w', hr, k1, k2, k3⟩ := run_apRows w o.type ao n cap vs hn hR ad c v hc h1 hlen
  unfold Oper.wp execOp
  simp only [ho, resolve, invoke, builtin, Sem.run_bind, Sem.run_pure, Result.andThen_ok, List.map_toArray, List.map_cons, List.map_nil, hs, hx, hr]
  exact hK _ _ (h g cap' w' k1 k2 k3)
end
section
open Go.RowKit
end
section
open Go.RowKit
end
section
open Go.RowKit
end
section
open Go.RowKit
end
section
open Go.RowKit
end
section
open Go.RowKit
end
section
open Go.RowKit
end
section
open Go.RowKit
set_option maxRecDepth 8000 in
set_option maxHeartbeats 3200000 in
theorem CopyPage_pn (w : World) (r : Pv) (hR : Pi w r) (hd : r.data.length ≤ 140737488355264) (hi : r.items.length ≤ 1048576) (hs : ∀ x ∈ r.items, x.key.length ≤ 140737488355264 ∧ x.val.length ≤ 140737488355264) :
    Calls Tryz.prog 62 #[r.vl] w fun e w' => ∃ q : Pv, e = .returned q.vl ∧ Pn w w' q ∧ q.items.length = r.items.length ∧ q.pg = r.pg ∧ Below w.heap.size w w' := by
  have S1 := hide fun w1 (hb : Below w.heap.size w w1) => CopyItems_any w1 r.aI r.items.length r.cI r.items (hR.it.keep hb) rfl hi hs
  have S2 := hide fun w1 (hb : Below w.heap.size w w1) => CopyBytes_at w1 r.aD r.data.length r.cD r.data (hR.bd.keep hb) rfl hd
  have L8 := hide hR.bd.1
  have NK := hide (And.intro hR.nk (And.intro hR.nl hR.nn))
  clear hR
  unfold Pv.vl
  obtain ⟨kind, level, aI, cI, items, aD, cD, data, next⟩ := r
  have IT := hide fun (W : World) (h : W.heap[w.heap.size]? = some (.cells (Pv.cs ⟨kind, level, aI, cI, items, aD, cD, data, next⟩) 93)) => Bx.page (p := ⟨kind, level, aI, cI, items, aD, cD, data, next⟩) h
  have IS := hide fun (W : World) (h : W.heap[w.heap.size]? = some (.cells (Pv.cs ⟨kind, level, aI, cI, items, aD, cD, data, next⟩) 93)) (a b c d f : Value) => Bx.page (p := ⟨kind, level, aI, cI, items, aD, cD, data, next⟩) ((show Bx W 93 w.heap.size _ from h).but (but_set5 (w.heap.size + 1) W a b c d f) (by omega))
  have TZ := hide fun (W : World) (h : W.heap[w.heap.size + 1]? = some (.cells (Pv.cs Pv.zero) 93)) => And.intro (Bx.page (p := Pv.zero) h) (fr4 (show Bx W 93 (w.heap.size + 1) _ from h))
  have TM := hide fun (W : World) (h : W.heap[w.heap.size + 1]? = some (.cells (Pv.cs Pv.zero) 93)) (a b c d f : Value) => bx_set5 (show Bx W 93 (w.heap.size + 1) _ from h) a b c d f
  dsimp only [Pv.cs, Pv.zero, List.length_nil] at *
  go_enter Tryz.func62, Tryz.ntmps62
  go_wp2
  have T0 : Hid (Below ((w.alloc (.cells #[.int .i64 kind, .int .i64 level, .slice aI items.length cI, .slice aD data.length cD, .int .i64 next] 93)).alloc (.cells #[.int .i64 0, .int .i64 0, .slice none 0 0, .slice none 0 0, .int .i64 0] 93)).heap.size ((w.alloc (.cells #[.int .i64 kind, .int .i64 level, .slice aI items.length cI, .slice aD data.length cD, .int .i64 next] 93)).alloc (.cells #[.int .i64 0, .int .i64 0, .slice none 0 0, .slice none 0 0, .int .i64 0] 93)) ((w.alloc (.cells #[.int .i64 kind, .int .i64 level, .slice aI items.length cI, .slice aD data.length cD, .int .i64 next] 93)).alloc (.cells #[.int .i64 0, .int .i64 0, .slice none 0 0, .slice none 0 0, .int .i64 0] 93)).drew) := (Below.refl _ _).drew
  have C0 := IT.out _ (two_blocks w _ _ T0.out).1
  have hn : w.heap.size + 1 ≠ w.heap.size := by omega
  go_region_held3 (fun w' => w'.cell? ⟨w.heap.size, 0, none⟩ = some (.int .i64 kind) ∧ w'.cell? ⟨w.heap.size, 1, none⟩ = some (.int .i64 level) ∧ w'.cell? ⟨w.heap.size, 2, none⟩ = some (.slice aI items.length cI) ∧ w'.cell? ⟨w.heap.size, 3, none⟩ = some (.slice aD data.length cD) ∧ w'.cell? ⟨w.heap.size, 4, none⟩ = some (.int .i64 next))
    (first | with_reducible exact C0 | with_reducible exact IS.out _ (two_blocks w _ _ T0.out).1 _ _ _ _ _)
    (first | (go_at_call 101; with_reducible refine (S1.out _ (two_blocks w _ _ T0.out).2.2.1).mono ?_; rintro e w1 ⟨g1, d1, M, rfl, o1⟩; have hb1 := o1.j.b; have S0 := hide (Nat.le_trans (Nat.le_trans (Nat.le_succ _) (Nat.le_succ _)) (two_blocks w _ _ T0.out).2.2.2); have RL := hide (fun t (ht : t ∈ rowsOf M) x (hx : t.a = some x) => (o1.f.own t ht).1.r.lt hx); have T0 := hide (bt T0.out hb1); have C0 := IT.out _ (two_blocks w _ _ T0.out).1; have R1 := hide o1; clear hb1 o1) | (go_at_call 86; with_reducible refine (S2.out _ (two_blocks w _ _ T0.out).2.2.1).mono ?_; rintro e w2 ⟨g2, d2, rfl, o2⟩; have hb2 := o2.b; have S1' := hide (Nat.le_trans S0.out R1.out.j.b.size); have RF := hide (fun y (hy : g2 = some y) => o2.fresh hy); have T0 := hide (bt T0.out hb2); have C0 := IT.out _ (two_blocks w _ _ T0.out).1; obtain ⟨⟨y0, y1, y2, y3, y4⟩, f0, f1, f2, f3, f4⟩ := TZ.out _ (two_blocks w _ _ T0.out).2.1; have R1 := hide (R1.out.keep hb2); have R2 := hide o2.r; clear hb2 o2))
  clear C0
  have M1 := hide (TM.out _ (two_blocks w _ _ T0.out).2.1 (.int .i64 kind) (.int .i64 level) (.slice g1 items.length d1) (.slice g2 data.length d2) (.int .i64 next))
  have BB := hide (but_set5 (w.heap.size + 1) w2 (.int .i64 kind) (.int .i64 level) (.slice g1 items.length d1) (.slice g2 data.length d2) (.int .i64 next))
  have TB := hide (two_blocks w _ _ T0.out).2.2.1
  have X1 : Hid (Bx w2 93 (w.heap.size + 1) _) := (two_blocks w _ _ T0.out).2.1
  clear y0 y1 y2 y3 y4 f0 f1 f2 f3 f4 T0
  go_wp2
  refine bodyPost_ret (v := .agg _) (results_cell_row Tryz.results62 _ _ (w.heap.size + 1) 93 _ (0, 0) _ rfl M1.out Tryz.underlying93 rfl sizePage) rfl ?_
  have bel : Below w.heap.size w _ := ((But.ofBelow (S := fun k => k = w.heap.size + 1) TB.out).trans BB.out fun _ _ e => e).below fun k hk e => by omega
  have r2 := R2.out.but BB.out fun x hx e => R2.out.nty X1.out (by decide) hx e
  have j2 := R1.out.j.r.but BB.out fun x hx e => R1.out.j.r.nty X1.out (by decide) hx e
  have hml := R1.out.len
  have hrw : ∀ {a c l}, Rw w2 a c l → Rw _ a c l := fun hr => hr.but BB.out fun x hx e => hr.nty X1.out (by decide) hx e
  refine ⟨⟨kind, level, g1, d1, M, g2, d2, data, next⟩, by rw [← hml], ⟨j2, R1.out.j.n.mono S0.out, r2, fun y hy => .inr (by have h1 := RF.out y hy; have h2 := S1'.out; omega), fun t ht => ?_, ?_, L8.out, R1.out.n, NK.out.1, NK.out.2.1, NK.out.2.2⟩, hml, ?_, bel⟩
  · obtain ⟨o, o8⟩ := R1.out.f.own t ht
    exact ⟨hrw o.r, o.n.mono S0.out, o8⟩
  · refine List.pairwise_cons.2 ⟨fun t ht x y hx hy e => ?_, R1.out.f.dist⟩
    have h1 := RF.out x hx
    have h2 := RL.out t ht y hy
    omega
  unfold Pv.pg
  dsimp only
  rw [R1.out.e]
end
end Go.Proofs.YtbhigodjbfoeoaaGreat
