import Derived.Test.YtlneomgjjkfnoabGreatPO
import Derived.Test.YtlneomgjjkfnoabGreatPLX
namespace Go.Proofs.YtlneomgjjkfnoabGreat
open Go.RowKit

/-- an item that was read: its rows are new memory -/
structure Jo (w w' : World) (x : Iv) : Prop where
  k : Rw w' x.aK x.cK x.key
  kn : New w none x.aK
  v : Rw w' x.aV x.cV x.val
  vn : New w none x.aV
  ap : ∀ p q, x.aK = some p → x.aV = some q → p.block ≠ q.block
  k8 : B8 x.key
  v8 : B8 x.val
  nc : N64 x.child
  ns : N64 x.size
theorem Bx.setc {w : World} {t : TypeId} {g : Nat} {cs : Array Value} (h : Bx w t g cs) (i : Nat) (u : Value) : Bx (w.setCell ⟨g, i, none⟩ u) t g (cs.setIfInBounds i u) := heap_setCell_same w g i _ _ _ h
theorem Bx.oth {w : World} {t : TypeId} {g : Nat} {cs : Array Value} (h : Bx w t g cs) {p : Addr} (hn : g ≠ p.block) (u : Value) : Bx (w.setCell p u) t g cs := (Below.heap_setCell _ _ _ _ hn).trans h
theorem Rw.oth {w : World} {a : Option Addr} {c : Nat} {l : List Nat} (h : Rw w a c l) {p : Addr} (hn : ∀ x, a = some x → x.block ≠ p.block) (u : Value) : Rw (w.setCell p u) a c l :=
  h.but (S := fun k => k = p.block) ((But.refl (fun k => k = p.block) w).setCell (p := p) (fun _ => rfl) u) hn
/-- a row of bytes does not lie where cells of another type lie -/
theorem Rw.nty {w : World} {a : Option Addr} {c : Nat} {l : List Nat} (h : Rw w a c l) {t : TypeId} {g : Nat} {cs : Array Value} (hg : Bx w t g cs) (ht : t ≠ 5) {x : Addr} (hx : a = some x) : x.block ≠ g := by
  intro e
  rcases h.cases with ⟨rfl, _⟩ | ⟨g', cur, rfl, hg', _⟩
  · cases hx
  · cases hx
    dsimp only at e
    subst e
    unfold Bx at hg
    rw [hg'] at hg
    simp only [Option.some.injEq, Obj.cells.injEq] at hg
    exact absurd hg.2.1.symm ht
/-- while an item is being read: the result's cell, the item's cell and the tags -/
structure Rj (v w wx : World) (b : Nat) (s : RS) (cs : Array Value) (ts : Array Value) : Prop where
  k : Rk v wx b s
  u : But (fun k => k = b) w wx
  r : Bx wx 55 w.heap.size Iv.zero.cs
  i : Bx wx 55 (w.heap.size + 1) cs
  t : Bx wx 3 (w.heap.size + 1 + 1) ts
theorem Rj.call {v w wx wy : World} {b : Nat} {s s' : RS} {cs ts : Array Value} (h : Rj v w wx b s cs ts) (hv : v.heap.size ≤ w.heap.size) (hk : Rk v wy b s') (hb : But (fun k => k = b) wx wy) : Rj v w wy b s' cs ts := by
  have := h.k.blt
  exact ⟨hk, h.u.trans hb fun _ _ h => h, h.r.but hb (by omega), h.i.but hb (by omega), h.t.but hb (by omega)⟩
theorem Rj.below {v w wx wy : World} {b : Nat} {s : RS} {cs ts : Array Value} (h : Rj v w wx b s cs ts) (hb : Below wx.heap.size wx wy) : Rj v w wy b s cs ts :=
  ⟨h.k.keep hb, h.u.andBelow hb, h.r.keep hb, h.i.keep hb, h.t.keep hb⟩
theorem Rj.set {v w wx : World} {b : Nat} {s : RS} {cs ts : Array Value} (h : Rj v w wx b s cs ts) (hv : v.heap.size ≤ w.heap.size) (i : Nat) (u : Value) : Rj v w (wx.setCell ⟨w.heap.size + 1, i, none⟩ u) b s (cs.setIfInBounds i u) ts :=
  ⟨h.k.but (S := fun k => k = w.heap.size + 1) ((But.refl (fun k => k = w.heap.size + 1) wx).setCell (p := ⟨w.heap.size + 1, i, none⟩) (fun _ => rfl) u) (fun k hk => by omega), h.u.setCell (p := ⟨w.heap.size + 1, i, none⟩) (fun hlt => by simp at hlt; omega) u, h.r.oth (by simp) u, h.i.setc i u, h.t.oth (by simp) u⟩
theorem Rj.cells {v w wx : World} {b : Nat} {s : RS} {x : Iv} {ts : Array Value} (h : Rj v w wx b s x.cs ts) : wx.cell? ⟨w.heap.size + 1, 0, none⟩ = some (.slice x.aK x.key.length x.cK) ∧ wx.cell? ⟨w.heap.size + 1, 1, none⟩ = some (.slice x.aV x.val.length x.cV) ∧ wx.cell? ⟨w.heap.size + 1, 2, none⟩ = some (.int .i64 x.child) ∧ wx.cell? ⟨w.heap.size + 1, 3, none⟩ = some (.int .i64 x.size) :=
  Bx.item h.i
theorem Rj.froz {v w wx : World} {b : Nat} {s : RS} {cs ts : Array Value} (h : Rj v w wx b s cs ts) (i : Nat) : wx.frozen? ⟨w.heap.size + 1, i, none⟩ = false ∧ wx.frozen? ⟨w.heap.size, i, none⟩ = false := ⟨frozen_of_row _ _ _ _ _ h.i, frozen_of_row _ _ _ _ _ h.r⟩
theorem Rj.start (v w : World) (b : Nat) (s : RS) (h : Rk v w b s) (ts : Array Value) : Rj v w (((w.alloc (.cells Iv.zero.cs 55)).alloc (.cells Iv.zero.cs 55)).alloc (.cells ts 3)) b s Iv.zero.cs ts := by
  have b3 := bt (bt (al w (.cells Iv.zero.cs 55)) (al _ (.cells Iv.zero.cs 55))) (al _ (.cells ts 3))
  obtain ⟨q1, q2⟩ := bx2 w 55 55 Iv.zero.cs Iv.zero.cs
  refine ⟨h.keep b3, But.ofBelow b3, q1.keep (al _ _), q2.keep (al _ _), ?_⟩
  have := Bx.new ((w.alloc (.cells Iv.zero.cs 55)).alloc (.cells Iv.zero.cs 55)) 3 ts
  rwa [size_alloc, size_alloc] at this
theorem but_setRow (w : World) (g : Nat) (cs : Array Value) : But (fun k => k = g) w (w.setRow g cs) := by
  have h := below_setRow (Below.refl 0 w) (Nat.zero_le g) cs
  exact ⟨h.os, h.tape, h.output, h.size, fun k _ hn => setRow_other _ _ _ _ hn⟩
theorem Jo.call {v w wx wy : World} {b : Nat} {s : RS} {x : Iv} (h : Jo w wx x) (hk : Rk v wx b s) (hb : But (fun k => k = b) wx wy) : Jo w wy x :=
  ⟨h.k.but hb fun _ hx => hk.ne h.k hx, h.kn, h.v.but hb fun _ hx => hk.ne h.v hx, h.vn, h.ap, h.k8, h.v8, h.nc, h.ns⟩
theorem Jo.below {w wx wy : World} {x : Iv} (h : Jo w wx x) (hb : Below wx.heap.size wx wy) : Jo w wy x := ⟨h.k.keep hb, h.kn, h.v.keep hb, h.vn, h.ap, h.k8, h.v8, h.nc, h.ns⟩
theorem Jo.set {w wx : World} {x : Iv} {g : Nat} {cs : Array Value} (h : Jo w wx x) (hg : Bx wx 55 g cs) (i : Nat) (u : Value) : Jo w (wx.setCell ⟨g, i, none⟩ u) x :=
  ⟨h.k.oth (fun _ hx => h.k.nty hg (by decide) hx) u, h.kn, h.v.oth (fun _ hx => h.v.nty hg (by decide) hx) u, h.vn, h.ap, h.k8, h.v8, h.nc, h.ns⟩
theorem Jo.row {w wx : World} {x : Iv} {g : Nat} {cs : Array Value} (h : Jo w wx x) (hg : Bx wx 55 g cs) (cs' : Array Value) : Jo w (wx.setRow g cs') x :=
  ⟨h.k.but (but_setRow _ _ _) (fun _ hx => h.k.nty hg (by decide) hx), h.kn, h.v.but (but_setRow _ _ _) (fun _ hx => h.v.nty hg (by decide) hx), h.vn, h.ap, h.k8, h.v8, h.nc, h.ns⟩
theorem Jo.zero (w wx : World) : Jo w wx Iv.zero := ⟨Rw.nil _, New.none _ _, Rw.nil _, New.none _ _, (fun _ _ h => by cases h), B8.nil, B8.nil, by simp [N64, Iv.zero], by simp [N64, Iv.zero]⟩
theorem n64_nat {x : Nat} (h : x < 9223372036854775808) : N64 (x : Int) := by unfold N64; omega
set_option maxRecDepth 8000 in
set_option maxHeartbeats 3200000 in
theorem readItem_index (v w : World) (b : Nat) (s : RS) (h : Rk v w b s) (hv : v.heap.size ≤ w.heap.size) :
    Calls Tryz.prog 92 #[.pointer (some ⟨b, 0, none⟩), .int .i64 2] w fun e w' => ∃ x : Iv, e = .returned x.vl ∧ x.it = (rdItem 2 s).1 ∧ Rk v w' b (rdItem 2 s).2 ∧ But (fun k => k = b) w w' ∧ Jo w w' x := by
  have h8 := h.b8
  skip
  have R0 := hide (Rj.start v w b s h #[.int .i64 5, .int .i64 8])
  have IP := hide (fun w1 => itemParts_index w1)
  have HT := hide fun (wx : World) (s' : RS) (cs : Array Value) (hR : Rj v w wx b s' cs #[.int .i64 5, .int .i64 8]) => (show wx.cell? ⟨w.heap.size + 1 + 1, 0, none⟩ = some (.int .i64 5) ∧ wx.cell? ⟨w.heap.size + 1 + 1, 1, none⟩ = some (.int .i64 8) from ⟨hR.t.cell 0 rfl, hR.t.cell 1 rfl⟩)
  clear h
  obtain ⟨w3, hw3⟩ : ∃ w3, ((w.alloc (.cells Iv.zero.cs 55)).alloc (.cells Iv.zero.cs 55)).alloc (.cells #[.int .i64 5, .int .i64 8] 3) = w3 := ⟨_, rfl⟩
  rw [hw3] at R0
  unfold Iv.zero Iv.cs at hw3
  simp only [List.length_nil] at hw3
  go_enter Tryz.func92, Tryz.ntmps92
  go_wp2_with fail
  refine (IP.out _).mono ?_
  rintro y w4 ⟨rfl, hw4⟩
  rw [hw3] at hw4
  subst hw4
  clear hw3 IP
  obtain ⟨t0, t1⟩ := HT.out _ _ _ R0.out
  go_wp2
  go_loopw [7, 11] (fun _ i wx => ∃ (k : Nat) (x : Iv) (s' : RS), k ≤ 2 ∧ i = .int .i64 k ∧ Rj v w wx b s' x.cs #[.int .i64 5, .int .i64 8] ∧ Jo w wx x ∧ (k = 0 ∧ x = Iv.zero ∧ s' = s ∨ k = 1 ∧ x.it = ⟨(s.short 24).1, [], 0, 0⟩ ∧ s' = (s.short 24).2 ∨ k = 2 ∧ x.it = (rdItem 2 s).1 ∧ s' = (rdItem 2 s).2)) (fun _ i _ => 2 - (intOf i).toNat)
  case atStart => exact ⟨0, Iv.zero, s, by decide, rfl, R0.out, Jo.zero _ _, .inl ⟨rfl, rfl, rfl⟩⟩
  case round =>
    clear R0 t0 t1
    obtain ⟨k, x, s', hk, rfl, hR, hJ, hst⟩ := hrel
    have R0 := hide hR
    have J0 := hide hJ
    obtain ⟨t0, t1⟩ := HT.out _ _ _ hR
    obtain ⟨c0, c1, c2, c3⟩ := hR.cells
    have f0 := (hR.froz 0).1
    have f1 := (hR.froz 1).1
    have f2 := (hR.froz 2).1
    have f3 := (hR.froz 3).1
    have hsw := hR.u.size
    have HM2 := hide hR.r
    clear hR hJ
    rcases hst with ⟨rfl, rfl, rfl⟩ | ⟨rfl, hx, rfl⟩ | ⟨rfl, hx, rfl⟩
    · simp only [Iv.zero, List.length_nil] at c0 c1 c2 c3
      go_wp2_with fail
      refine (kShort R0.out.k 24).mono ?_
      rintro y w5 ⟨a5, c5, rfl, hr5, hn5, hk5, hb5⟩
      have R5 := hide (R0.out.call hv hk5 hb5)
      have J5 : Hid (Jo w w5 ⟨a5, c5, (s'.short 24).1, none, 0, [], 0, 0⟩) := ⟨hr5, hn5.mono hsw, Rw.nil _, New.none _ _, (fun _ _ _ h => by cases h), (RS.short_b8 h8).1, B8.nil, by simp [N64], by simp [N64]⟩
      have c0 := (Bx.item (p := Iv.zero) R5.out.i).1
      have f0 := (R5.out.froz 0).1
      simp only [Iv.zero, List.length_nil] at c0
      clear hr5 hn5 hk5 hb5 c1 c2 c3 f1 f2 f3 R0 J0
      go_wp2
      go_roundw
      case rel => exact ⟨1, ⟨a5, c5, (s'.short 24).1, none, 0, [], 0, 0⟩, (s'.short 24).2, by decide, rfl, R5.out.set hv 0 (.slice a5 (s'.short 24).1.length c5), J5.out.set R5.out.i 0 _, .inr (.inl ⟨rfl, rfl, rfl⟩)⟩
      case measure => decide
    · obtain ⟨aK, cK, key, aV, cV, val, child, size⟩ := x
      simp only [Iv.it, It.mk.injEq] at hx
      obtain ⟨h1, h2', h3, h4⟩ := hx
      have HX1 := hide h1
      have HX4 := hide h4
      obtain rfl := h2'
      obtain rfl := h3
      clear h1
      simp only [List.length_nil] at c1
      have hlt := RS.get_lt (k := 4) (s := (s.short 24).2) (RS.short_b8 h8).2
      go_wp2_with fail
      refine (kGet32 R0.out.k).mono ?_
      rintro y w5 ⟨rfl, hk5, hb5⟩
      have R5 := hide (R0.out.call hv hk5 hb5)
      have J5 := hide (J0.out.call R0.out.k hb5)
      obtain ⟨c0, c1, c2, c3⟩ := R5.out.cells
      have f2 := (R5.out.froz 2).1
      have f3 := (R5.out.froz 3).1
      clear hk5 hb5 f0 f1 R0 J0
      obtain ⟨q, hq⟩ : ∃ q, ((s.short 24).2.get 4).1 = q := ⟨_, rfl⟩
      rw [hq] at hlt ⊢
      have HQ := hide hq
      clear hq
      have hcv : IntKind.i64.wrap ((q : Nat) : Int) = ((q : Nat) : Int) := wrapI (by omega) (by omega)
      go_wp2
      go_roundw
      case rel => exact ⟨2, ⟨aK, cK, key, aV, cV, [], q, size⟩, ((s.short 24).2.get 4).2, by decide, rfl, R5.out.set hv 2 (.int .i64 (q : Int)), ⟨(J5.out.set R5.out.i 2 _).k, J5.out.kn, (J5.out.set R5.out.i 2 _).v, J5.out.vn, J5.out.ap, J5.out.k8, J5.out.v8, n64_nat (by omega), J5.out.ns⟩, .inr (.inr ⟨rfl, by unfold rdItem Iv.it; rw [if_pos rfl, HX1.out, HX4.out, HQ.out], by unfold rdItem; rw [if_pos rfl]⟩)⟩
      case measure => decide
    · have HXX := hide hx
      clear hx
      obtain ⟨aK, cK, key, aV, cV, val, child, size⟩ := x
      dsimp only at c0 c1 c2 c3
      go_wp2_with (refine wpList_store_row rfl 55 _ _ rfl w.heap.size _ rfl rfl 55 _ HM2.out sizeItem rfl (by simp [Value.oneCell']) ?_)
      refine bodyPost_ret (v := .agg _) (results_cell_row Tryz.results92 _ _ w.heap.size 55 _ (0, 0) _ rfl (setRow_heap _ _ _ _ _ _ HM2.out) Tryz.underlying55 rfl sizeItem) rfl ?_
      exact ⟨⟨aK, cK, key, aV, cV, val, child, size⟩, rfl, HXX.out, R0.out.k.but (but_setRow _ _ _) (fun k hk => by omega), R0.out.u.trans (but_setRow _ _ _) (fun k hk e => by omega), J0.out.row HM2.out _⟩
set_option maxRecDepth 8000 in
set_option maxHeartbeats 3200000 in
theorem readItem_leaf (v w : World) (b : Nat) (s : RS) (kind : Int) (h2 : kind ≠ 2) (h : Rk v w b s) (hv : v.heap.size ≤ w.heap.size) :
    Calls Tryz.prog 92 #[.pointer (some ⟨b, 0, none⟩), .int .i64 kind] w fun e w' => ∃ x : Iv, e = .returned x.vl ∧ x.it = (rdItem kind s).1 ∧ Rk v w' b (rdItem kind s).2 ∧ But (fun k => k = b) w w' ∧ Jo w w' x := by
  have h8 := h.b8
  have KH2 := hide h2
  have R0 := hide (Rj.start v w b s h #[.int .i64 5, .int .i64 6, .int .i64 7])
  have IP := hide (fun w1 => itemParts_leaf w1 kind h2)
  have HT := hide fun (wx : World) (s' : RS) (cs : Array Value) (hR : Rj v w wx b s' cs #[.int .i64 5, .int .i64 6, .int .i64 7]) => (show wx.cell? ⟨w.heap.size + 1 + 1, 0, none⟩ = some (.int .i64 5) ∧ wx.cell? ⟨w.heap.size + 1 + 1, 1, none⟩ = some (.int .i64 6) ∧ wx.cell? ⟨w.heap.size + 1 + 1, 2, none⟩ = some (.int .i64 7) from ⟨hR.t.cell 0 rfl, hR.t.cell 1 rfl, hR.t.cell 2 rfl⟩)
  clear h
  obtain ⟨w3, hw3⟩ : ∃ w3, ((w.alloc (.cells Iv.zero.cs 55)).alloc (.cells Iv.zero.cs 55)).alloc (.cells #[.int .i64 5, .int .i64 6, .int .i64 7] 3) = w3 := ⟨_, rfl⟩
  rw [hw3] at R0
  unfold Iv.zero Iv.cs at hw3
  simp only [List.length_nil] at hw3
  go_enter Tryz.func92, Tryz.ntmps92
  go_wp2_with fail
  refine (IP.out _).mono ?_
  rintro y w4 ⟨rfl, hw4⟩
  rw [hw3] at hw4
  subst hw4
  clear hw3 IP
  obtain ⟨t0, t1, t2⟩ := HT.out _ _ _ R0.out
  go_wp2
  go_loopw [7, 11] (fun _ i wx => ∃ (k : Nat) (x : Iv) (s' : RS), k ≤ 3 ∧ i = .int .i64 k ∧ Rj v w wx b s' x.cs #[.int .i64 5, .int .i64 6, .int .i64 7] ∧ Jo w wx x ∧ (k = 0 ∧ x = Iv.zero ∧ s' = s ∨ k = 1 ∧ x.it = ⟨(s.short 24).1, [], 0, 0⟩ ∧ s' = (s.short 24).2 ∨ k = 2 ∧ x.it = ⟨(s.short 24).1, [], 0, (((s.short 24).2.get 2).1 : Nat)⟩ ∧ s' = ((s.short 24).2.get 2).2 ∨ k = 3 ∧ x.it = (rdItem kind s).1 ∧ s' = (rdItem kind s).2)) (fun _ i _ => 3 - (intOf i).toNat)
  case atStart => exact ⟨0, Iv.zero, s, by decide, rfl, R0.out, Jo.zero _ _, .inl ⟨rfl, rfl, rfl⟩⟩
  case round =>
    clear R0 t0 t1 t2
    obtain ⟨k, x, s', hk, rfl, hR, hJ, hst⟩ := hrel
    have R0 := hide hR
    have J0 := hide hJ
    obtain ⟨t0, t1, t2⟩ := HT.out _ _ _ hR
    obtain ⟨c0, c1, c2, c3⟩ := hR.cells
    have f0 := (hR.froz 0).1
    have f1 := (hR.froz 1).1
    have f2 := (hR.froz 2).1
    have f3 := (hR.froz 3).1
    have hsw := hR.u.size
    have HM2 := hide hR.r
    clear hR hJ
    rcases hst with ⟨rfl, rfl, rfl⟩ | ⟨rfl, hx, rfl⟩ | ⟨rfl, hx, rfl⟩ | ⟨rfl, hx, rfl⟩
    · simp only [Iv.zero, List.length_nil] at c0 c1 c2 c3
      go_wp2_with fail
      refine (kShort R0.out.k 24).mono ?_
      rintro y w5 ⟨a5, c5, rfl, hr5, hn5, hk5, hb5⟩
      have R5 := hide (R0.out.call hv hk5 hb5)
      have J5 : Hid (Jo w w5 ⟨a5, c5, (s'.short 24).1, none, 0, [], 0, 0⟩) := ⟨hr5, hn5.mono hsw, Rw.nil _, New.none _ _, (fun _ _ _ h => by cases h), (RS.short_b8 h8).1, B8.nil, by simp [N64], by simp [N64]⟩
      have c0 := (Bx.item (p := Iv.zero) R5.out.i).1
      have f0 := (R5.out.froz 0).1
      simp only [Iv.zero, List.length_nil] at c0
      clear hr5 hn5 hk5 hb5 c1 c2 c3 f1 f2 f3 R0 J0
      go_wp2
      go_roundw
      case rel => exact ⟨1, ⟨a5, c5, (s'.short 24).1, none, 0, [], 0, 0⟩, (s'.short 24).2, by decide, rfl, R5.out.set hv 0 (.slice a5 (s'.short 24).1.length c5), J5.out.set R5.out.i 0 _, .inr (.inl ⟨rfl, rfl, rfl⟩)⟩
      case measure => decide
    · obtain ⟨aK, cK, key, aV, cV, val, child, size⟩ := x
      simp only [Iv.it, It.mk.injEq] at hx
      obtain ⟨h1, h2', h3, h4⟩ := hx
      have HX1 := hide h1
      have HX4 := hide h4
      obtain rfl := h2'
      obtain rfl := h3
      clear h1
      simp only [List.length_nil] at c1
      have hlt := RS.get_lt (k := 2) (s := (s.short 24).2) (RS.short_b8 h8).2
      go_wp2_with fail
      refine (kGet16 R0.out.k).mono ?_
      rintro y w5 ⟨rfl, hk5, hb5⟩
      have R5 := hide (R0.out.call hv hk5 hb5)
      have J5 := hide (J0.out.call R0.out.k hb5)
      obtain ⟨c0, c1, c2, c3⟩ := R5.out.cells
      have f2 := (R5.out.froz 2).1
      have f3 := (R5.out.froz 3).1
      clear hk5 hb5 f0 f1 R0 J0
      obtain ⟨q, hq⟩ : ∃ q, ((s.short 24).2.get 2).1 = q := ⟨_, rfl⟩
      rw [hq] at hlt ⊢
      have HQ := hide hq
      clear hq
      have hcv : IntKind.i64.wrap ((q : Nat) : Int) = ((q : Nat) : Int) := wrapI (by omega) (by omega)
      go_wp2
      go_roundw
      case rel => exact ⟨2, ⟨aK, cK, key, aV, cV, [], 0, q⟩, ((s.short 24).2.get 2).2, by decide, rfl, R5.out.set hv 3 (.int .i64 (q : Int)), ⟨(J5.out.set R5.out.i 3 _).k, J5.out.kn, (J5.out.set R5.out.i 3 _).v, J5.out.vn, J5.out.ap, J5.out.k8, J5.out.v8, J5.out.nc, n64_nat (by omega)⟩, .inr (.inr (.inl ⟨rfl, by unfold Iv.it; rw [HX1.out, HQ.out], rfl⟩))⟩
      case measure => decide
    · obtain ⟨aK, cK, key, aV, cV, val, child, size⟩ := x
      simp only [Iv.it, It.mk.injEq] at hx
      obtain ⟨h1, h2', h3, h4⟩ := hx
      have HX1 := hide h1
      obtain rfl := h2'
      obtain rfl := h3
      clear h1
      simp only [List.length_nil] at c1
      have hz := RS.get_lt (k := 2) (s := (s.short 24).2) (RS.short_b8 h8).2
      obtain ⟨z, hze⟩ : ∃ z, ((s.short 24).2.get 2).1 = z := ⟨_, rfl⟩
      rw [hze] at h4 hz
      obtain rfl := h4
      have HZ := hide hze
      clear hze
      have SH := hide fun (w1 : World) => standsHere_any w1 ⟨aK, cK, key, aV, cV, [], 0, (z : Int)⟩
      simp only [Iv.vl, Iv.cs, List.length_nil] at SH
      by_cases h32 : z ≤ 32
      · rw [show decide ((z : Int) ≤ 32) = true from by simp; omega] at SH
        go_wp2_with fail
        refine (SH.out _).mono ?_
        rintro y w9 ⟨rfl, o9, rfl⟩
        have R0 := hide (R0.out.below (al _ o9))
        have J0 := hide (J0.out.below (al _ o9))
        obtain ⟨c0, c1, c2, c3⟩ := R0.out.cells
        simp only [List.length_nil] at c1
        have hsw := R0.out.u.size
        go_wp2_with fail
        refine (kRaw R0.out.k (z : Int)).mono ?_
        rintro y w5 ⟨a5, c5, rfl, hr5, hn5, hk5, hb5⟩
        have R5 := hide (R0.out.call hv hk5 hb5)
        have J5 := hide (J0.out.call R0.out.k hb5)
        have HNE : Hid (∀ x y, aK = some x → a5 = some y → x.block ≠ y.block) := fun x y hx hy e => by
          have h1 := J0.out.k.lt hx
          rcases hn5 y hy with ⟨_, h, _⟩ | h2
          · cases h
          · omega
        have HR5 := hide hr5
        have HN5 := hide (hn5.mono hsw)
        have HB5 := hide (RS.raw_b8 (n := (z : Int)) (RS.get_b8 (k := 2) (RS.short_b8 (m := 24) h8).2)).1
        have c1 := R5.out.cells.2.1
        have f1 := (R5.out.froz 1).1
        simp only [List.length_nil] at c1
        clear hr5 hn5 hk5 hb5 c0 c2 c3 f0 f2 f3 R0 J0
        go_wp2
        go_roundw
        case rel => exact ⟨3, ⟨aK, cK, key, a5, c5, (((s.short 24).2.get 2).2.raw (z : Int)).1, 0, z⟩, (((s.short 24).2.get 2).2.raw (z : Int)).2, by decide, rfl, R5.out.set hv 1 (.slice a5 _ c5), ⟨(J5.out.set R5.out.i 1 _).k, J5.out.kn, HR5.out.oth (fun _ hx => HR5.out.nty R5.out.i (by decide) hx) _, HN5.out, HNE.out, J5.out.k8, HB5.out, J5.out.nc, J5.out.ns⟩, .inr (.inr (.inr ⟨rfl, by unfold rdItem Iv.it; rw [if_neg KH2.out, if_pos (by rw [HZ.out]; exact h32), HX1.out, HZ.out], by unfold rdItem; rw [if_neg KH2.out, if_pos (by rw [HZ.out]; exact h32), HZ.out]⟩))⟩
        case measure => decide
      · rw [show decide ((z : Int) ≤ 32) = false from by simp; omega] at SH
        have hlt := RS.get_lt (k := 4) (s := ((s.short 24).2.get 2).2) (RS.get_b8 (RS.short_b8 h8).2)
        go_wp2_with fail
        refine (SH.out _).mono ?_
        rintro y w9 ⟨rfl, o9, rfl⟩
        have R0 := hide (R0.out.below (al _ o9))
        have J0 := hide (J0.out.below (al _ o9))
        obtain ⟨c0, c1, c2, c3⟩ := R0.out.cells
        simp only [List.length_nil] at c1
        go_wp2_with fail
        refine (kGet32 R0.out.k).mono ?_
        rintro y w5 ⟨rfl, hk5, hb5⟩
        have R5 := hide (R0.out.call hv hk5 hb5)
        have J5 := hide (J0.out.call R0.out.k hb5)
        have c2 := R5.out.cells.2.2.1
        have f2 := (R5.out.froz 2).1
        clear hk5 hb5 c0 c1 c3 f0 f1 f3 R0 J0
        obtain ⟨q, hq⟩ : ∃ q, (((s.short 24).2.get 2).2.get 4).1 = q := ⟨_, rfl⟩
        rw [hq] at hlt ⊢
        have HQ := hide hq
        clear hq
        have hcv : IntKind.i64.wrap ((q : Nat) : Int) = ((q : Nat) : Int) := wrapI (by omega) (by omega)
        go_wp2
        go_roundw
        case rel => exact ⟨3, ⟨aK, cK, key, aV, cV, [], q, z⟩, (((s.short 24).2.get 2).2.get 4).2, by decide, rfl, R5.out.set hv 2 (.int .i64 (q : Int)), ⟨(J5.out.set R5.out.i 2 _).k, J5.out.kn, (J5.out.set R5.out.i 2 _).v, J5.out.vn, J5.out.ap, J5.out.k8, J5.out.v8, n64_nat (by omega), J5.out.ns⟩, .inr (.inr (.inr ⟨rfl, by unfold rdItem Iv.it; rw [if_neg KH2.out, if_neg (by rw [HZ.out]; exact h32), HX1.out, HZ.out, HQ.out], by unfold rdItem; rw [if_neg KH2.out, if_neg (by rw [HZ.out]; exact h32)]⟩))⟩
        case measure => decide
    · have HXX := hide hx
      clear hx
      obtain ⟨aK, cK, key, aV, cV, val, child, size⟩ := x
      dsimp only at c0 c1 c2 c3
      go_wp2_with (refine wpList_store_row rfl 55 _ _ rfl w.heap.size _ rfl rfl 55 _ HM2.out sizeItem rfl (by simp [Value.oneCell']) ?_)
      refine bodyPost_ret (v := .agg _) (results_cell_row Tryz.results92 _ _ w.heap.size 55 _ (0, 0) _ rfl (setRow_heap _ _ _ _ _ _ HM2.out) Tryz.underlying55 rfl sizeItem) rfl ?_
      exact ⟨⟨aK, cK, key, aV, cV, val, child, size⟩, rfl, HXX.out, R0.out.k.but (but_setRow _ _ _) (fun k hk => by omega), R0.out.u.trans (but_setRow _ _ _) (fun k hk e => by omega), J0.out.row HM2.out _⟩
end Go.Proofs.YtlneomgjjkfnoabGreat
