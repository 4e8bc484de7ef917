import Derived.Test.YtlneomgjjkfnoabGreatPYX
import Derived.Deep.RegionHeld3
import Derived.Test.YtlneomgjjkfnoabGreatVB
namespace Go.Proofs.YtlneomgjjkfnoabGreat
open Go.RowKit

theorem two_blocks (w : World) (o p : Obj) {w1 : World} (hb : Below ((w.alloc o).alloc p).heap.size ((w.alloc o).alloc p) w1) : w1.heap[w.heap.size]? = some o ∧ w1.heap[w.heap.size + 1]? = some p ∧ Below w.heap.size w w1 ∧ w.heap.size + 2 ≤ w1.heap.size := by
  have hs : ((w.alloc o).alloc p).heap.size = w.heap.size + 2 := by rw [size_alloc, size_alloc]
  refine ⟨(hb.block _ (by rw [hs]; omega)).trans ?_, (hb.block _ (by rw [hs]; omega)).trans ?_, bt (bt (al _ _) (al _ _)) hb, by have := hb.size; omega⟩
  · rw [heap_alloc_old _ _ (by rw [size_alloc]; omega)]; exact heap_alloc_new _ _
  · have := heap_alloc_new (w.alloc o) p; rw [size_alloc] at this; exact this
theorem CopyBytes_at (w : World) (aa : Option Addr) (n capa : Nat) (p : List Nat) (hB : Bs w aa p) (hn : n = p.length) (hlen : p.length ≤ 140737488355264) :
    Calls Tryz.prog 15 #[.slice aa n capa] w fun x w' => ∃ a' cap', x = .returned (.slice a' p.length cap') ∧ Own w w' a' cap' p := by
  subst hn
  exact (CopyBytes_any w aa p.length capa p hB rfl (by omega)).mono fun _ _ ⟨a', c', h1, h2, h3, h4⟩ => ⟨a', c', h1, h2, h3, h4⟩
theorem but_set4 (g : Nat) (w : World) (a b c d : Value) : But (fun k => k = g) w ((((w.setCell ⟨g, 0, none⟩ a).setCell ⟨g, 1, none⟩ b).setCell ⟨g, 2, none⟩ c).setCell ⟨g, 3, none⟩ d) :=
  ((((But.refl (fun k => k = g) w).setCell (p := ⟨g, 0, none⟩) (fun _ => rfl) a).setCell (p := ⟨g, 1, none⟩) (fun _ => rfl) b).setCell (p := ⟨g, 2, none⟩) (fun _ => rfl) c).setCell (p := ⟨g, 3, none⟩) (fun _ => rfl) d
theorem but_set5 (g : Nat) (w : World) (a b c d e : Value) : But (fun k => k = g) w (((((w.setCell ⟨g, 0, none⟩ a).setCell ⟨g, 1, none⟩ b).setCell ⟨g, 2, none⟩ c).setCell ⟨g, 3, none⟩ d).setCell ⟨g, 4, none⟩ e) :=
  (but_set4 g w a b c d).setCell (p := ⟨g, 4, none⟩) (fun _ => rfl) e
theorem bx_set4 {w : World} {g : Nat} {t : TypeId} {o0 o1 o2 o3 : Value} (h : Bx w t g #[o0, o1, o2, o3]) (a b c d : Value) : Bx ((((w.setCell ⟨g, 0, none⟩ a).setCell ⟨g, 1, none⟩ b).setCell ⟨g, 2, none⟩ c).setCell ⟨g, 3, none⟩ d) t g #[a, b, c, d] := by
  have h4 := (((h.setc 0 a).setc 1 b).setc 2 c).setc 3 d
  have e : (((#[o0, o1, o2, o3].setIfInBounds 0 a).setIfInBounds 1 b).setIfInBounds 2 c).setIfInBounds 3 d = #[a, b, c, d] := by simp
  rw [e] at h4
  exact h4
theorem bx_set5 {w : World} {g : Nat} {t : TypeId} {o0 o1 o2 o3 o4 : Value} (h : Bx w t g #[o0, o1, o2, o3, o4]) (a b c d f : Value) : Bx (((((w.setCell ⟨g, 0, none⟩ a).setCell ⟨g, 1, none⟩ b).setCell ⟨g, 2, none⟩ c).setCell ⟨g, 3, none⟩ d).setCell ⟨g, 4, none⟩ f) t g #[a, b, c, d, f] := by
  have h4 := ((((h.setc 0 a).setc 1 b).setc 2 c).setc 3 d).setc 4 f
  have e : ((((#[o0, o1, o2, o3, o4].setIfInBounds 0 a).setIfInBounds 1 b).setIfInBounds 2 c).setIfInBounds 3 d).setIfInBounds 4 f = #[a, b, c, d, f] := by simp
  rw [e] at h4
  exact h4
theorem fr4 {w : World} {g : Nat} {t : TypeId} {cs : Array Value} (h : Bx w t g cs) : w.frozen? ⟨g, 0, none⟩ = false ∧ w.frozen? ⟨g, 1, none⟩ = false ∧ w.frozen? ⟨g, 2, none⟩ = false ∧ w.frozen? ⟨g, 3, none⟩ = false ∧ w.frozen? ⟨g, 4, none⟩ = false :=
  ⟨frozen_of_row _ _ _ _ _ h, frozen_of_row _ _ _ _ _ h, frozen_of_row _ _ _ _ _ h, frozen_of_row _ _ _ _ _ h, frozen_of_row _ _ _ _ _ h⟩
set_option maxRecDepth 8000 in
set_option maxHeartbeats 3200000 in
theorem CopyItem_any (w : World) (r : Iv) (hR : Ii w r) (hl : r.key.length ≤ 140737488355264) (hh : r.val.length ≤ 140737488355264) :
    Calls Tryz.prog 56 #[r.vl] w fun e w' => ∃ q : Iv, e = .returned q.vl ∧ Io w w' q ∧ q.it = r.it := by
  have S1 := hide fun w1 (hb : Below w.heap.size w w1) => CopyBytes_at w1 r.aK r.key.length r.cK r.key (hR.bk.keep hb) rfl hl
  have S2 := hide fun w1 (hb : Below w.heap.size w w1) => CopyBytes_at w1 r.aV r.val.length r.cV r.val (hR.bv.keep hb) rfl hh
  have L8 := hide hR.bk.1
  have H8 := hide hR.bv.1
  clear hR
  unfold Iv.vl
  obtain ⟨aK, cK, key, aV, cV, val, child, size⟩ := r
  have IT := hide fun (W : World) (h : W.heap[w.heap.size]? = some (.cells (Iv.cs ⟨aK, cK, key, aV, cV, val, child, size⟩) 55)) => Bx.item (p := ⟨aK, cK, key, aV, cV, val, child, size⟩) h
  have IS := hide fun (W : World) (h : W.heap[w.heap.size]? = some (.cells (Iv.cs ⟨aK, cK, key, aV, cV, val, child, size⟩) 55)) (a b c d : Value) => Bx.item (p := ⟨aK, cK, key, aV, cV, val, child, size⟩) ((show Bx W 55 w.heap.size _ from h).but (but_set4 (w.heap.size + 1) W a b c d) (by omega))
  have TZ := hide fun (W : World) (h : W.heap[w.heap.size + 1]? = some (.cells (Iv.cs Iv.zero) 55)) => And.intro (Bx.item (p := Iv.zero) h) (fr4 (show Bx W 55 (w.heap.size + 1) _ from h))
  have TM := hide fun (W : World) (h : W.heap[w.heap.size + 1]? = some (.cells (Iv.cs Iv.zero) 55)) (a b c d : Value) => bx_set4 (show Bx W 55 (w.heap.size + 1) _ from h) a b c d
  dsimp only [Iv.cs, Iv.zero, List.length_nil] at *
  go_enter Tryz.func56, Tryz.ntmps56
  go_wp2
  have T0 : Hid (Below ((w.alloc (.cells #[.slice aK key.length cK, .slice aV val.length cV, .int .i64 child, .int .i64 size] 55)).alloc (.cells #[.slice none 0 0, .slice none 0 0, .int .i64 0, .int .i64 0] 55)).heap.size ((w.alloc (.cells #[.slice aK key.length cK, .slice aV val.length cV, .int .i64 child, .int .i64 size] 55)).alloc (.cells #[.slice none 0 0, .slice none 0 0, .int .i64 0, .int .i64 0] 55)) ((w.alloc (.cells #[.slice aK key.length cK, .slice aV val.length cV, .int .i64 child, .int .i64 size] 55)).alloc (.cells #[.slice none 0 0, .slice none 0 0, .int .i64 0, .int .i64 0] 55)).drew) := (Below.refl _ _).drew
  have C0 := IT.out _ (two_blocks w _ _ T0.out).1
  have hn : w.heap.size + 1 ≠ w.heap.size := by omega
  go_region_held3 (fun w' => w'.cell? ⟨w.heap.size, 0, none⟩ = some (.slice aK key.length cK) ∧ w'.cell? ⟨w.heap.size, 1, none⟩ = some (.slice aV val.length cV) ∧ w'.cell? ⟨w.heap.size, 2, none⟩ = some (.int .i64 child) ∧ w'.cell? ⟨w.heap.size, 3, none⟩ = some (.int .i64 size))
    (first | with_reducible exact C0 | with_reducible exact IS.out _ (two_blocks w _ _ T0.out).1 _ _ _ _)
    (first | (go_at_call 15; with_reducible refine (S1.out _ (two_blocks w _ _ T0.out).2.2.1).mono ?_; rintro e w1 ⟨g1, d1, rfl, o1⟩; have hb1 := o1.b; have Z1 := hide (fun x (hx : g1 = some x) => Nat.le_trans (two_blocks w _ _ T0.out).2.2.2 (o1.fresh hx)); have L1 := hide (fun x (hx : g1 = some x) => o1.r.lt hx); have T0 := hide (bt T0.out hb1); have C0 := IT.out _ (two_blocks w _ _ T0.out).1; have R1 := hide o1.r; clear hb1 o1) | (go_at_call 15; with_reducible refine (S2.out _ (two_blocks w _ _ T0.out).2.2.1).mono ?_; rintro e w2 ⟨g2, d2, rfl, o2⟩; have hb2 := o2.b; have Z2 := hide (fun x y (hx : g1 = some x) (hy : g2 = some y) => Nat.lt_of_lt_of_le (L1.out x hx) (o2.fresh hy)); have Z3 := hide (fun y (hy : g2 = some y) => Nat.le_trans (two_blocks w _ _ T0.out).2.2.2 (o2.fresh hy)); have T0 := hide (bt T0.out hb2); have C0 := IT.out _ (two_blocks w _ _ T0.out).1; obtain ⟨⟨y0, y1, y2, y3⟩, f0, f1, f2, f3, f4⟩ := TZ.out _ (two_blocks w _ _ T0.out).2.1; have R1 := hide (R1.out.keep hb2); have R2 := hide o2.r; clear hb2 o2))
  clear C0
  have M1 := hide (TM.out _ (two_blocks w _ _ T0.out).2.1 (.slice g1 key.length d1) (.slice g2 val.length d2) (.int .i64 child) (.int .i64 size))
  have BB := hide (but_set4 (w.heap.size + 1) w2 (.slice g1 key.length d1) (.slice g2 val.length d2) (.int .i64 child) (.int .i64 size))
  have TB := hide (two_blocks w _ _ T0.out).2.2.1
  clear y0 y1 y2 y3 f0 f1 f2 f3 f4 T0
  go_wp2
  refine bodyPost_ret (v := .agg _) (results_cell_row Tryz.results56 _ _ (w.heap.size + 1) 55 _ (0, 0) _ rfl M1.out Tryz.underlying55 rfl sizeItem) rfl ?_
  have bel : Below w.heap.size w _ := ((But.ofBelow (S := fun k => k = w.heap.size + 1) TB.out).trans BB.out fun _ _ e => e).below fun k hk e => by omega
  have w1 := R1.out.but BB.out fun x hx e => by have := Z1.out x hx; omega
  have w2' := R2.out.but BB.out fun x hx e => by have := Z3.out x hx; omega
  exact ⟨⟨g1, d1, key, g2, d2, val, child, size⟩, rfl, ⟨⟨w1, fun x hx => .inr (by have := Z1.out x hx; omega), bel⟩, ⟨w2', fun x hx => .inr (by have := Z3.out x hx; omega), bel⟩, fun x y hx hy e => by have := Z2.out x y hx hy; omega, L8.out, H8.out⟩, rfl⟩
end Go.Proofs.YtlneomgjjkfnoabGreat

namespace Go.Proofs.YtlneomgjjkfnoabGreat
open Go.RowKit

theorem Fam.grown {w W1 W2 : World} {T : List Br} {a : Option Addr} {c : Nat} {L : List Iv} (f : Fam w W1 T) (hJ : Jw W1 a c L) (hg : W1.grownBy W2 (a.map Addr.block)) (hw : Below w.heap.size w W2) : Fam w W2 T :=
  f.but (hJ.butg hg) hw fun t ht _ hx ⟨_, hy, e⟩ => hJ.ne (f.own t ht).1.r hy hx e
/-- items that are being copied -/
structure Ck (w W : World) (a : Option Addr) (c : Nat) (M : List Iv) (L : List Iv) : Prop where
  j : JOwn w W a c M
  f : Fam w W (rowsOf M)
  e : M.map Iv.it = L.map Iv.it
  n : ∀ r ∈ M, N64 r.child ∧ N64 r.size
theorem Ck.len {w W : World} {a : Option Addr} {c : Nat} {M L : List Iv} (h : Ck w W a c M L) : M.length = L.length := by have := congrArg List.length h.e; simpa using this
theorem Ck.keep {w W W' : World} {a : Option Addr} {c : Nat} {M L : List Iv} (h : Ck w W a c M L) (hb : Below W.heap.size W W') : Ck w W' a c M L := ⟨h.j.keep hb, h.f.keep hb, h.e, h.n⟩
theorem Ck.nil (w : World) {W : World} (hb : Below w.heap.size w W) : Ck w W none 0 [] [] := ⟨JOwn.nil w hb, Fam.nil _ _, rfl, (fun _ h => by cases h)⟩
theorem box_item (w : World) (x : Iv) (g : Nat) (hg : g = w.heap.size) : ∀ j u, x.cs.toList[j]? = some u → (w.alloc (.cells x.cs 55)).cell? ((⟨g, 0, none⟩ : Addr).add j) = some u := by
  subst hg
  intro j u h
  rw [Addr.add_mid, Nat.zero_add, cell_of_row _ _ _ _ _ _ (heap_alloc_new _ _)]
  simpa using h
theorem Ck.push {w W W0 W1 W2 : World} {a : Option Addr} {c g c2 : Nat} {M L : List Iv} {q x : Iv} (h : Ck w W a c M L) (hq : Io W W0 q) (he : q.it = x.it) (hn : N64 q.child ∧ N64 q.size) (hb : Below W0.heap.size W0 W1) (hJ : Jw W2 (some ⟨g, 0, none⟩) c2 (M ++ [q])) (hN : New W1 a (some ⟨g, 0, none⟩)) (hg : W1.grownBy W2 (a.map Addr.block)) :
    Ck w W2 (some ⟨g, 0, none⟩) c2 (M ++ [q]) (L ++ [x]) := by
  have b1 : Below W.heap.size W W1 := bt hq.k.b hb
  have j2 := h.j.step b1 hJ hN hg
  have f1 : Fam w W1 (rowsOf M ++ q.rows) := h.f.add (hq.fam.keep hb) b1 h.j.b
  refine ⟨j2, ?_, by rw [List.map_append, List.map_append, h.e]; simp [he], fun r hr => ?_⟩
  · rw [rowsOf_append, rowsOf_one]
    exact f1.grown (h.j.r.keep b1) hg j2.b
  · rcases List.mem_append.1 hr with hr | hr
    · exact h.n r hr
    · rw [List.mem_singleton.1 hr]; exact hn
theorem it_n {q x : Iv} (h : q.it = x.it) (hx : N64 x.child ∧ N64 x.size) : N64 q.child ∧ N64 q.size := by
  have h1 : q.child = x.child := congrArg It.child h
  have h2 : q.size = x.size := congrArg It.size h
  rw [h1, h2]; exact hx
set_option maxRecDepth 8000 in
set_option maxHeartbeats 3200000 in
theorem CopyItems_any (w : World) (a : Option Addr) (n c : Nat) (L : List Iv) (hJ : Js w a L) (hn : n = L.length) (hL : L.length ≤ 1048576) (hs : ∀ r ∈ L, r.key.length ≤ 140737488355264 ∧ r.val.length ≤ 140737488355264) :
    Calls Tryz.prog 31 #[.slice a n c] w fun e w' => ∃ a' c' M, e = .returned (.slice a' L.length c') ∧ Ck w w' a' c' M L := by
  subst hn
  have HR := hide fun (w1 : World) (hb : Below w.heap.size w w1) (k : Nat) (hk : k < L.length) => (hJ.keep hb).at hk
  have CI := hide fun (w1 : World) (hb : Below w.heap.size w w1) (k : Nat) (hk : k < L.length) => CopyItem_any w1 (L.getD k Iv.zero) ((hJ.1 _ (getD_memR hk)).keep hb) (hs _ (getD_memR hk)).1 (hs _ (getD_memR hk)).2
  have HN := hide fun (k : Nat) (hk : k < L.length) => And.intro (hJ.1 _ (getD_memR hk)).nc (hJ.1 _ (getD_memR hk)).ns
  have HT := hide fun (k : Nat) (hk : k < L.length) => (show L.take (k + 1) = L.take k ++ [L.getD k Iv.zero] from by rw [List.take_succ_eq_append_getElem hk]; simp [hk])
  clear hJ hs
  go_enter Tryz.func31, Tryz.ntmps31
  go_wp2
  go_loopw [3, 4] (fun o i wx => ∃ (k : Nat) (ak : Option Addr) (ck : Nat) (M : List Iv), k ≤ L.length ∧ i = .int .i64 k ∧ o = .slice ak k ck ∧ Ck w wx ak ck M (L.take k)) (fun _ i _ => L.length - (intOf i).toNat)
  case atStart => exact ⟨0, none, 0, [], Nat.zero_le _, rfl, rfl, Ck.nil w (Below.refl _ _)⟩
  case round =>
    obtain ⟨k, ak, ck, M, hk, rfl, rfl, hO⟩ := hrel
    have O0 := hide hO
    have HM : Hid (k = M.length) := by show _ = _; rw [hO.len, List.length_take]; omega
    clear hO
    by_cases hlt : k < L.length
    · have hlti : (k : Int) < (L.length : Int) := by omega
      have hk1 : k + 1 ≤ L.length := by omega
      obtain ⟨bI, off, rfl, hr⟩ := HR.out _ O0.out.j.b k hlt
      obtain ⟨k0, k1, k2, k3⟩ := range4 hr
      have C1 := hide (CI.out _ O0.out.j.b k hlt)
      have N1 := hide (HN.out k hlt)
      have T1 := hide (HT.out k hlt)
      have hml : M.length + 1 ≤ 2199023255489 := by have := HM.out; omega
      clear hr HR CI HN HT
      generalize L.getD k Iv.zero = x at *
      have INQ := hide fun (q : Iv) (h : q.it = x.it) => it_n h N1.out
      obtain ⟨aK, cK, key, aV, cV, val, child, size⟩ := x
      simp only [Iv.vl, Iv.cs] at C1 k0 k1 k2 k3
      go_wp2_with fail
      refine C1.out.mono ?_
      rintro e w2 ⟨q, rfl, hq, he⟩
      have Q1 := hide hq
      have Q2 := hide he
      have Q3 := hide (INQ.out q he)
      have J2 := hide ((O0.out.j.keep hq.k.b).r.keep (al w2 (.cells q.cs 55)))
      have BX := hide (box_item w2 q w2.heap.size rfl)
      clear hq he C1 k0 k1 k2 k3
      obtain ⟨qK, dK, kq, qV, dV, vq, cq, sq⟩ := q
      simp only [Iv.cs] at J2 BX ⊢
      go_wp2_with (at_builtin; refine wpList_apJ rfl _ _ rfl ak k ck M rfl HM.out J2.out ⟨_, 0, none⟩ 1 ⟨qK, dK, kq, qV, dV, vq, cq, sq⟩ rfl BX.out hml ?_)
      intro g2 c2 w5 hJ hN hg
      have O5 := hide (O0.out.push Q1.out Q2.out Q3.out (al _ _) hJ hN hg)
      rw [← T1.out] at O5
      clear hJ hN hg
      go_wp2
      go_roundw
      case rel => exact ⟨k + 1, _, c2, _, hk1, by first | (go_num; done) | exact congrArg (Value.int IntKind.i64) (by omega), rfl, O5.out⟩
      case measure => first | exact meas_up _ _ _ rfl hlt | (simp [intOf]; omega)
    · obtain rfl : k = L.length := by omega
      rw [List.take_length] at O0
      go_wp2
      go_ret
      exact ⟨ak, ck, M, rfl, O0.out⟩
set_option maxRecDepth 8000 in
set_option maxHeartbeats 3200000 in
theorem CopyPage_any (w : World) (r : Pv) (hR : Pi w r) (hd : r.data.length ≤ 140737488355264) (hi : r.items.length ≤ 1048576) (hs : ∀ x ∈ r.items, x.key.length ≤ 140737488355264 ∧ x.val.length ≤ 140737488355264) :
    Calls Tryz.prog 14 #[r.vl] w fun e w' => ∃ q : Pv, e = .returned q.vl ∧ Pi w' q ∧ q.pg = r.pg ∧ Below w.heap.size w w' := by
  have S1 := hide fun w1 (hb : Below w.heap.size w w1) => CopyItems_any w1 r.aI r.items.length r.cI r.items (hR.it.keep hb) rfl hi hs
  have S2 := hide fun w1 (hb : Below w.heap.size w w1) => CopyBytes_at w1 r.aD r.data.length r.cD r.data (hR.bd.keep hb) rfl hd
  have L8 := hide hR.bd.1
  have NK := hide (And.intro hR.nk (And.intro hR.nl hR.nn))
  clear hR
  unfold Pv.vl
  obtain ⟨kind, level, aI, cI, items, aD, cD, data, next⟩ := r
  have IT := hide fun (W : World) (h : W.heap[w.heap.size]? = some (.cells (Pv.cs ⟨kind, level, aI, cI, items, aD, cD, data, next⟩) 27)) => Bx.page (p := ⟨kind, level, aI, cI, items, aD, cD, data, next⟩) h
  have IS := hide fun (W : World) (h : W.heap[w.heap.size]? = some (.cells (Pv.cs ⟨kind, level, aI, cI, items, aD, cD, data, next⟩) 27)) (a b c d f : Value) => Bx.page (p := ⟨kind, level, aI, cI, items, aD, cD, data, next⟩) ((show Bx W 27 w.heap.size _ from h).but (but_set5 (w.heap.size + 1) W a b c d f) (by omega))
  have TZ := hide fun (W : World) (h : W.heap[w.heap.size + 1]? = some (.cells (Pv.cs Pv.zero) 27)) => And.intro (Bx.page (p := Pv.zero) h) (fr4 (show Bx W 27 (w.heap.size + 1) _ from h))
  have TM := hide fun (W : World) (h : W.heap[w.heap.size + 1]? = some (.cells (Pv.cs Pv.zero) 27)) (a b c d f : Value) => bx_set5 (show Bx W 27 (w.heap.size + 1) _ from h) a b c d f
  dsimp only [Pv.cs, Pv.zero, List.length_nil] at *
  go_enter Tryz.func14, Tryz.ntmps14
  go_wp2
  have T0 : Hid (Below ((w.alloc (.cells #[.int .i64 kind, .int .i64 level, .slice aI items.length cI, .slice aD data.length cD, .int .i64 next] 27)).alloc (.cells #[.int .i64 0, .int .i64 0, .slice none 0 0, .slice none 0 0, .int .i64 0] 27)).heap.size ((w.alloc (.cells #[.int .i64 kind, .int .i64 level, .slice aI items.length cI, .slice aD data.length cD, .int .i64 next] 27)).alloc (.cells #[.int .i64 0, .int .i64 0, .slice none 0 0, .slice none 0 0, .int .i64 0] 27)) ((w.alloc (.cells #[.int .i64 kind, .int .i64 level, .slice aI items.length cI, .slice aD data.length cD, .int .i64 next] 27)).alloc (.cells #[.int .i64 0, .int .i64 0, .slice none 0 0, .slice none 0 0, .int .i64 0] 27)).drew) := (Below.refl _ _).drew
  have C0 := IT.out _ (two_blocks w _ _ T0.out).1
  have hn : w.heap.size + 1 ≠ w.heap.size := by omega
  go_region_held3 (fun w' => w'.cell? ⟨w.heap.size, 0, none⟩ = some (.int .i64 kind) ∧ w'.cell? ⟨w.heap.size, 1, none⟩ = some (.int .i64 level) ∧ w'.cell? ⟨w.heap.size, 2, none⟩ = some (.slice aI items.length cI) ∧ w'.cell? ⟨w.heap.size, 3, none⟩ = some (.slice aD data.length cD) ∧ w'.cell? ⟨w.heap.size, 4, none⟩ = some (.int .i64 next))
    (first | with_reducible exact C0 | with_reducible exact IS.out _ (two_blocks w _ _ T0.out).1 _ _ _ _ _)
    (first | (go_at_call 31; with_reducible refine (S1.out _ (two_blocks w _ _ T0.out).2.2.1).mono ?_; rintro e w1 ⟨g1, d1, M, rfl, o1⟩; have hb1 := o1.j.b; have T0 := hide (bt T0.out hb1); have C0 := IT.out _ (two_blocks w _ _ T0.out).1; have R1 := hide o1; clear hb1 o1) | (go_at_call 15; with_reducible refine (S2.out _ (two_blocks w _ _ T0.out).2.2.1).mono ?_; rintro e w2 ⟨g2, d2, rfl, o2⟩; have hb2 := o2.b; have T0 := hide (bt T0.out hb2); have C0 := IT.out _ (two_blocks w _ _ T0.out).1; obtain ⟨⟨y0, y1, y2, y3, y4⟩, f0, f1, f2, f3, f4⟩ := TZ.out _ (two_blocks w _ _ T0.out).2.1; have R1 := hide (R1.out.keep hb2); have R2 := hide o2.r; clear hb2 o2))
  clear C0
  have M1 := hide (TM.out _ (two_blocks w _ _ T0.out).2.1 (.int .i64 kind) (.int .i64 level) (.slice g1 items.length d1) (.slice g2 data.length d2) (.int .i64 next))
  have BB := hide (but_set5 (w.heap.size + 1) w2 (.int .i64 kind) (.int .i64 level) (.slice g1 items.length d1) (.slice g2 data.length d2) (.int .i64 next))
  have TB := hide (two_blocks w _ _ T0.out).2.2.1
  have X1 : Hid (Bx w2 27 (w.heap.size + 1) _) := (two_blocks w _ _ T0.out).2.1
  clear y0 y1 y2 y3 y4 f0 f1 f2 f3 f4 T0
  go_wp2
  refine bodyPost_ret (v := .agg _) (results_cell_row Tryz.results14 _ _ (w.heap.size + 1) 27 _ (0, 0) _ rfl M1.out Tryz.underlying27 rfl sizePage) rfl ?_
  have bel : Below w.heap.size w _ := ((But.ofBelow (S := fun k => k = w.heap.size + 1) TB.out).trans BB.out fun _ _ e => e).below fun k hk e => by omega
  have r2 := R2.out.but BB.out fun x hx e => R2.out.nty X1.out (by decide) hx e
  have j2 := R1.out.j.r.but BB.out fun x hx e => R1.out.j.r.nty X1.out (by decide) hx e
  have hml := R1.out.len
  have ii : ∀ r ∈ M, Ii _ r := fun r hr => by
    have k := Fam.io (R1.out.f.sub (rows_sub hr))
    have kk := k.k.r.but BB.out fun x hx e => k.k.r.nty X1.out (by decide) hx e
    have kv := k.v.r.but BB.out fun x hx e => k.v.r.nty X1.out (by decide) hx e
    exact ⟨kk.bs k.k8 kk.len_le, kk.cap, kv.bs k.v8 kv.len_le, kv.cap, (R1.out.n r hr).1, (R1.out.n r hr).2⟩
  have hc1 : M.length ≤ d1 := by
    rcases j2.cases with ⟨_, h1, h2⟩ | ⟨g, cur, _, _, h1, _⟩
    · rw [h1, h2]; simp
    · exact h1
  refine ⟨⟨kind, level, g1, d1, M, g2, d2, data, next⟩, by rw [← hml], ⟨j2.qs ii (by omega), hc1, r2.bs L8.out r2.len_le, r2.cap, NK.out.1, NK.out.2.1, NK.out.2.2⟩, ?_, bel⟩
  unfold Pv.pg
  dsimp only
  rw [R1.out.e]
end Go.Proofs.YtlneomgjjkfnoabGreat

namespace Go.Proofs.YtlneomgjjkfnoabGreat
open Go.RowKit

/-- a list that Spare made -/
structure Sl (W : World) (a : Option Addr) (c : Nat) (l : List Nat) : Prop where
  at' : ∃ g, a = some ⟨g, 0, none⟩ ∧ W.rowIs g 5 (l.length + 64) (spF l)
  c : c = l.length + 64
  n : l.length ≤ 140737488355264
  l8 : B8 l
theorem Sl.but {S : Nat → Prop} {W W' : World} {a : Option Addr} {c : Nat} {l : List Nat} (h : Sl W a c l) (hb : But S W W') (hn : ∀ x, a = some x → ¬ S x.block) : Sl W' a c l := by
  obtain ⟨⟨g, e, hr⟩, h2, h3, h4⟩ := h
  exact ⟨⟨g, e, rowIs_but hr hb (hn _ e)⟩, h2, h3, h4⟩
theorem Sl.keep {W W' : World} {a : Option Addr} {c : Nat} {l : List Nat} (h : Sl W a c l) (hb : Below W.heap.size W W') : Sl W' a c l := h.but (S := fun _ => False) (But.ofBelow hb) fun _ _ h => h
theorem Sl.rw' {W : World} {a : Option Addr} {c : Nat} {l : List Nat} (h : Sl W a c l) : Rw W a c l := by
  obtain ⟨⟨g, rfl, cs, hg, hs, hc⟩, rfl, h3, h4⟩ := h
  refine Rw.mk hg (by omega) (by unfold maxLen; omega) hs ?_
  apply List.ext_getElem?
  intro i
  rw [List.getElem?_take]
  by_cases hi : i < l.length
  · rw [if_pos hi, vb_get l i hi]
    have := hc i (by omega)
    rw [Array.getElem?_toList, this]
    unfold spF
    rw [if_pos hi]
  · rw [if_neg hi]
    symm
    rw [List.getElem?_eq_none_iff, vb_length]
    omega
theorem Sl.bs {W : World} {a : Option Addr} {c : Nat} {l : List Nat} (h : Sl W a c l) : Bs W a l := h.rw'.bs h.l8 h.rw'.len_le
theorem Spare_at (w : World) (aa : Option Addr) (n capa : Nat) (l : List Nat) (hB : Bs w aa l) (hn : n = l.length) (hlen : l.length ≤ 140737488355264) :
    Calls Tryz.prog 7 #[.slice aa n capa] w fun x w' => ∃ g, x = .returned (.slice (some ⟨g, 0, none⟩) l.length (l.length + 64)) ∧ Sl w' (some ⟨g, 0, none⟩) (l.length + 64) l ∧ w.heap.size ≤ g ∧ g < w'.heap.size ∧ Below w.heap.size w w' :=
  (Spare_any w aa n capa l hB hn (by omega)).mono fun _ _ ⟨h1, h2, h3⟩ => ⟨w.heap.size, h1, ⟨⟨_, rfl, h2⟩, rfl, hlen, hB.1⟩, Nat.le_refl _, h2.lt, h3⟩
theorem Kept_sl (w : World) (a ab : Option Addr) (c cb : Nat) (l : List Nat) (h : Sl w a c l) (hB : Bs w ab l) : Calls Tryz.prog 12 #[.slice a l.length c, .slice ab l.length cb] w fun e w' => e = .returned (.bool true) ∧ Below w.heap.size w w' := by
  obtain ⟨⟨g, rfl, hr⟩, rfl, hn, _⟩ := h
  exact Kept_any w g (l.length + 64) ab l.length l.length cb l hr hB rfl rfl rfl (by omega)
/-- lists that Spare made, all apart -/
structure Sf (w W : World) (T : List Br) : Prop where
  s : ∀ t ∈ T, Sl W t.a t.c t.l
  f : Fam w W T
theorem Sf.keep {w W W' : World} {T : List Br} (h : Sf w W T) (hb : Below W.heap.size W W') : Sf w W' T := ⟨fun t ht => (h.s t ht).keep hb, h.f.keep hb⟩
theorem Sf.but {S : Nat → Prop} {w W W' : World} {T : List Br} (h : Sf w W T) (hb : But S W W') (hw : Below w.heap.size w W') (hn : ∀ t ∈ T, ∀ x, t.a = some x → ¬ S x.block) : Sf w W' T := ⟨fun t ht => (h.s t ht).but hb (hn t ht), h.f.but hb hw hn⟩
theorem Sf.one {w W : World} {g c : Nat} {l : List Nat} (h : Sl W (some ⟨g, 0, none⟩) c l) (hg : w.heap.size ≤ g) (hb : Below w.heap.size w W) : Sf w W [⟨some ⟨g, 0, none⟩, c, l⟩] :=
  ⟨fun t ht => by rw [List.mem_singleton.1 ht]; exact h, ⟨fun t ht => by rw [List.mem_singleton.1 ht]; exact ⟨⟨h.rw', fun x hx => .inr (by cases hx; exact hg), hb⟩, h.l8⟩, List.pairwise_singleton _ _⟩⟩
theorem Sf.add {w W W' : World} {T U : List Br} (h : Sf w W T) (k : Sf W W' U) (hb : Below W.heap.size W W') (hw : Below w.heap.size w W) : Sf w W' (T ++ U) :=
  ⟨fun t ht => by
    rcases List.mem_append.1 ht with ht | ht
    · exact (h.s t ht).keep hb
    · exact k.s t ht, h.f.add k.f hb hw⟩
theorem Sf.pre {w w0 W : World} {T : List Br} (hb : Below w.heap.size w w0) (h : Sf w0 W T) : Sf w W T := ⟨h.s, Fam.pre hb h.f⟩
def mark (i : Nat) : Iv := ⟨none, 0, [], none, 0, [], -5 - (i : Int), -9⟩
/-- a page that is being spared: v0 has the page's box; g3 is what is made, g its items -/
structure Sw (v0 W : World) (p : Pv) (g3 gD g : Nat) (j : Nat) (D : List Iv) : Prop where
  b : Below v0.heap.size v0 W
  rs : Bx W 27 v0.heap.size Pv.zero.cs
  o3 : Bx W 27 g3 (Pv.mk p.kind p.level none 0 [] (some ⟨gD, 0, none⟩) (p.data.length + 64) p.data p.next).cs
  n3 : v0.heap.size < g3
  jw : Jw W (some ⟨g, 0, none⟩) (p.items.length + 2) (D ++ List.replicate (p.items.length + 2 - j) Iv.zero)
  gn : v0.heap.size < g
  len : D.length = j
  it : ∀ i, i < j → i < p.items.length → (D.getD i Iv.zero).it = (p.items.getD i Iv.zero).it
  mr : ∀ i, i < j → p.items.length ≤ i → D.getD i Iv.zero = mark i
  f : Sf v0 W (⟨some ⟨gD, 0, none⟩, p.data.length + 64, p.data⟩ :: rowsOf (D.take p.items.length))
theorem getD_snoc {D : List Iv} {j i : Nat} {v : Iv} (hl : D.length = j) (hi : i < j + 1) : (D ++ [v]).getD i Iv.zero = if i < j then D.getD i Iv.zero else v := by
  subst hl
  by_cases h : i < D.length
  · rw [if_pos h]; simp [List.getElem?_append_left h]
  · obtain rfl : i = D.length := by omega
    rw [if_neg (by omega)]; simp
theorem nest4 (W : World) (g o : Nat) (x : Iv) : W.setCells g o x.cs.toList = (((W.setCell ⟨g, o, none⟩ (.slice x.aK x.key.length x.cK)).setCell ⟨g, o + 1, none⟩ (.slice x.aV x.val.length x.cV)).setCell ⟨g, o + 2, none⟩ (.int .i64 x.child)).setCell ⟨g, o + 3, none⟩ (.int .i64 x.size) := rfl
section
variable {v0 W W2 : World} {p : Pv} {g3 gD g j : Nat} {D : List Iv}
theorem Sw.keep (h : Sw v0 W p g3 gD g j D) (hb : Below W.heap.size W W2) : Sw v0 W2 p g3 gD g j D := ⟨bt h.b hb, h.rs.keep hb, h.o3.keep hb, h.n3, h.jw.keep hb, h.gn, h.len, h.it, h.mr, h.f.keep hb⟩
/-- an item is laid -/
theorem Sw.lay (h : Sw v0 W p g3 gD g j D) (hj : j < p.items.length + 2) (x : Iv) (hit : j < p.items.length → x.it = (p.items.getD j Iv.zero).it) (hmk : p.items.length ≤ j → x = mark j) (hb : Below W.heap.size W W2)
    (hf : Sf v0 W2 (⟨some ⟨gD, 0, none⟩, p.data.length + 64, p.data⟩ :: rowsOf ((D ++ [x]).take p.items.length))) : Sw v0 (W2.setCells g (j * 4) x.cs.toList) p g3 gD g (j + 1) (D ++ [x]) := by
  have k := h.keep hb
  have hB := but_setCells g x.cs.toList W2 (j * 4)
  have hw : Below v0.heap.size v0 (W2.setCells g (j * 4) x.cs.toList) := ((But.ofBelow (S := fun _ => False) k.b).trans hB fun y hy e => by have := h.gn; omega).below fun _ _ h => h
  have j2 := k.jw.setv j x
  rw [set_zero h.len (by omega)] at j2
  refine ⟨hw, k.rs.but hB (by have := h.gn; omega), k.o3.but hB fun e => k.jw.nty k.o3 (by decide) rfl e.symm, h.n3, j2, h.gn, by rw [List.length_append, h.len]; rfl, fun i hi hin => ?_, fun i hi hin => ?_, hf.but hB hw fun t ht y hy e => k.jw.ne (hf.f.own t ht).1.r rfl hy e.symm⟩
  · rw [getD_snoc h.len hi]
    split
    · exact h.it i (by omega) hin
    · obtain rfl : i = j := by omega
      exact hit hin
  · rw [getD_snoc h.len hi]
    split
    · exact h.mr i (by omega) hin
    · obtain rfl : i = j := by omega
      exact hmk hin
theorem Sw.spare {gK gV : Nat} {cK cV : Nat} {W1 : World} {key val : List Nat} {child size : Int} (h : Sw v0 W p g3 gD g j D) (hj : j < p.items.length) (hx : (p.items.getD j Iv.zero).it = ⟨key, val, child, size⟩) (s1 : Sl W1 (some ⟨gK, 0, none⟩) cK key) (n1 : W.heap.size ≤ gK) (b1 : Below W.heap.size W W1) (s2 : Sl W2 (some ⟨gV, 0, none⟩) cV val) (n2 : W1.heap.size ≤ gV) (b2 : Below W1.heap.size W1 W2) :
    Sw v0 (W2.setCells g (j * 4) (Iv.cs ⟨some ⟨gK, 0, none⟩, cK, key, some ⟨gV, 0, none⟩, cV, val, child, size⟩).toList) p g3 gD g (j + 1) (D ++ [⟨some ⟨gK, 0, none⟩, cK, key, some ⟨gV, 0, none⟩, cV, val, child, size⟩]) := by
  refine h.lay (by omega) _ (fun _ => hx.symm) (fun h1 => by omega) (bt b1 b2) ?_
  have e0 : D.take p.items.length = D := List.take_of_length_le (by have := h.len; omega)
  have e1 : ∀ x : Iv, (D ++ [x]).take p.items.length = D ++ [x] := fun x => List.take_of_length_le (by rw [List.length_append, h.len]; simp; omega)
  have f0 := h.f
  rw [e0] at f0
  rw [e1, rowsOf_append, rowsOf_one]
  have f1 := (f0.add (Sf.one s1 n1 b1) b1 h.b).add (Sf.one s2 n2 b2) b2 (bt h.b b1)
  rw [List.append_assoc, List.cons_append] at f1
  exact f1
theorem Sw.tail (h : Sw v0 W p g3 gD g j D) (hj : p.items.length ≤ j) (hn : j < p.items.length + 2) : Sw v0 (W.setCells g (j * 4) (Iv.cs (mark j)).toList) p g3 gD g (j + 1) (D ++ [mark j]) := by
  refine h.lay hn _ (fun h1 => by omega) (fun _ => rfl) (Below.refl _ _) ?_
  rw [List.take_append_of_le_length (by have := h.len; omega)]
  exact h.f
end
/-- a page that SparePage made of p -/
structure Sp (w W : World) (p q : Pv) : Prop where
  e : q.pg = p.pg
  s : Sf w W (rp q)
  it : ∃ (g : Nat) (D : List Iv), q.aI = some ⟨g, 0, none⟩ ∧ q.cI = p.items.length + 2 ∧ Jw W (some ⟨g, 0, none⟩) (p.items.length + 2) (q.items ++ D) ∧ D = [mark p.items.length, mark (p.items.length + 1)] ∧ w.heap.size ≤ g
  b : Below w.heap.size w W
theorem Sp.len {w W : World} {p q : Pv} (h : Sp w W p q) : q.items.length = p.items.length := by have := congrArg (fun x => x.items.length) h.e; simpa [Pv.pg] using this
theorem Sp.keep {w W W' : World} {p q : Pv} (h : Sp w W p q) (hb : Below W.heap.size W W') : Sp w W' p q := by
  obtain ⟨g, D, e1, e2, e3, e4, e5⟩ := h.it
  exact ⟨h.e, h.s.keep hb, ⟨g, D, e1, e2, e3.keep hb, e4, e5⟩, bt h.b hb⟩
theorem pg_n {p q : Pv} (h : q.pg = p.pg) {W : World} (hp : Pi W p) : N64 q.kind ∧ N64 q.level ∧ N64 q.next ∧ ∀ r ∈ q.items, N64 r.child ∧ N64 r.size := by
  have h1 : q.kind = p.kind := congrArg Pg.kind h
  have h2 : q.level = p.level := congrArg Pg.level h
  have h3 : q.next = p.next := congrArg Pg.next h
  have h4 : q.items.map Iv.it = p.items.map Iv.it := congrArg Pg.items h
  refine ⟨h1 ▸ hp.nk, h2 ▸ hp.nl, h3 ▸ hp.nn, fun r hr => ?_⟩
  have hm : r.it ∈ p.items.map Iv.it := h4 ▸ List.mem_map.2 ⟨r, hr, rfl⟩
  obtain ⟨x, hx, e⟩ := List.mem_map.1 hm
  exact it_n e.symm ⟨(hp.it.1 x hx).nc, (hp.it.1 x hx).ns⟩
theorem Sp.jw {w W : World} {p q : Pv} (h : Sp w W p q) : Jw W q.aI q.cI q.items := by
  obtain ⟨g, D, e1, e2, e3, e4, e5⟩ := h.it
  rw [e1, e2]
  rcases e3.front with k | k
  · exact k
  · cases k
theorem Sp.pi {w W W' : World} {p q : Pv} (h : Sp w W p q) (hp : Pi W' p) (hl : p.items.length ≤ 1048576) : Pi W q := by
  obtain ⟨n1, n2, n3, n4⟩ := pg_n h.e hp
  have hlen := h.len
  have f2 : Fam w W (rowsOf q.items) := h.s.f.sub (List.sublist_cons_self _ _)
  have d := h.s.f.own ⟨q.aD, q.cD, q.data⟩ (by simp [rp])
  obtain ⟨g, D, e1, e2, e3, e4, e5⟩ := h.it
  exact ⟨h.jw.qs (f2.ii n4) (by omega), by rw [e2]; omega, d.1.bs d.2, d.1.r.cap, n1, n2, n3⟩
theorem Sw.done {v0 w W W2 : World} {p : Pv} {g3 gD g : Nat} {D : List Iv} (h : Sw v0 W p g3 gD g (p.items.length + 2) D) (hb : Below w.heap.size w v0) (hB : But (fun k => k = v0.heap.size ∨ k = g3) W W2) (hg : v0.heap.size ≤ g3) : Sp w W2 p ⟨p.kind, p.level, some ⟨g, 0, none⟩, p.items.length + 2, D.take p.items.length, some ⟨gD, 0, none⟩, p.data.length + 64, p.data, p.next⟩ := by
  have hw : Below w.heap.size w W2 := ((But.ofBelow (S := fun _ => False) (bt hb h.b)).trans hB fun y hy e => by have := hb.size; omega).below fun _ _ h => h
  have hl := h.len
  have ne : ∀ t ∈ (⟨some ⟨gD, 0, none⟩, p.data.length + 64, p.data⟩ :: rowsOf (D.take p.items.length) : List Br), ∀ x, t.a = some x → ¬ (x.block = v0.heap.size ∨ x.block = g3) := fun t ht x hx e => by
    have o := (h.f.f.own t ht).1
    rcases e with e | e
    · exact o.r.nty h.rs (by decide) hx e
    · exact o.r.nty h.o3 (by decide) hx e
  have hjl := h.jw
  rw [Nat.sub_self, List.replicate_zero, List.append_nil] at hjl
  have hd : D = D.take p.items.length ++ [mark p.items.length, mark (p.items.length + 1)] := by
    have m0 := h.mr p.items.length (by omega) (Nat.le_refl _)
    have m1 := h.mr (p.items.length + 1) (by omega) (by omega)
    conv => lhs; rw [← List.take_append_drop p.items.length D]
    congr 1
    rw [List.drop_eq_getElem_cons (by omega), List.drop_eq_getElem_cons (by omega), List.drop_eq_nil_of_le (by omega)]
    rw [List.getD_eq_getElem?_getD, List.getElem?_eq_getElem (by omega)] at m0 m1
    simp only [Option.getD_some] at m0 m1
    rw [m0, m1]
  refine ⟨?_, (⟨(h.f.but hB (((But.ofBelow (S := fun _ => False) h.b).trans hB fun y hy e => by omega).below fun _ _ h => h) ne).s, Fam.pre hb ((h.f.but hB (((But.ofBelow (S := fun _ => False) h.b).trans hB fun y hy e => by omega).below fun _ _ h => h) ne).f)⟩ : Sf w W2 _), ⟨g, _, rfl, rfl, ?_, rfl, by have := h.gn; have := hb.size; omega⟩, hw⟩
  · unfold Pv.pg
    dsimp only
    congr 1
    apply List.ext_getElem?
    intro i
    rw [List.getElem?_map, List.getElem?_map, List.getElem?_take]
    by_cases hi : i < p.items.length
    · have := h.it i (by omega) hi
      rw [List.getD_eq_getElem?_getD, List.getD_eq_getElem?_getD, List.getElem?_eq_getElem (show i < D.length by omega), List.getElem?_eq_getElem hi] at this
      rw [if_pos hi, List.getElem?_eq_getElem (show i < D.length by omega), List.getElem?_eq_getElem hi]
      simpa using this
    · rw [if_neg hi, List.getElem?_eq_none (by omega)]
  · dsimp only
    rw [← hd]
    exact hjl.but hB fun x hx e => by
      rcases e with e | e
      · exact hjl.nty h.rs (by decide) hx e
      · exact hjl.nty h.o3 (by decide) hx e
end Go.Proofs.YtlneomgjjkfnoabGreat
