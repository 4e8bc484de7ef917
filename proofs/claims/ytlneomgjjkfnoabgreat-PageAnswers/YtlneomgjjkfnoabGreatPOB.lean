import Derived.Test.YtlneomgjjkfnoabGreatPOA
import Derived.Test.YtlneomgjjkfnoabGreatPDB
import Derived.Test.YtlneomgjjkfnoabGreatPLX
namespace Go.Proofs.YtlneomgjjkfnoabGreat
open Go.RowKit

theorem readItem_any (v w : World) (b : Nat) (s : RS) (kind : Int) (h : Rk v w b s) (hv : v.heap.size ≤ w.heap.size) :
    Calls Tryz.prog 92 #[.pointer (some ⟨b, 0, none⟩), .int .i64 kind] w fun e w' => ∃ x : Iv, e = .returned x.vl ∧ x.it = (rdItem kind s).1 ∧ Rk v w' b (rdItem kind s).2 ∧ But (fun k => k = b) w w' ∧ Jo w w' x := by
  by_cases h2 : kind = 2
  · subst h2; exact readItem_index v w b s h hv
  · exact readItem_leaf v w b s kind h2 h hv
/-- a page that is being read: its rows are new memory, apart from one another -/
structure Pn (v wx : World) (P : Pv) : Prop where
  it : Jw wx P.aI P.cI P.items
  itn : New v none P.aI
  d : Rw wx P.aD P.cD P.data
  dn : New v none P.aD
  fr : ∀ t ∈ rowsOf P.items, Rw wx t.a t.c t.l ∧ New v none t.a ∧ B8 t.l
  dist : ((⟨P.aD, P.cD, P.data⟩ : Br) :: rowsOf P.items).Pairwise brApart
  d8 : B8 P.data
  ns : ∀ r ∈ P.items, N64 r.child ∧ N64 r.size
  nk : N64 P.kind
  nl : N64 P.level
  nn : N64 P.next
theorem Jw.nty {w : World} {a : Option Addr} {c : Nat} {L : List Iv} (h : Jw w a c L) {t : TypeId} {g : Nat} {cs : Array Value} (hg : Bx w t g cs) (ht : t ≠ 55) {x : Addr} (hx : a = some x) : x.block ≠ g := by
  intro e
  rcases h.cases with ⟨rfl, _⟩ | ⟨g', cur, rfl, hg', _⟩
  · cases hx
  · cases hx
    dsimp only at e
    subst e
    unfold Bx at hg
    rw [hg'] at hg
    simp only [Option.some.injEq, Obj.cells.injEq] at hg
    exact absurd hg.2.1.symm ht
theorem Pn.but {S : Nat → Prop} {v wx wy : World} {P : Pv} (h : Pn v wx P) (hb : But S wx wy) (hS : ∀ k, S k → ∃ t cs, Bx wx t k cs ∧ t ≠ 5 ∧ t ≠ 55) : Pn v wy P := by
  have hr : ∀ {a c l}, Rw wx a c l → Rw wy a c l := fun hr => hr.but hb fun x hx hs => by
    obtain ⟨t, cs, h1, h2, h3⟩ := hS _ hs
    exact hr.nty h1 h2 hx rfl
  exact ⟨h.it.but hb fun x hx hs => by
    obtain ⟨t, cs, h1, h2, h3⟩ := hS _ hs
    exact h.it.nty h1 h3 hx rfl, h.itn, hr h.d, h.dn, fun t ht => ⟨hr (h.fr t ht).1, (h.fr t ht).2⟩, h.dist, h.d8, h.ns, h.nk, h.nl, h.nn⟩
theorem Pn.keep {v wx wy : World} {P : Pv} (h : Pn v wx P) (hb : Below wx.heap.size wx wy) : Pn v wy P := h.but (S := fun _ => False) (But.ofBelow hb) fun _ h => h.elim
/-- what is being read: the reader, and the content in memory -/
structure Rp (v wx : World) (b cb : Nat) (s : RS) (no gen : Int) (P : Pv) : Prop where
  k : Rk v wx b s
  c : Bx wx 62 cb (ctc no gen P)
  p : Pn v wx P
theorem Rp.call {v wx wy : World} {b cb : Nat} {s s' : RS} {no gen : Int} {P : Pv} (h : Rp v wx b cb s no gen P) (hc : v.heap.size ≤ cb) (hk : Rk v wy b s') (hb : But (fun k => k = b) wx wy) : Rp v wy b cb s' no gen P :=
  ⟨hk, h.c.but hb (by have := h.k.blt; omega), h.p.but hb fun k hk => by
    subst hk
    obtain ⟨cs, ht⟩ := h.k.type
    exact ⟨102, cs, ht, by decide, by decide⟩⟩
theorem Rp.keep {v wx wy : World} {b cb : Nat} {s : RS} {no gen : Int} {P : Pv} (h : Rp v wx b cb s no gen P) (hb : Below wx.heap.size wx wy) : Rp v wy b cb s no gen P := ⟨h.k.keep hb, h.c.keep hb, h.p.keep hb⟩
theorem Rp.set {v wx : World} {b cb : Nat} {s : RS} {no gen : Int} {P : Pv} (h : Rp v wx b cb s no gen P) (hc : v.heap.size ≤ cb) (i : Nat) (u : Value) : Rk v (wx.setCell ⟨cb, i, none⟩ u) b s ∧ Bx (wx.setCell ⟨cb, i, none⟩ u) 62 cb ((ctc no gen P).setIfInBounds i u) ∧ Pn v (wx.setCell ⟨cb, i, none⟩ u) P :=
  have hB : But (fun k => k = cb) wx (wx.setCell ⟨cb, i, none⟩ u) := (But.refl (fun k => k = cb) wx).setCell (p := ⟨cb, i, none⟩) (fun _ => rfl) u
  ⟨h.k.but hB (fun k hk => by omega), h.c.setc i u, h.p.but hB fun k hk => by subst hk; exact ⟨62, _, h.c, by decide, by decide⟩⟩
/-- what is being read, by what it says -/
def Rc (v wx : World) (b cb : Nat) (s : RS) (c : Ct) : Prop := ∃ P : Pv, P.pg = c.page ∧ Rp v wx b cb s c.no c.gen P
theorem Rp.froz {v wx : World} {b cb : Nat} {s : RS} {no gen : Int} {P : Pv} (h : Rp v wx b cb s no gen P) (i : Nat) : wx.frozen? ⟨cb, i, none⟩ = false := frozen_of_row _ _ _ _ _ h.c
/-- what a call may change -/
def Bc (b cb k : Nat) : Prop := k = b ∨ k = cb
theorem But.c1 {b cb : Nat} {w w' : World} (h : But (fun k => k = b) w w') : But (Bc b cb) w w' := h.mono fun _ _ e => .inl e
theorem But.c2 {b cb : Nat} {w w1 : World} (h : But (Bc b cb) w w1) (i : Nat) (u : Value) : But (Bc b cb) w (w1.setCell ⟨cb, i, none⟩ u) := h.setCell (p := ⟨cb, i, none⟩) (fun _ => .inr rfl) u
theorem But.c3 {b cb : Nat} {w w1 w2 : World} (h : But (Bc b cb) w w1) (k : But (Bc b cb) w1 w2) : But (Bc b cb) w w2 := h.trans k fun _ _ h => h
theorem iwr_wrap (x : Nat) (h : x < 18446744073709551616) : IntKind.i64.wrap (x : Int) = iwr x := by
  unfold iwr
  split
  · exact wrapI (by omega) (by omega)
  · rw [IntKind.wrap_i64]; omega
theorem iwr_n64 (x : Nat) (h : x < 18446744073709551616) : N64 (iwr x) := by unfold iwr N64; split <;> omega
set_option maxRecDepth 8000 in
set_option maxHeartbeats 1600000 in
theorem readPart_0 (v w : World) (b cb : Nat) (s : RS) (c : Ct) (h : Rc v w b cb s c) (hc : v.heap.size ≤ cb) :
    Calls Tryz.prog 66 #[.pointer (some ⟨cb, 0, none⟩), .pointer (some ⟨b, 0, none⟩), .int .i64 0] w fun e w' => e = .returned (.tuple #[]) ∧ Rc v w' b cb (rdPart 0 c s).2 (rdPart 0 c s).1 ∧ But (Bc b cb) w w' := by
  obtain ⟨no, gen, pg⟩ := c
  obtain ⟨P, rfl, h⟩ := h
  have hlt := RS.get_lt (k := 1) (s := s) h.k.b8
  have H := hide h
  clear h
  obtain ⟨kind, level, aI, cI, items, aD, cD, data, next⟩ := P
  go_enter Tryz.func66, Tryz.ntmps66
  go_wp2_with fail
  refine (kGet8 H.out.k).mono ?_
  rintro y w5 ⟨rfl, hk5, hb5⟩
  have R5 := hide (H.out.call hc hk5 hb5)
  have HB := hide hb5
  clear hk5 hb5
  obtain ⟨c0, c1, c2, c3, c4, c5, c6⟩ := Bx.ct R5.out.c
  have f := R5.out.froz 2
  obtain ⟨q, hq⟩ : ∃ q, (s.get 1).1 = q := ⟨_, rfl⟩
  rw [hq] at hlt ⊢
  have HQ := hide hq
  clear hq
  have hcv : IntKind.i64.wrap ((q : Nat) : Int) = ((q : Nat) : Int) := wrapI (by omega) (by omega)
  go_wp2
  go_end0
  obtain ⟨H0, H1, H2⟩ := R5.out.set hc 2 (.int .i64 (q : Int))
  have H3 : Rp v _ b cb (s.get 1).2 no gen ⟨q, level, aI, cI, items, aD, cD, data, next⟩ := ⟨H0, H1, ⟨H2.it, H2.itn, H2.d, H2.dn, H2.fr, H2.dist, H2.d8, H2.ns, n64_nat (by omega), H2.nl, H2.nn⟩⟩
  obtain rfl := HQ.out
  exact ⟨rfl, ⟨_, rfl, H3⟩, (But.c1 HB.out).c2 _ _⟩
set_option maxRecDepth 8000 in
set_option maxHeartbeats 1600000 in
theorem readPart_1 (v w : World) (b cb : Nat) (s : RS) (c : Ct) (h : Rc v w b cb s c) (hc : v.heap.size ≤ cb) :
    Calls Tryz.prog 66 #[.pointer (some ⟨cb, 0, none⟩), .pointer (some ⟨b, 0, none⟩), .int .i64 1] w fun e w' => e = .returned (.tuple #[]) ∧ Rc v w' b cb (rdPart 1 c s).2 (rdPart 1 c s).1 ∧ But (Bc b cb) w w' := by
  obtain ⟨no, gen, pg⟩ := c
  obtain ⟨P, rfl, h⟩ := h
  have hlt := RS.get_lt (k := 1) (s := s) h.k.b8
  have H := hide h
  clear h
  obtain ⟨kind, level, aI, cI, items, aD, cD, data, next⟩ := P
  go_enter Tryz.func66, Tryz.ntmps66
  go_wp2_with fail
  refine (kGet8 H.out.k).mono ?_
  rintro y w5 ⟨rfl, hk5, hb5⟩
  have R5 := hide (H.out.call hc hk5 hb5)
  have HB := hide hb5
  clear hk5 hb5
  obtain ⟨c0, c1, c2, c3, c4, c5, c6⟩ := Bx.ct R5.out.c
  have f := R5.out.froz 3
  obtain ⟨q, hq⟩ : ∃ q, (s.get 1).1 = q := ⟨_, rfl⟩
  rw [hq] at hlt ⊢
  have HQ := hide hq
  clear hq
  have hcv : IntKind.i64.wrap ((q : Nat) : Int) = ((q : Nat) : Int) := wrapI (by omega) (by omega)
  go_wp2
  go_end0
  obtain ⟨H0, H1, H2⟩ := R5.out.set hc 3 (.int .i64 (q : Int))
  have H3 : Rp v _ b cb (s.get 1).2 no gen ⟨kind, q, aI, cI, items, aD, cD, data, next⟩ := ⟨H0, H1, ⟨H2.it, H2.itn, H2.d, H2.dn, H2.fr, H2.dist, H2.d8, H2.ns, H2.nk, n64_nat (by omega), H2.nn⟩⟩
  obtain rfl := HQ.out
  exact ⟨rfl, ⟨_, rfl, H3⟩, (But.c1 HB.out).c2 _ _⟩
set_option maxRecDepth 8000 in
set_option maxHeartbeats 1600000 in
theorem readPart_2 (v w : World) (b cb : Nat) (s : RS) (c : Ct) (h : Rc v w b cb s c) (hc : v.heap.size ≤ cb) :
    Calls Tryz.prog 66 #[.pointer (some ⟨cb, 0, none⟩), .pointer (some ⟨b, 0, none⟩), .int .i64 2] w fun e w' => e = .returned (.tuple #[]) ∧ Rc v w' b cb (rdPart 2 c s).2 (rdPart 2 c s).1 ∧ But (Bc b cb) w w' := by
  obtain ⟨no, gen, pg⟩ := c
  obtain ⟨P, rfl, h⟩ := h
  have hlt := RS.get_lt (k := 4) (s := s) h.k.b8
  have H := hide h
  clear h
  obtain ⟨kind, level, aI, cI, items, aD, cD, data, next⟩ := P
  go_enter Tryz.func66, Tryz.ntmps66
  go_wp2_with fail
  refine (kGet32 H.out.k).mono ?_
  rintro y w5 ⟨rfl, hk5, hb5⟩
  have R5 := hide (H.out.call hc hk5 hb5)
  have HB := hide hb5
  clear hk5 hb5
  obtain ⟨c0, c1, c2, c3, c4, c5, c6⟩ := Bx.ct R5.out.c
  have f := R5.out.froz 0
  obtain ⟨q, hq⟩ : ∃ q, (s.get 4).1 = q := ⟨_, rfl⟩
  rw [hq] at hlt ⊢
  have HQ := hide hq
  clear hq
  have hcv : IntKind.i64.wrap ((q : Nat) : Int) = ((q : Nat) : Int) := wrapI (by omega) (by omega)
  go_wp2
  go_end0
  obtain ⟨H0, H1, H2⟩ := R5.out.set hc 0 (.int .i64 (q : Int))
  have H3 : Rp v _ b cb (s.get 4).2 (q : Int) gen ⟨kind, level, aI, cI, items, aD, cD, data, next⟩ := ⟨H0, H1, H2⟩
  obtain rfl := HQ.out
  exact ⟨rfl, ⟨_, rfl, H3⟩, (But.c1 HB.out).c2 _ _⟩
set_option maxRecDepth 8000 in
set_option maxHeartbeats 1600000 in
theorem readPart_3 (v w : World) (b cb : Nat) (s : RS) (c : Ct) (h : Rc v w b cb s c) (hc : v.heap.size ≤ cb) :
    Calls Tryz.prog 66 #[.pointer (some ⟨cb, 0, none⟩), .pointer (some ⟨b, 0, none⟩), .int .i64 3] w fun e w' => e = .returned (.tuple #[]) ∧ Rc v w' b cb (rdPart 3 c s).2 (rdPart 3 c s).1 ∧ But (Bc b cb) w w' := by
  obtain ⟨no, gen, pg⟩ := c
  obtain ⟨P, rfl, h⟩ := h
  have hlt := RS.get_lt (k := 8) (s := s) h.k.b8
  have H := hide h
  clear h
  obtain ⟨kind, level, aI, cI, items, aD, cD, data, next⟩ := P
  go_enter Tryz.func66, Tryz.ntmps66
  go_wp2_with fail
  refine (kGet64 H.out.k).mono ?_
  rintro y w5 ⟨rfl, hk5, hb5⟩
  have R5 := hide (H.out.call hc hk5 hb5)
  have HB := hide hb5
  clear hk5 hb5
  obtain ⟨c0, c1, c2, c3, c4, c5, c6⟩ := Bx.ct R5.out.c
  have f := R5.out.froz 1
  obtain ⟨q, hq⟩ : ∃ q, (s.get 8).1 = q := ⟨_, rfl⟩
  rw [hq] at hlt ⊢
  have HQ := hide hq
  clear hq
  have hcv := iwr_wrap q (by omega)
  have HN := hide (iwr_n64 q (by omega))
  generalize hqi : iwr q = qi at *
  have HQI := hide hqi
  clear hqi
  go_wp2
  go_end0
  obtain ⟨H0, H1, H2⟩ := R5.out.set hc 1 (.int .i64 qi)
  have H3 : Rp v _ b cb (s.get 8).2 no qi ⟨kind, level, aI, cI, items, aD, cD, data, next⟩ := ⟨H0, H1, H2⟩
  obtain rfl := HQI.out
  obtain rfl := HQ.out
  exact ⟨rfl, ⟨_, rfl, H3⟩, (But.c1 HB.out).c2 _ _⟩
theorem dr2 (w : World) : Below w.heap.size w w.drew := (Below.refl _ _).drew
theorem rows_zero : ∀ n, rowsOf (List.replicate n Iv.zero) = List.replicate (n * 2) (⟨none, 0, []⟩ : Br)
  | 0 => rfl
  | n + 1 => by rw [List.replicate_succ, rowsOf_cons, rows_zero n, show (n + 1) * 2 = n * 2 + 1 + 1 by omega, List.replicate_succ, List.replicate_succ]; rfl
theorem rdItems_succ (kind : Int) (k : Nat) (s : RS) : rdItems kind (k + 1) s = ((rdItems kind k s).1 ++ [(rdItem kind (rdItems kind k s).2).1], (rdItem kind (rdItems kind k s).2).2) := rfl
theorem rows_set {L : List Iv} {k : Nat} (hk : k < L.length) (x : Iv) : (rowsOf (L.set k x)).Perm (x.rows ++ rowsOf (L.take k ++ L.drop (k + 1))) := by
  have e : L.set k x = L.take k ++ x :: L.drop (k + 1) := by
    rw [List.set_eq_take_append_cons_drop, if_pos hk]
  rw [e, rowsOf_append, rowsOf_cons, rowsOf_append, ← List.append_assoc, ← List.append_assoc]
  exact List.Perm.append_right _ List.perm_append_comm
theorem rows_rest {L : List Iv} {k : Nat} (hk : k < L.length) : (rowsOf (L.take k ++ L.drop (k + 1))).Sublist (rowsOf L) := by
  conv => rhs; rw [← List.take_append_drop k L, List.drop_eq_getElem_cons hk, rowsOf_append, rowsOf_cons]
  rw [rowsOf_append]
  exact List.Sublist.append (List.Sublist.refl _) (List.sublist_append_right _ _)
/-- an item is stored -/
theorem Pn.item {v w wx : World} {kind level next : Int} {g n : Nat} {L : List Iv} {aD : Option Addr} {cD : Nat} {data : List Nat} {x : Iv} {k : Nat} (h0 : Pn v w ⟨kind, level, some ⟨g, 0, none⟩, n, L, aD, cD, data, next⟩) (h : Pn v wx ⟨kind, level, some ⟨g, 0, none⟩, n, L, aD, cD, data, next⟩) (hv : v.heap.size ≤ w.heap.size) (hJ : Jo w wx x) (hk : k < L.length) :
    Pn v (wx.setCells g (k * 4) x.cs.toList) ⟨kind, level, some ⟨g, 0, none⟩, n, L.set k x, aD, cD, data, next⟩ := by
  have hb := but_setCells g x.cs.toList wx (k * 4)
  have hrow : ∀ {a c l}, Rw wx a c l → Rw (wx.setCells g (k * 4) x.cs.toList) a c l := fun hr => hr.but hb fun y hy e => h.it.ne hr rfl hy e.symm
  have hmem : ∀ t, t ∈ rowsOf (L.set k x) → t ∈ x.rows ∨ t ∈ rowsOf L := fun t ht => by
    rcases List.mem_append.1 ((rows_set hk x).subset ht) with h1 | h1
    · exact .inl h1
    · exact .inr ((rows_rest hk).subset h1)
  have hxr : ∀ t ∈ x.rows, Rw wx t.a t.c t.l ∧ New w none t.a ∧ B8 t.l := fun t ht => by
    simp only [Iv.rows, List.mem_cons, List.not_mem_nil, or_false] at ht
    rcases ht with rfl | rfl
    · exact ⟨hJ.k, hJ.kn, hJ.k8⟩
    · exact ⟨hJ.v, hJ.vn, hJ.v8⟩
  refine ⟨h.it.setv k x, h.itn, hrow h.d, h.dn, fun t ht => ?_, ?_, h.d8, fun r hr => ?_, h.nk, h.nl, h.nn⟩
  · rcases hmem t ht with h1 | h1
    · obtain ⟨a1, a2, a3⟩ := hxr t h1
      exact ⟨hrow a1, a2.mono hv, a3⟩
    · obtain ⟨a1, a2, a3⟩ := h.fr t h1
      exact ⟨hrow a1, a2, a3⟩
  · have hap : ∀ t ∈ x.rows, ∀ u : Br, (∃ c l, Rw w u.a c l) → brApart u t := fun t ht u ⟨c, l, hu⟩ p q hp hq e => by
      have h1 := hu.lt hp
      rcases (hxr t ht).2.1 q hq with ⟨_, h, _⟩ | h2
      · cases h
      · omega
    obtain ⟨d1, d2⟩ := List.pairwise_cons.1 h.dist
    refine List.pairwise_cons.2 ⟨fun t ht => ?_, ?_⟩
    · rcases hmem t ht with h1 | h1
      · exact hap t h1 _ ⟨cD, data, h0.d⟩
      · exact d1 t h1
    · refine ((rows_set hk x).pairwise_iff fun h => brApart.symm h).2 (List.pairwise_append.2 ⟨?_, d2.sublist (rows_rest hk), fun t ht u hu => (hap t ht u ?_).symm⟩)
      · exact List.pairwise_cons.2 ⟨fun t ht => by rw [List.mem_singleton.1 ht]; exact hJ.ap, List.pairwise_singleton _ _⟩
      · obtain ⟨a1, _⟩ := h0.fr u ((rows_rest hk).subset hu)
        exact ⟨_, _, a1⟩
  · rcases List.mem_or_eq_of_mem_set hr with h1 | rfl
    · exact h.ns r h1
    · exact ⟨hJ.nc, hJ.ns⟩
set_option maxRecDepth 8000 in
set_option maxHeartbeats 1600000 in
theorem readPart_9 (v w : World) (b cb : Nat) (s : RS) (c : Ct) (h : Rc v w b cb s c) (hc : v.heap.size ≤ cb) :
    Calls Tryz.prog 66 #[.pointer (some ⟨cb, 0, none⟩), .pointer (some ⟨b, 0, none⟩), .int .i64 9] w fun e w' => e = .returned (.tuple #[]) ∧ Rc v w' b cb (rdPart 9 c s).2 (rdPart 9 c s).1 ∧ But (Bc b cb) w w' := by
  obtain ⟨no, gen, pg⟩ := c
  obtain ⟨P, rfl, h⟩ := h
  have hlt := RS.get_lt (k := 2) (s := s) h.k.b8
  have hlt2 := RS.get_lt (k := 4) (s := (s.get 2).2) (RS.get_b8 h.k.b8)
  have H8 := hide (RS.raw_b8 (n := ((s.get 2).1 : Nat)) (RS.get_b8 (k := 4) (RS.get_b8 (k := 2) h.k.b8))).1
  have SV := hide h.k.u.size
  have H := hide h
  clear h
  obtain ⟨kind, level, aI, cI, items, aD, cD, data, next⟩ := P
  go_enter Tryz.func66, Tryz.ntmps66
  go_wp2_with fail
  refine (kGet16 H.out.k).mono ?_
  rintro y w5 ⟨rfl, hk5, hb5⟩
  have R5 := hide (H.out.call hc hk5 hb5)
  have HU := hide (But.c1 (cb := cb) hb5)
  clear hk5 hb5
  obtain ⟨q, hq⟩ : ∃ q, (s.get 2).1 = q := ⟨_, rfl⟩
  rw [hq] at hlt H8 ⊢
  have HQ := hide hq
  clear hq
  have hcv : IntKind.i64.wrap ((q : Nat) : Int) = ((q : Nat) : Int) := wrapI (by omega) (by omega)
  go_wp2_with fail
  refine (kGet32 R5.out.k).mono ?_
  rintro y w6 ⟨rfl, hk6, hb6⟩
  have R6 := hide (R5.out.call hc hk6 hb6)
  have HU := hide (HU.out.c3 (But.c1 (cb := cb) hb6))
  clear hk6 hb6 R5
  obtain ⟨c0, c1, c2, c3, c4, c5, c6⟩ := Bx.ct R6.out.c
  have f := R6.out.froz 6
  obtain ⟨r, hr⟩ : ∃ r, ((s.get 2).2.get 4).1 = r := ⟨_, rfl⟩
  rw [hr] at hlt2 ⊢
  have HR := hide hr
  clear hr
  have hcr : IntKind.i64.wrap ((r : Nat) : Int) = ((r : Nat) : Int) := wrapI (by omega) (by omega)
  go_wp2_with fail
  obtain ⟨H0, H1, H2⟩ := R6.out.set hc 6 (.int .i64 (r : Int))
  have R7 : Hid (Rp v (w6.setCell ⟨cb, 6, none⟩ (.int .i64 (r : Int))) b cb ((s.get 2).2.get 4).2 no gen ⟨kind, level, aI, cI, items, aD, cD, data, r⟩) := ⟨H0, H1, ⟨H2.it, H2.itn, H2.d, H2.dn, H2.fr, H2.dist, H2.d8, H2.ns, H2.nk, H2.nl, n64_nat (by omega)⟩⟩
  have HU := hide (HU.out.c2 6 (.int .i64 (r : Int)))
  clear H0 H1 H2 R6 c0 c1 c2 c3 c4 c5 c6 f
  refine (kRaw R7.out.k (q : Int)).mono ?_
  rintro y w8 ⟨a8, c8, rfl, hr8, hn8, hk8, hb8⟩
  have R8 := hide (R7.out.call hc hk8 hb8)
  have HU8 := hide (HU.out.c3 (But.c1 (cb := cb) hb8))
  have HR8 := hide hr8
  have HN8 := hide hn8
  have HW := hide R7.out
  clear hr8 hn8 hk8 hb8 R7
  obtain ⟨c0, c1, c2, c3, c4, c5, c6⟩ := Bx.ct R8.out.c
  have f := R8.out.froz 5
  go_wp2
  go_end0
  obtain ⟨H0, H1, H2⟩ := R8.out.set hc 5 (.slice a8 (((s.get 2).2.get 4).2.raw (q : Int)).1.length c8)
  have hsz := HU.out.size
  have hsv := SV.out
  have H3 : Rp v _ b cb (((s.get 2).2.get 4).2.raw (q : Int)).2 no gen ⟨kind, level, aI, cI, items, a8, c8, (((s.get 2).2.get 4).2.raw (q : Int)).1, r⟩ := ⟨H0, H1, ⟨H2.it, H2.itn, HR8.out.oth (fun _ hx => HR8.out.nty R8.out.c (by decide) hx) _, HN8.out.mono (by omega), H2.fr, List.pairwise_cons.2 ⟨fun t ht p2 q2 hp2 hq2 e => by
      have h1 := (HW.out.p.fr t ht).1.lt hq2
      rcases HN8.out p2 hp2 with ⟨_, h, _⟩ | h2
      · cases h
      · omega, (List.pairwise_cons.1 H2.dist).2⟩, H8.out, H2.ns, H2.nk, H2.nl, H2.nn⟩⟩
  obtain rfl := HR.out
  obtain rfl := HQ.out
  exact ⟨rfl, ⟨_, rfl, H3⟩, HU8.out.c2 _ _⟩
set_option maxRecDepth 8000 in
set_option maxHeartbeats 6400000 in
theorem readPart_4 (v w : World) (b cb : Nat) (s : RS) (c : Ct) (h : Rc v w b cb s c) (hc : v.heap.size ≤ cb) :
    Calls Tryz.prog 66 #[.pointer (some ⟨cb, 0, none⟩), .pointer (some ⟨b, 0, none⟩), .int .i64 4] w fun e w' => e = .returned (.tuple #[]) ∧ Rc v w' b cb (rdPart 4 c s).2 (rdPart 4 c s).1 ∧ But (Bc b cb) w w' := by
  obtain ⟨no, gen, pg⟩ := c
  obtain ⟨P, rfl, h⟩ := h
  have hlt := RS.get_lt (k := 1) (s := s) h.k.b8
  have SV := hide h.k.u.size
  have H := hide h
  clear h
  obtain ⟨kind, level, aI, cI, items, aD, cD, data, next⟩ := P
  have RI := hide fun (w1 : World) (s1 : RS) (hk : Rk v w1 b s1) (hv : v.heap.size ≤ w1.heap.size) => readItem_any v w1 b s1 kind hk hv
  go_enter Tryz.func66, Tryz.ntmps66
  go_wp2_with fail
  refine (kGet8 H.out.k).mono ?_
  rintro y w5 ⟨rfl, hk5, hb5⟩
  have R5 := hide (H.out.call hc hk5 hb5)
  have HU := hide (But.c1 (cb := cb) hb5)
  clear hk5 hb5
  obtain ⟨n, hn⟩ : ∃ n, (s.get 1).1 = n := ⟨_, rfl⟩
  rw [hn] at hlt ⊢
  have HN := hide hn
  clear hn
  have hmk := make_items8 n (by omega)
  have HS := hide (Jw.start (W := w5) (n := n) (by omega))
  have R6 := hide (R5.out.keep (al w5 (.cells (madeCells Iv.zero.cs (n * 4)) 55)))
  have HGW := hide HU.out.size
  have HU := hide (HU.out.andBelow (al w5 (.cells (madeCells Iv.zero.cs (n * 4)) 55)))
  have hg5 := HU.out.size
  clear hg5
  have HGE := hide (show v.heap.size ≤ w5.heap.size from by have := SV.out; have := R5.out.k.u.size; omega)
  have HGC5 := hide (show cb < w5.heap.size from R5.out.c.lt)
  clear R5
  obtain ⟨w6, hw6⟩ : ∃ w6, w5.alloc (.cells (madeCells Iv.zero.cs (n * 4)) 55) = w6 := ⟨_, rfl⟩
  rw [hw6] at HS R6 HU
  obtain ⟨c0, c1, c2, c3, c4, c5, c6⟩ := Bx.ct R6.out.c
  have f := R6.out.froz 4
  go_wp2
  obtain ⟨H0, H1, H2⟩ := R6.out.set hc 4 (.slice (some ⟨w5.heap.size, 0, none⟩) n n)
  have R7 : Hid (Rp v (w6.setCell ⟨cb, 4, none⟩ (.slice (some ⟨w5.heap.size, 0, none⟩) n n)) b cb (s.get 1).2 no gen ⟨kind, level, some ⟨w5.heap.size, 0, none⟩, n, List.replicate n Iv.zero, aD, cD, data, next⟩) := ⟨H0, by
      have h := H1
      simp only [ctc, List.length_replicate] at h ⊢
      exact h, by
      have hz : rowsOf (List.replicate n Iv.zero) = List.replicate (n * 2) ⟨none, 0, []⟩ := rows_zero n
      have hB : But (fun k => k = cb) w6 (w6.setCell ⟨cb, 4, none⟩ (.slice (some ⟨w5.heap.size, 0, none⟩) n n)) := (But.refl (fun k => k = cb) w6).setCell (p := ⟨cb, 4, none⟩) (fun _ => rfl) _
      refine ⟨HS.out.but hB fun x hx e => HS.out.nty R6.out.c (by decide) hx e, fun x hx => .inr (by simp only [Option.some.injEq] at hx; subst hx; exact HGE.out), H2.d, H2.dn, fun t ht => ?_, ?_, H2.d8, fun r hr => ?_, H2.nk, H2.nl, H2.nn⟩
      · rw [hz] at ht
        obtain rfl := (List.mem_replicate.1 ht).2
        exact ⟨Rw.nil _, New.none _ _, B8.nil⟩
      · rw [hz]
        refine List.pairwise_cons.2 ⟨fun t ht => ?_, List.pairwise_replicate.2 (.inr fun _ _ h => by cases h)⟩
        obtain rfl := (List.mem_replicate.1 ht).2
        exact fun _ _ _ h => by cases h
      · obtain rfl := (List.mem_replicate.1 hr).2
        exact ⟨by simp [N64, Iv.zero], by simp [N64, Iv.zero]⟩⟩
  have HU := hide (HU.out.c2 4 (.slice (some ⟨w5.heap.size, 0, none⟩) n n))
  clear H0 H1 H2 c0 c1 c2 c3 c4 c5 c6 f HS R6
  have HGC : Hid (cb ≠ w5.heap.size) := by have := HGC5.out; show _ ≠ _; omega
  generalize w5.heap.size = g at *
  generalize w6.setCell ⟨cb, 4, none⟩ (.slice (some ⟨g, 0, none⟩) n n) = w7 at *
  clear hw6 hmk
  go_loopw [6, 58] (fun _ i wx => ∃ (k : Nat) (L : List Iv), k ≤ n ∧ i = .int .i64 k ∧ L.length = n ∧ L.map Iv.it = (rdItems kind k (s.get 1).2).1 ++ List.replicate (n - k) It.zero ∧ Rp v wx b cb (rdItems kind k (s.get 1).2).2 no gen ⟨kind, level, some ⟨g, 0, none⟩, n, L, aD, cD, data, next⟩ ∧ But (Bc b cb) w wx) (fun _ i _ => n - (intOf i).toNat)
  case atStart => exact ⟨0, List.replicate n Iv.zero, Nat.zero_le _, rfl, List.length_replicate, by simp only [rdItems, List.nil_append, Nat.sub_zero, List.map_replicate]; rfl, R7.out, HU.out⟩
  case round =>
    clear R7 HU
    obtain ⟨k, L, hk, rfl, hL, hM, hR, hU⟩ := hrel
    have HLL := hide hL
    have HM := hide hM
    have R0 := hide hR
    have HU := hide hU
    clear hL hM hR hU
    obtain ⟨c0, c1, c2, c3, c4, c5, c6⟩ := Bx.ct R0.out.c
    simp only [HLL.out] at c4
    by_cases hltk : k < n
    · have hlti : (k : Int) < (n : Int) := by omega
      have hj1 := w64 (j := k) (by omega)
      have HRS := hide (rdItems_succ kind k (s.get 1).2)
      have HDL := hide (rdItems_length kind (s.get 1).2 k)
      generalize (rdItems kind k (s.get 1).2).1 = RL at *
      generalize (rdItems kind k (s.get 1).2).2 = s1 at *
      go_wp2
      have R0 := hide (R0.out.keep (dr2 _))
      have HU := hide (HU.out.andBelow (dr2 _))
      have S1 := And.intro (Bx.ct R0.out.c).2.2.1 (Bx.ct R0.out.c).2.2.2.2.1
      simp only [HLL.out] at S1
      refine wp_region_held_drew (S := fun w' => w'.cell? ⟨cb, 2, none⟩ = some (.int .i64 kind) ∧ w'.cell? ⟨cb, 4, none⟩ = some (.slice (some ⟨g, 0, none⟩) n n)) (by kernel_rfl) (by exact S1) (fun hHeld => ?_)
      refine wpAnyH_take (i := 0) (v := ?v1) rfl (by kernel_rfl) (by kernel_rfl) (by kernel_rfl) (fun _ _ _ h => h) (Or.inl ⟨by rfl, ?hy1⟩) (by assumption) ?rest1
      case hy1 => (intro w hSw; (try dsimp only at hSw); go_simp <;> with_reducible rfl)
      try simp only [Act.put, List.getElem_toArray, List.getElem_cons_zero, List.setIfInBounds_toArray, List.set_cons_zero, List.set_cons_succ]
      refine wpAnyH_take (i := 1) (v := ?v2) rfl (by kernel_rfl) (by kernel_rfl) (by kernel_rfl) (fun _ _ _ h => h) (Or.inl ⟨by rfl, ?hy2⟩) (by assumption) ?rest2
      case hy2 => (intro w hSw; (try dsimp only at hSw); go_simp <;> with_reducible rfl)
      try simp only [Act.put, List.getElem_toArray, List.getElem_cons_zero, List.getElem_cons_succ, List.setIfInBounds_toArray, List.set_cons_zero, List.set_cons_succ]
      refine wpAnyH_take (i := 2) (v := ?v3) rfl (by kernel_rfl) (by kernel_rfl) (by kernel_rfl) (fun _ _ _ h => h) (Or.inl ⟨by rfl, ?hy3⟩) (by assumption) ?rest3
      case hy3 => (intro w hSw; (try dsimp only at hSw); go_simp <;> with_reducible rfl)
      try simp only [Act.put, List.getElem_toArray, List.getElem_cons_zero, List.getElem_cons_succ, List.setIfInBounds_toArray, List.set_cons_zero, List.set_cons_succ]
      refine wpAnyH_take (i := 3) (v := ?v4) rfl (by kernel_rfl) (by kernel_rfl) (by kernel_rfl) (fun _ _ _ h => h) (Or.inl ⟨by rfl, ?hy4⟩) (by assumption) ?rest4
      case hy4 => (intro w hSw; (try dsimp only at hSw); go_simp <;> with_reducible rfl)
      try simp only [Act.put, List.getElem_toArray, List.getElem_cons_zero, List.getElem_cons_succ, List.setIfInBounds_toArray, List.set_cons_zero, List.set_cons_succ]
      refine wpAnyH_take (i := 4) (v := ?v5) rfl (by kernel_rfl) (by kernel_rfl) (by kernel_rfl) (fun _ _ _ h => h) (Or.inl ⟨by rfl, ?hy5⟩) (by assumption) ?rest5
      case hy5 => (intro w hSw; (try dsimp only at hSw); go_simp <;> with_reducible rfl)
      try simp only [Act.put, List.getElem_toArray, List.getElem_cons_zero, List.getElem_cons_succ, List.setIfInBounds_toArray, List.set_cons_zero, List.set_cons_succ]
      refine wpAnyH_take (i := 5) (v := ?v6) rfl (by kernel_rfl) (by kernel_rfl) (by kernel_rfl) (fun _ _ _ h => h) (Or.inl ⟨by rfl, ?hy6⟩) (by assumption) ?rest6
      case hy6 => (intro w hSw; (try dsimp only at hSw); go_simp <;> with_reducible rfl)
      try simp only [Act.put, List.getElem_toArray, List.getElem_cons_zero, List.getElem_cons_succ, List.setIfInBounds_toArray, List.set_cons_zero, List.set_cons_succ]
      refine wpAnyH_take (i := 6) (v := ?v7) rfl (by kernel_rfl) (by kernel_rfl) (by kernel_rfl) (fun _ _ _ h => h) (Or.inl ⟨by rfl, ?hy7⟩) (by assumption) ?rest7
      case hy7 => (intro w hSw; (try dsimp only at hSw); go_simp <;> with_reducible rfl)
      try simp only [Act.put, List.getElem_toArray, List.getElem_cons_zero, List.getElem_cons_succ, List.setIfInBounds_toArray, List.set_cons_zero, List.set_cons_succ]
      refine wpAnyH_take (i := 7) (v := ?v8) rfl (by kernel_rfl) (by kernel_rfl) (by kernel_rfl) (fun _ _ _ h => h) (Or.inl ⟨by rfl, ?hy8⟩) (by assumption) ?rest8
      case hy8 => (intro w hSw; (try dsimp only at hSw); go_simp <;> with_reducible rfl)
      try simp only [Act.put, List.getElem_toArray, List.getElem_cons_zero, List.getElem_cons_succ, List.setIfInBounds_toArray, List.set_cons_zero, List.set_cons_succ]
      refine wpAnyH_take (i := 8) (v := ?v9) rfl (by kernel_rfl) (by kernel_rfl) (by kernel_rfl) (fun _ _ _ h => h) (Or.inl ⟨by rfl, ?hy9⟩) (by assumption) ?rest9
      case hy9 => (intro w hSw; (try dsimp only at hSw); go_simp <;> with_reducible rfl)
      try simp only [Act.put, List.getElem_toArray, List.getElem_cons_zero, List.getElem_cons_succ, List.setIfInBounds_toArray, List.set_cons_zero, List.set_cons_succ]
      refine wpAnyH_take (i := 9) (v := ?v10) rfl (by kernel_rfl) (by kernel_rfl) (by kernel_rfl) (fun _ _ _ h => h) (Or.inl ⟨by rfl, ?hy10⟩) (by assumption) ?rest10
      case hy10 => (intro w hSw; (try dsimp only at hSw); go_simp <;> with_reducible rfl)
      try simp only [Act.put, List.getElem_toArray, List.getElem_cons_zero, List.getElem_cons_succ, List.setIfInBounds_toArray, List.set_cons_zero, List.set_cons_succ]
      refine wpAnyH_take (i := 10) (v := ?v11) rfl (by kernel_rfl) (by kernel_rfl) (by kernel_rfl) (fun _ _ _ h => h) (Or.inl ⟨by rfl, ?hy11⟩) (by assumption) ?rest11
      case hy11 => (intro w hSw; (try dsimp only at hSw); go_simp <;> with_reducible rfl)
      try simp only [Act.put, List.getElem_toArray, List.getElem_cons_zero, List.getElem_cons_succ, List.setIfInBounds_toArray, List.set_cons_zero, List.set_cons_succ]
      refine wpAnyH_take (i := 11) (v := ?v12) rfl (by kernel_rfl) (by kernel_rfl) (by kernel_rfl) (fun _ _ _ h => h) (Or.inl ⟨by rfl, ?hy12⟩) (by assumption) ?rest12
      case hy12 => (intro w hSw; (try dsimp only at hSw); go_simp <;> with_reducible rfl)
      try simp only [Act.put, List.getElem_toArray, List.getElem_cons_zero, List.getElem_cons_succ, List.setIfInBounds_toArray, List.set_cons_zero, List.set_cons_succ]
      refine wpAnyH_ready (rs := [12]) (by kernel_rfl) (by simp) ?_
      refine AllReadyH.cons rfl (fun K hK => ?_) AllReadyH.nil
      go_simp
      refine (RI.out _ _ R0.out.k (by have := SV.out; have := HU.out.size; omega)).mono ?_
      rintro y w5 ⟨x, rfl, hx, hk5, hb5, hJ⟩
      have R5 := hide (R0.out.call hc hk5 hb5)
      have HX := hide hx
      have HJ := hide hJ
      have HU := hide (HU.out.c3 (But.c1 hb5))
      have HLT := hide R0.out.p.it
      have RO := hide R0.out
      have S1 := And.intro (Bx.ct R5.out.c).2.2.1 (Bx.ct R5.out.c).2.2.2.2.1
      simp only [HLL.out] at S1
      have HTH := hide (R5.out.p.it.four (k := k) (by show k < L.length; have := HLL.out; omega))
      clear hx hk5 hb5 hJ
      go_wp2_with fail
      refine hK.out _ _ (by exact S1) (fun hHeld => ?_)
      clear hK K
      try simp only [Act.put, List.getElem_toArray, List.getElem_cons_zero, List.getElem_cons_succ, List.setIfInBounds_toArray, List.set_cons_zero, List.set_cons_succ]
      refine wpAnyH_take (i := 13) (v := ?v13) rfl (by kernel_rfl) (by kernel_rfl) (by kernel_rfl) (fun _ _ _ h => h) (Or.inl ⟨by rfl, ?hy13⟩) (by assumption) ?rest13
      case hy13 => (intro w hSw; (try dsimp only at hSw); go_simp <;> with_reducible rfl)
      try simp only [Act.put, List.getElem_toArray, List.getElem_cons_zero, List.getElem_cons_succ, List.setIfInBounds_toArray, List.set_cons_zero, List.set_cons_succ]
      refine wpAnyH_ready (rs := [14]) (by kernel_rfl) (by simp) ?_
      refine AllReadyH.cons rfl (fun K hK => ?_) AllReadyH.nil
      have S2 := And.intro ((but_setCells g x.cs.toList w5 (k * 4)).cell (p := ⟨cb, 2, none⟩) (block_lt_of_cell S1.1) HGC.out |>.trans S1.1) ((but_setCells g x.cs.toList w5 (k * 4)).cell (p := ⟨cb, 4, none⟩) (block_lt_of_cell S1.2) HGC.out |>.trans S1.2)
      refine step_store_mid rfl 55 _ _ rfl g (k * 4) x.cs rfl rfl HTH.out sizeItem (cs_one x) ?_
      refine hK.out _ _ (by exact S2) (fun hHeld => ?_)
      clear hK K
      try simp only [Act.put, List.getElem_toArray, List.getElem_cons_zero, List.getElem_cons_succ]
      refine wpAnyH_done (by kernel_rfl) ?_ _
      clear S1 S2
      have hgk : v.heap.size ≤ g := HGE.out
      have hb9 := but_setCells g x.cs.toList w5 (k * 4)
      have R9 : Hid (Rp v (w5.setCells g (k * 4) x.cs.toList) b cb (rdItem kind s1).2 no gen ⟨kind, level, some ⟨g, 0, none⟩, n, L.set k x, aD, cD, data, next⟩) := ⟨R5.out.k.but hb9 (fun k hk => by omega), by
        have h := R5.out.c.but hb9 HGC.out
        simp only [ctc, List.length_set] at h ⊢
        exact h, Pn.item RO.out.p R5.out.p RO.out.k.u.size HJ.out (by have := HLL.out; omega)⟩
      have HU9 := hide (HU.out.trans hb9 fun y hy e => by have := HGW.out; omega)
      clear hb9
      go_wp2
      go_roundw
      case rel => exact ⟨k + 1, L.set k x, by omega, by first | (go_num; done) | exact congrArg (Value.int IntKind.i64) (by omega), by rw [List.length_set]; exact HLL.out, by rw [List.map_set, HM.out, set_zeroT HDL.out hltk, HRS.out, HX.out], by rw [HRS.out]; exact R9.out, HU9.out⟩
      case measure => first | exact meas_up _ _ _ hj1 hltk | exact meas_up _ _ _ rfl hltk | (simp [intOf]; omega)
    · obtain rfl : k = n := by omega
      go_wp2
      go_end0
      have e := HM.out
      rw [Nat.sub_self, List.replicate_zero, List.append_nil] at e
      obtain rfl := HN.out
      exact ⟨rfl, ⟨_, by show Pg.mk _ _ _ _ _ = _; rw [e]; rfl, R0.out⟩, HU.out⟩
end Go.Proofs.YtlneomgjjkfnoabGreat
