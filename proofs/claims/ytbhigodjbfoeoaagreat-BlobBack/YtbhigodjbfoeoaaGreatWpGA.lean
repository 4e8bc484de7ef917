import Derived.Test.YtbhigodjbfoeoaaGreatWpPIB
import Derived.Test.YtbhigodjbfoeoaaGreatWpPIA
import Derived.Test.YtbhigodjbfoeoaaGreatWpPI
import Derived.Test.YtbhigodjbfoeoaaGreatWpVB
import Derived.BigRegion
import Derived.BigQuiet
import Derived.Deep.QuietTactic
import Derived.Laws.BitsAllLaws
import Derived.Laws.Cover3
import Derived.Defers
import Derived.Recover
import Derived.Deep.RegionWith
import Derived.Lib.AppendZerosOnto
import Derived.Deep.RegionLaw
import Derived.Deep.RegionHeld3
import Derived.Lib.SlBytesConst
import Derived.ProofKit
import Derived.OpenShut
import Derived.ShutString
import Derived.ChangeOld
import Derived.Deep.Slices
import Derived.SizedLaws
import Derived.JoinedCond
import Derived.Deep.CutRange
namespace Go.Proofs.YtbhigodjbfoeoaaGreat
set_option linter.unusedVariables false
section
open Go.RowKit
variable {T : TypeId} {w w' : World} {b : Nat} {a : Option Addr} {cap : Nat}
theorem But.cell1 (w : World) (b i : Nat) (u : Value) : But (fun k => k = b) w (w.setCell ⟨b, i, none⟩ u) := (But.refl (fun k => k = b) w).setCell (p := ⟨b, i, none⟩) (fun _ => rfl) u
end
section
open Go.RowKit
variable {w w' : World} {b : Nat} {a : Option Addr} {cap : Nat} {s : RS}
theorem Bs.drop {w : World} {g off : Nat} {l : List Nat} (h : Bs w (some ⟨g, off, none⟩) l) (n : Nat) : Bs w (some ⟨g, off + n, none⟩) (l.drop n) := by
  obtain ⟨h1, h2, h3⟩ := h
  refine ⟨fun x hx => h1 x (List.mem_of_mem_drop hx), by rw [List.length_drop]; omega, ?_⟩
  rcases h3 with rfl | ⟨b, o, e, hc⟩
  · exact .inl (by simp)
  · simp only [Option.some.injEq, Addr.mk.injEq] at e
    obtain ⟨rfl, rfl, _⟩ := e
    refine .inr ⟨g, off + n, rfl, fun i hi => ?_⟩
    rw [List.length_drop] at hi
    rw [Nat.add_assoc, hc (n + i) (by omega)]
    congr 3
    simp [List.getD, List.getElem?_drop]
theorem Bs.take {w : World} {a : Option Addr} {l : List Nat} (h : Bs w a l) (n : Nat) : Bs w a (l.take n) := by
  obtain ⟨h1, h2, h3⟩ := h
  refine ⟨fun x hx => h1 x (List.mem_of_mem_take hx), by rw [List.length_take]; omega, ?_⟩
  rcases h3 with rfl | ⟨b, o, rfl, hc⟩
  · exact .inl (by simp)
  · refine .inr ⟨b, o, rfl, fun i hi => ?_⟩
    rw [List.length_take] at hi
    rw [hc i (by omega)]
    congr 3
    simp [List.getD, show i < n by omega]
end
section
open Go.RowKit
variable {v w : World} {G : Nat → Prop} {b : Nat} {l : List Nat}
theorem Bs.lt {w : World} {a : Option Addr} {l : List Nat} (h : Bs w a l) {x : Addr} (hx : a = some x) (h0 : l ≠ []) : x.block < w.heap.size := by
  obtain ⟨_, _, h⟩ := h
  rcases h with h | ⟨b, off, e, hc⟩
  · exact absurd h h0
  · rw [hx, Option.some.injEq] at e
    subst e
    exact block_lt_of_cell (a := ⟨b, off + 0, none⟩) (hc 0 (List.length_pos_iff.2 h0))
end
section
open Go.RowKit
variable {v w w' : World} {b : Nat} {s s' : RS}
end
section
open Go.RowKit
end
section
open Go.RowKit
/-- an item that was read: its rows are new memory -/
structure Jo (w w' : World) (x : Iv) : Prop where
  k : Rw w' x.aK x.cK x.key
  kn : New w none x.aK
  v : Rw w' x.aV x.cV x.val
  vn : New w none x.aV
  ap : ∀ p q, x.aK = some p → x.aV = some q → p.block ≠ q.block
  k8 : B8 x.key
  v8 : B8 x.val
  nc : N64 x.child
  ns : N64 x.size
theorem Bx.setc {w : World} {t : TypeId} {g : Nat} {cs : Array Value} (h : Bx w t g cs) (i : Nat) (u : Value) : Bx (w.setCell ⟨g, i, none⟩ u) t g (cs.setIfInBounds i u) := heap_setCell_same w g i _ _ _ h
theorem Bx.oth {w : World} {t : TypeId} {g : Nat} {cs : Array Value} (h : Bx w t g cs) {p : Addr} (hn : g ≠ p.block) (u : Value) : Bx (w.setCell p u) t g cs := (Below.heap_setCell _ _ _ _ hn).trans h
theorem Rw.oth {w : World} {a : Option Addr} {c : Nat} {l : List Nat} (h : Rw w a c l) {p : Addr} (hn : ∀ x, a = some x → x.block ≠ p.block) (u : Value) : Rw (w.setCell p u) a c l :=
  h.but (S := fun k => k = p.block) ((But.refl (fun k => k = p.block) w).setCell (p := p) (fun _ => rfl) u) hn
/-- a row of bytes does not lie where cells of another type lie -/
theorem Rw.nty {w : World} {a : Option Addr} {c : Nat} {l : List Nat} (h : Rw w a c l) {t : TypeId} {g : Nat} {cs : Array Value} (hg : Bx w t g cs) (ht : t ≠ 5) {x : Addr} (hx : a = some x) : x.block ≠ g := by
  intro e
  rcases h.cases with ⟨rfl, _⟩ | ⟨g', cur, rfl, hg', _⟩
  · cases hx
  · cases hx
    dsimp only at e
    subst e
    unfold Bx at hg
    rw [hg'] at hg
    simp only [Option.some.injEq, Obj.cells.injEq] at hg
    exact absurd hg.2.1.symm ht
theorem but_setRow (w : World) (g : Nat) (cs : Array Value) : But (fun k => k = g) w (w.setRow g cs) := by
  have h := below_setRow (Below.refl 0 w) (Nat.zero_le g) cs
  exact ⟨h.os, h.tape, h.output, h.size, fun k _ hn => setRow_other _ _ _ _ hn⟩
theorem Jo.below {w wx wy : World} {x : Iv} (h : Jo w wx x) (hb : Below wx.heap.size wx wy) : Jo w wy x := ⟨h.k.keep hb, h.kn, h.v.keep hb, h.vn, h.ap, h.k8, h.v8, h.nc, h.ns⟩
theorem Jo.set {w wx : World} {x : Iv} {g : Nat} {cs : Array Value} (h : Jo w wx x) (hg : Bx wx 34 g cs) (i : Nat) (u : Value) : Jo w (wx.setCell ⟨g, i, none⟩ u) x :=
  ⟨h.k.oth (fun _ hx => h.k.nty hg (by decide) hx) u, h.kn, h.v.oth (fun _ hx => h.v.nty hg (by decide) hx) u, h.vn, h.ap, h.k8, h.v8, h.nc, h.ns⟩
theorem Jo.row {w wx : World} {x : Iv} {g : Nat} {cs : Array Value} (h : Jo w wx x) (hg : Bx wx 34 g cs) (cs' : Array Value) : Jo w (wx.setRow g cs') x :=
  ⟨h.k.but (but_setRow _ _ _) (fun _ hx => h.k.nty hg (by decide) hx), h.kn, h.v.but (but_setRow _ _ _) (fun _ hx => h.v.nty hg (by decide) hx), h.vn, h.ap, h.k8, h.v8, h.nc, h.ns⟩
theorem Jo.zero (w wx : World) : Jo w wx Iv.zero := ⟨Rw.nil _, New.none _ _, Rw.nil _, New.none _ _, (fun _ _ h => by cases h), B8.nil, B8.nil, by simp [N64, Iv.zero], by simp [N64, Iv.zero]⟩
end
section
open Go.RowKit
theorem Jc_replicate (n : Nat) : ∀ i, i < n * 4 → (Jc (List.replicate n Iv.zero))[i]? = Iv.zero.cs.toList[i % 4]? := by
  intro i hi
  have h := Jc_get (List.replicate n Iv.zero) (i / 4) (i % 4) (by rw [List.length_replicate]; omega) (by omega)
  rw [show i / 4 * 4 + i % 4 = i by omega] at h
  rw [h]
  congr 1
  have : (List.replicate n Iv.zero).getD (i / 4) Iv.zero = Iv.zero := by
    rw [List.getD_eq_getElem?_getD, List.getElem?_replicate]
    split <;> rfl
  rw [this]
theorem made_item (n : Nat) : (madeCells Iv.zero.cs (n * 4)).toList = Jc (List.replicate n Iv.zero) := by
  apply List.ext_getElem?
  intro i
  by_cases hi : i < n * 4
  · rw [Jc_replicate n i hi, Array.getElem?_toList]
    unfold madeCells
    simp [hi, Iv.zero, Iv.cs]
    have : i % 4 = 0 ∨ i % 4 = 1 ∨ i % 4 = 2 ∨ i % 4 = 3 := by omega
    rcases this with h | h | h | h <;> rw [h] <;> rfl
  · rw [List.getElem?_eq_none (by simp [size_madeCells]; omega), List.getElem?_eq_none (by rw [Jc_length, List.length_replicate]; omega)]
theorem Jw.start {W : World} {n : Nat} (hn : n ≤ 1048579) : Jw (W.alloc (.cells (madeCells Iv.zero.cs (n * 4)) 34)) (some ⟨W.heap.size, 0, none⟩) n (List.replicate n Iv.zero) := by
  refine Jw.mk (heap_alloc_new _ _) (by simp) (by unfold maxLen; omega) (by simp [size_madeCells]) ?_
  rw [List.length_replicate, List.take_of_length_le (by simp [size_madeCells]), made_item]
theorem set_zero {D : List Iv} {n j : Nat} (hD : D.length = j) (hj : j < n) (v : Iv) : (D ++ List.replicate (n - j) Iv.zero).set j v = (D ++ [v]) ++ List.replicate (n - (j + 1)) Iv.zero := by
  subst hD
  rw [List.set_append_right _ _ (Nat.le_refl _), Nat.sub_self, show n - D.length = (n - (D.length + 1)) + 1 by omega, List.replicate_succ, List.set_cons_zero, List.append_assoc]
  rfl
theorem but_setCells (g : Nat) : ∀ (vs : List Value) (w : World) (o : Nat), But (fun k => k = g) w (w.setCells g o vs)
  | [], _, _ => But.refl _ _
  | v :: vs, w, o => ((But.refl (fun k => k = g) w).setCell (p := ⟨g, o, none⟩) (fun _ => rfl) v).trans (but_setCells g vs _ (o + 1)) fun _ _ h => h
end
section
open Go.RowKit
/-- a page that is being read: its rows are new memory, apart from one another -/
structure Pn (v wx : World) (P : Pv) : Prop where
  it : Jw wx P.aI P.cI P.items
  itn : New v none P.aI
  d : Rw wx P.aD P.cD P.data
  dn : New v none P.aD
  fr : ∀ t ∈ rowsOf P.items, Rw wx t.a t.c t.l ∧ New v none t.a ∧ B8 t.l
  dist : ((⟨P.aD, P.cD, P.data⟩ : Br) :: rowsOf P.items).Pairwise brApart
  d8 : B8 P.data
  ns : ∀ r ∈ P.items, N64 r.child ∧ N64 r.size
  nk : N64 P.kind
  nl : N64 P.level
  nn : N64 P.next
theorem Jw.nty {w : World} {a : Option Addr} {c : Nat} {L : List Iv} (h : Jw w a c L) {t : TypeId} {g : Nat} {cs : Array Value} (hg : Bx w t g cs) (ht : t ≠ 34) {x : Addr} (hx : a = some x) : x.block ≠ g := by
  intro e
  rcases h.cases with ⟨rfl, _⟩ | ⟨g', cur, rfl, hg', _⟩
  · cases hx
  · cases hx
    dsimp only at e
    subst e
    unfold Bx at hg
    rw [hg'] at hg
    simp only [Option.some.injEq, Obj.cells.injEq] at hg
    exact absurd hg.2.1.symm ht
theorem Pn.but {S : Nat → Prop} {v wx wy : World} {P : Pv} (h : Pn v wx P) (hb : But S wx wy) (hS : ∀ k, S k → ∃ t cs, Bx wx t k cs ∧ t ≠ 5 ∧ t ≠ 34) : Pn v wy P := by
  have hr : ∀ {a c l}, Rw wx a c l → Rw wy a c l := fun hr => hr.but hb fun x hx hs => by
    obtain ⟨t, cs, h1, h2, h3⟩ := hS _ hs
    exact hr.nty h1 h2 hx rfl
  exact ⟨h.it.but hb fun x hx hs => by
    obtain ⟨t, cs, h1, h2, h3⟩ := hS _ hs
    exact h.it.nty h1 h3 hx rfl, h.itn, hr h.d, h.dn, fun t ht => ⟨hr (h.fr t ht).1, (h.fr t ht).2⟩, h.dist, h.d8, h.ns, h.nk, h.nl, h.nn⟩
theorem Pn.keep {v wx wy : World} {P : Pv} (h : Pn v wx P) (hb : Below wx.heap.size wx wy) : Pn v wy P := h.but (S := fun _ => False) (But.ofBelow hb) fun _ h => h.elim
theorem dr2 (w : World) : Below w.heap.size w w.drew := (Below.refl _ _).drew
theorem rows_set {L : List Iv} {k : Nat} (hk : k < L.length) (x : Iv) : (rowsOf (L.set k x)).Perm (x.rows ++ rowsOf (L.take k ++ L.drop (k + 1))) := by
  have e : L.set k x = L.take k ++ x :: L.drop (k + 1) := by
    rw [List.set_eq_take_append_cons_drop, if_pos hk]
  rw [e, rowsOf_append, rowsOf_cons, rowsOf_append, ← List.append_assoc, ← List.append_assoc]
  exact List.Perm.append_right _ List.perm_append_comm
theorem rows_rest {L : List Iv} {k : Nat} (hk : k < L.length) : (rowsOf (L.take k ++ L.drop (k + 1))).Sublist (rowsOf L) := by
  conv => rhs; rw [← List.take_append_drop k L, List.drop_eq_getElem_cons hk, rowsOf_append, rowsOf_cons]
  rw [rowsOf_append]
  exact List.Sublist.append (List.Sublist.refl _) (List.sublist_append_right _ _)
/-- an item is stored -/
theorem Pn.item {v w wx : World} {kind level next : Int} {g n : Nat} {L : List Iv} {aD : Option Addr} {cD : Nat} {data : List Nat} {x : Iv} {k : Nat} (h0 : Pn v w ⟨kind, level, some ⟨g, 0, none⟩, n, L, aD, cD, data, next⟩) (h : Pn v wx ⟨kind, level, some ⟨g, 0, none⟩, n, L, aD, cD, data, next⟩) (hv : v.heap.size ≤ w.heap.size) (hJ : Jo w wx x) (hk : k < L.length) :
    Pn v (wx.setCells g (k * 4) x.cs.toList) ⟨kind, level, some ⟨g, 0, none⟩, n, L.set k x, aD, cD, data, next⟩ := by
  have hb := but_setCells g x.cs.toList wx (k * 4)
  have hrow : ∀ {a c l}, Rw wx a c l → Rw (wx.setCells g (k * 4) x.cs.toList) a c l := fun hr => hr.but hb fun y hy e => h.it.ne hr rfl hy e.symm
  have hmem : ∀ t, t ∈ rowsOf (L.set k x) → t ∈ x.rows ∨ t ∈ rowsOf L := fun t ht => by
    rcases List.mem_append.1 ((rows_set hk x).subset ht) with h1 | h1
    · exact .inl h1
    · exact .inr ((rows_rest hk).subset h1)
  have hxr : ∀ t ∈ x.rows, Rw wx t.a t.c t.l ∧ New w none t.a ∧ B8 t.l := fun t ht => by
    simp only [Iv.rows, List.mem_cons, List.not_mem_nil, or_false] at ht
    rcases ht with rfl | rfl
    · exact ⟨hJ.k, hJ.kn, hJ.k8⟩
    · exact ⟨hJ.v, hJ.vn, hJ.v8⟩
  refine ⟨h.it.setv k x, h.itn, hrow h.d, h.dn, fun t ht => ?_, ?_, h.d8, fun r hr => ?_, h.nk, h.nl, h.nn⟩
  · rcases hmem t ht with h1 | h1
    · obtain ⟨a1, a2, a3⟩ := hxr t h1
      exact ⟨hrow a1, a2.mono hv, a3⟩
    · obtain ⟨a1, a2, a3⟩ := h.fr t h1
      exact ⟨hrow a1, a2, a3⟩
  · have hap : ∀ t ∈ x.rows, ∀ u : Br, (∃ c l, Rw w u.a c l) → brApart u t := fun t ht u ⟨c, l, hu⟩ p q hp hq e => by
      have h1 := hu.lt hp
      rcases (hxr t ht).2.1 q hq with ⟨_, h, _⟩ | h2
      · cases h
      · omega
    obtain ⟨d1, d2⟩ := List.pairwise_cons.1 h.dist
    refine List.pairwise_cons.2 ⟨fun t ht => ?_, ?_⟩
    · rcases hmem t ht with h1 | h1
      · exact hap t h1 _ ⟨cD, data, h0.d⟩
      · exact d1 t h1
    · refine ((rows_set hk x).pairwise_iff fun h => brApart.symm h).2 (List.pairwise_append.2 ⟨?_, d2.sublist (rows_rest hk), fun t ht u hu => (hap t ht u ?_).symm⟩)
      · exact List.pairwise_cons.2 ⟨fun t ht => by rw [List.mem_singleton.1 ht]; exact hJ.ap, List.pairwise_singleton _ _⟩
      · obtain ⟨a1, _⟩ := h0.fr u ((rows_rest hk).subset hu)
        exact ⟨_, _, a1⟩
  · rcases List.mem_or_eq_of_mem_set hr with h1 | rfl
    · exact h.ns r h1
    · exact ⟨hJ.nc, hJ.ns⟩
end
section
open Go.RowKit
theorem Pn.zero (v w : World) : Pn v w Pv.zero := ⟨Jw.nil _, New.none _ _, Rw.nil _, New.none _ _, (fun _ h => by cases h), List.pairwise_singleton _ _, B8.nil, (fun _ h => by cases h), by simp [N64, Pv.zero], by simp [N64, Pv.zero], by simp [N64, Pv.zero]⟩
/-- what a page that was read is in its caller's eyes -/
theorem Pn.pre {v v' w : World} {P : Pv} (h : Pn v w P) (hv : v'.heap.size ≤ v.heap.size) : Pn v' w P := ⟨h.it, h.itn.mono hv, h.d, h.dn.mono hv, fun t ht => ⟨(h.fr t ht).1, (h.fr t ht).2.1.mono hv, (h.fr t ht).2.2⟩, h.dist, h.d8, h.ns, h.nk, h.nl, h.nn⟩
theorem Pn.row {v w : World} {P : Pv} (h : Pn v w P) {t : TypeId} {g : Nat} {cs : Array Value} (hg : Bx w t g cs) (h1 : t ≠ 5) (h2 : t ≠ 34) (cs' : Array Value) : Pn v (w.setRow g cs') P :=
  h.but (but_setRow _ _ _) fun k hk => by subst hk; exact ⟨t, cs, hg, h1, h2⟩
theorem Pn.pi {v w : World} {P : Pv} (h : Pn v w P) (hl : P.items.length ≤ 2199023255489) : Pi w P := by
  have hc : P.items.length ≤ P.cI := by
    rcases h.it.cases with ⟨_, h1, h2⟩ | ⟨g, cur, _, _, h1, _⟩
    · rw [h1, h2]; simp
    · exact h1
  have hi : ∀ r ∈ P.items, Ii w r := fun r hr => by
    have hs := (rows_sub hr).subset
    obtain ⟨k1, k2, k3⟩ := h.fr ⟨r.aK, r.cK, r.key⟩ (hs (by simp [Iv.rows]))
    obtain ⟨v1, v2, v3⟩ := h.fr ⟨r.aV, r.cV, r.val⟩ (hs (by simp [Iv.rows]))
    exact ⟨k1.bs k3 k1.len_le, k1.cap, v1.bs v3 v1.len_le, v1.cap, (h.ns r hr).1, (h.ns r hr).2⟩
  exact ⟨h.it.qs hi hl, hc, h.d.bs h.d8 h.d.len_le, h.d.cap, h.nk, h.nl, h.nn⟩
end
section
open Go.RowKit
end
section
open Go.RowKit
theorem Jw.butg {w1 w2 : World} {a : Option Addr} {c : Nat} {L : List Iv} (_ : Jw w1 a c L) (hg : w1.grownBy w2 (a.map Addr.block)) : But (fun k => ∃ x, a = some x ∧ x.block = k) w1 w2 :=
  (But.refl _ _).grown hg fun k hk _ => by
    obtain ⟨x, hx, e⟩ := map_some hk
    exact ⟨x, hx, e⟩
theorem Pn.push {w W0 W1 W2 : World} {P : Pv} {x : Iv} {g2 c2 : Nat} (h : Pn w W0 P) (hd : P.aD = none) (hx : Io W0 W1 x) (hn : N64 x.child ∧ N64 x.size) (hw : w.heap.size ≤ W0.heap.size)
    (hJ : Jw W2 (some ⟨g2, 0, none⟩) c2 (P.items ++ [x])) (hN : New W1 P.aI (some ⟨g2, 0, none⟩)) (hg : W1.grownBy W2 (P.aI.map Addr.block)) :
    Pn w W2 ⟨P.kind, P.level, some ⟨g2, 0, none⟩, c2, P.items ++ [x], P.aD, P.cD, P.data, P.next⟩ := by
  have h1 := h.keep hx.k.b
  have hB := h1.it.butg hg
  have hr : ∀ {a c l}, Rw W1 a c l → Rw W2 a c l := fun hr => hr.but hB fun y hy ⟨z, hz, e⟩ => h1.it.ne hr hz hy e
  have fx := hx.fam
  refine ⟨hJ, h1.itn.trans hN (Nat.le_trans hw hx.k.b.size), hr h1.d, h.dn, fun t ht => ?_, ?_, h.d8, fun r hr => ?_, h.nk, h.nl, h.nn⟩
  · rw [rowsOf_append, rowsOf_one] at ht
    rcases List.mem_append.1 ht with ht | ht
    · exact ⟨hr (h1.fr t ht).1, (h1.fr t ht).2⟩
    · obtain ⟨o, o8⟩ := fx.own t ht
      exact ⟨hr o.r, o.n.mono hw, o8⟩
  · rw [rowsOf_append, rowsOf_one]
    have hp := List.pairwise_cons.1 h.dist
    refine List.pairwise_cons.2 ⟨fun t _ y z hy _ => ?_, List.pairwise_append.2 ⟨hp.2, fx.dist, fun s hs t ht y z hy hz e => ?_⟩⟩
    · simp only at hy
      rw [hd] at hy
      cases hy
    · have k1 := (h.fr s hs).1.lt hy
      have k2 := (fx.own t ht).1.fresh hz
      omega
  · rcases List.mem_append.1 hr with hr | hr
    · exact h.ns r hr
    · rw [List.mem_singleton.1 hr]; exact hn
end
section
open Go.RowKit
theorem Bs.cell {w : World} {bk off : Nat} {l : List Nat} (h : Bs w (some ⟨bk, off, none⟩) l) {j : Nat} (hj : j < l.length) : w.cell? ⟨bk, off + j, none⟩ = some (.int .u8 ((l.getD j 0 : Nat) : Int)) := by
  obtain ⟨b, o, e, hc⟩ := h.at hj
  cases e
  exact hc
end
section
open Go.RowKit
/-- the lists of bytes of an answer -/
def rp (p : Pv) : List Br := ⟨p.aD, p.cD, p.data⟩ :: rowsOf p.items
theorem new_at {w : World} {a : Option Addr} (h : New w none a) {x : Addr} (hx : a = some x) : w.heap.size ≤ x.block := by
  rcases h x hx with ⟨y, hy, _⟩ | h
  · cases hy
  · exact h
theorem Pn.fam {w W : World} {P : Pv} (h : Pn w W P) (hb : Below w.heap.size w W) : Fam w W (rp P) :=
  ⟨fun t ht => by
    rcases List.mem_cons.1 ht with rfl | ht
    · exact ⟨⟨h.d, h.dn, hb⟩, h.d8⟩
    · obtain ⟨h1, h2, h3⟩ := h.fr t ht
      exact ⟨⟨h1, h2, hb⟩, h3⟩, h.dist⟩
end
section
open Go.RowKit
theorem two_blocks (w : World) (o p : Obj) {w1 : World} (hb : Below ((w.alloc o).alloc p).heap.size ((w.alloc o).alloc p) w1) : w1.heap[w.heap.size]? = some o ∧ w1.heap[w.heap.size + 1]? = some p ∧ Below w.heap.size w w1 ∧ w.heap.size + 2 ≤ w1.heap.size := by
  have hs : ((w.alloc o).alloc p).heap.size = w.heap.size + 2 := by rw [size_alloc, size_alloc]
  refine ⟨(hb.block _ (by rw [hs]; omega)).trans ?_, (hb.block _ (by rw [hs]; omega)).trans ?_, bt (bt (al _ _) (al _ _)) hb, by have := hb.size; omega⟩
  · rw [heap_alloc_old _ _ (by rw [size_alloc]; omega)]; exact heap_alloc_new _ _
  · have := heap_alloc_new (w.alloc o) p; rw [size_alloc] at this; exact this
theorem but_set4 (g : Nat) (w : World) (a b c d : Value) : But (fun k => k = g) w ((((w.setCell ⟨g, 0, none⟩ a).setCell ⟨g, 1, none⟩ b).setCell ⟨g, 2, none⟩ c).setCell ⟨g, 3, none⟩ d) :=
  ((((But.refl (fun k => k = g) w).setCell (p := ⟨g, 0, none⟩) (fun _ => rfl) a).setCell (p := ⟨g, 1, none⟩) (fun _ => rfl) b).setCell (p := ⟨g, 2, none⟩) (fun _ => rfl) c).setCell (p := ⟨g, 3, none⟩) (fun _ => rfl) d
theorem but_set5 (g : Nat) (w : World) (a b c d e : Value) : But (fun k => k = g) w (((((w.setCell ⟨g, 0, none⟩ a).setCell ⟨g, 1, none⟩ b).setCell ⟨g, 2, none⟩ c).setCell ⟨g, 3, none⟩ d).setCell ⟨g, 4, none⟩ e) :=
  (but_set4 g w a b c d).setCell (p := ⟨g, 4, none⟩) (fun _ => rfl) e
theorem bx_set5 {w : World} {g : Nat} {t : TypeId} {o0 o1 o2 o3 o4 : Value} (h : Bx w t g #[o0, o1, o2, o3, o4]) (a b c d f : Value) : Bx (((((w.setCell ⟨g, 0, none⟩ a).setCell ⟨g, 1, none⟩ b).setCell ⟨g, 2, none⟩ c).setCell ⟨g, 3, none⟩ d).setCell ⟨g, 4, none⟩ f) t g #[a, b, c, d, f] := by
  have h4 := ((((h.setc 0 a).setc 1 b).setc 2 c).setc 3 d).setc 4 f
  have e : ((((#[o0, o1, o2, o3, o4].setIfInBounds 0 a).setIfInBounds 1 b).setIfInBounds 2 c).setIfInBounds 3 d).setIfInBounds 4 f = #[a, b, c, d, f] := by simp
  rw [e] at h4
  exact h4
end
section
open Go.RowKit
theorem Fam.grown {w W1 W2 : World} {T : List Br} {a : Option Addr} {c : Nat} {L : List Iv} (f : Fam w W1 T) (hJ : Jw W1 a c L) (hg : W1.grownBy W2 (a.map Addr.block)) (hw : Below w.heap.size w W2) : Fam w W2 T :=
  f.but (hJ.butg hg) hw fun t ht _ hx ⟨_, hy, e⟩ => hJ.ne (f.own t ht).1.r hy hx e
/-- items that are being copied -/
structure Ck (w W : World) (a : Option Addr) (c : Nat) (M : List Iv) (L : List Iv) : Prop where
  j : JOwn w W a c M
  f : Fam w W (rowsOf M)
  e : M.map Iv.it = L.map Iv.it
  n : ∀ r ∈ M, N64 r.child ∧ N64 r.size
theorem Ck.len {w W : World} {a : Option Addr} {c : Nat} {M L : List Iv} (h : Ck w W a c M L) : M.length = L.length := by have := congrArg List.length h.e; simpa using this
theorem Ck.keep {w W W' : World} {a : Option Addr} {c : Nat} {M L : List Iv} (h : Ck w W a c M L) (hb : Below W.heap.size W W') : Ck w W' a c M L := ⟨h.j.keep hb, h.f.keep hb, h.e, h.n⟩
theorem Ck.nil (w : World) {W : World} (hb : Below w.heap.size w W) : Ck w W none 0 [] [] := ⟨JOwn.nil w hb, Fam.nil _ _, rfl, (fun _ h => by cases h)⟩
theorem Ck.push {w W W0 W1 W2 : World} {a : Option Addr} {c g c2 : Nat} {M L : List Iv} {q x : Iv} (h : Ck w W a c M L) (hq : Io W W0 q) (he : q.it = x.it) (hn : N64 q.child ∧ N64 q.size) (hb : Below W0.heap.size W0 W1) (hJ : Jw W2 (some ⟨g, 0, none⟩) c2 (M ++ [q])) (hN : New W1 a (some ⟨g, 0, none⟩)) (hg : W1.grownBy W2 (a.map Addr.block)) :
    Ck w W2 (some ⟨g, 0, none⟩) c2 (M ++ [q]) (L ++ [x]) := by
  have b1 : Below W.heap.size W W1 := bt hq.k.b hb
  have j2 := h.j.step b1 hJ hN hg
  have f1 : Fam w W1 (rowsOf M ++ q.rows) := h.f.add (hq.fam.keep hb) b1 h.j.b
  refine ⟨j2, ?_, by rw [List.map_append, List.map_append, h.e]; simp [he], fun r hr => ?_⟩
  · rw [rowsOf_append, rowsOf_one]
    exact f1.grown (h.j.r.keep b1) hg j2.b
  · rcases List.mem_append.1 hr with hr | hr
    · exact h.n r hr
    · rw [List.mem_singleton.1 hr]; exact hn
theorem it_n {q x : Iv} (h : q.it = x.it) (hx : N64 x.child ∧ N64 x.size) : N64 q.child ∧ N64 q.size := by
  have h1 : q.child = x.child := congrArg It.child h
  have h2 : q.size = x.size := congrArg It.size h
  rw [h1, h2]; exact hx
end
section
open Go.RowKit
variable {v0 W W2 : World} {p : Pv} {g3 gD g j : Nat} {D : List Iv}
/-- a list that Spare made -/
structure Sl (W : World) (a : Option Addr) (c : Nat) (l : List Nat) : Prop where
  at' : ∃ g, a = some ⟨g, 0, none⟩ ∧ W.rowIs g 5 (l.length + 64) (spF l)
  c : c = l.length + 64
  n : l.length ≤ 140737488355264
  l8 : B8 l
theorem Sl.but {S : Nat → Prop} {W W' : World} {a : Option Addr} {c : Nat} {l : List Nat} (h : Sl W a c l) (hb : But S W W') (hn : ∀ x, a = some x → ¬ S x.block) : Sl W' a c l := by
  obtain ⟨⟨g, e, hr⟩, h2, h3, h4⟩ := h
  exact ⟨⟨g, e, rowIs_but hr hb (hn _ e)⟩, h2, h3, h4⟩
theorem Sl.keep {W W' : World} {a : Option Addr} {c : Nat} {l : List Nat} (h : Sl W a c l) (hb : Below W.heap.size W W') : Sl W' a c l := h.but (S := fun _ => False) (But.ofBelow hb) fun _ _ h => h
theorem Sl.rw' {W : World} {a : Option Addr} {c : Nat} {l : List Nat} (h : Sl W a c l) : Rw W a c l := by
  obtain ⟨⟨g, rfl, cs, hg, hs, hc⟩, rfl, h3, h4⟩ := h
  refine Rw.mk hg (by omega) (by unfold maxLen; omega) hs ?_
  apply List.ext_getElem?
  intro i
  rw [List.getElem?_take]
  by_cases hi : i < l.length
  · rw [if_pos hi, vb_get l i hi]
    have := hc i (by omega)
    rw [Array.getElem?_toList, this]
    unfold spF
    rw [if_pos hi]
  · rw [if_neg hi]
    symm
    rw [List.getElem?_eq_none_iff, vb_length]
    omega
theorem Sl.bs {W : World} {a : Option Addr} {c : Nat} {l : List Nat} (h : Sl W a c l) : Bs W a l := h.rw'.bs h.l8 h.rw'.len_le
/-- lists that Spare made, all apart -/
structure Sf (w W : World) (T : List Br) : Prop where
  s : ∀ t ∈ T, Sl W t.a t.c t.l
  f : Fam w W T
theorem Sf.keep {w W W' : World} {T : List Br} (h : Sf w W T) (hb : Below W.heap.size W W') : Sf w W' T := ⟨fun t ht => (h.s t ht).keep hb, h.f.keep hb⟩
theorem Sf.but {S : Nat → Prop} {w W W' : World} {T : List Br} (h : Sf w W T) (hb : But S W W') (hw : Below w.heap.size w W') (hn : ∀ t ∈ T, ∀ x, t.a = some x → ¬ S x.block) : Sf w W' T := ⟨fun t ht => (h.s t ht).but hb (hn t ht), h.f.but hb hw hn⟩
theorem Sf.one {w W : World} {g c : Nat} {l : List Nat} (h : Sl W (some ⟨g, 0, none⟩) c l) (hg : w.heap.size ≤ g) (hb : Below w.heap.size w W) : Sf w W [⟨some ⟨g, 0, none⟩, c, l⟩] :=
  ⟨fun t ht => by rw [List.mem_singleton.1 ht]; exact h, ⟨fun t ht => by rw [List.mem_singleton.1 ht]; exact ⟨⟨h.rw', fun x hx => .inr (by cases hx; exact hg), hb⟩, h.l8⟩, List.pairwise_singleton _ _⟩⟩
theorem Sf.add {w W W' : World} {T U : List Br} (h : Sf w W T) (k : Sf W W' U) (hb : Below W.heap.size W W') (hw : Below w.heap.size w W) : Sf w W' (T ++ U) :=
  ⟨fun t ht => by
    rcases List.mem_append.1 ht with ht | ht
    · exact (h.s t ht).keep hb
    · exact k.s t ht, h.f.add k.f hb hw⟩
theorem Sf.pre {w w0 W : World} {T : List Br} (hb : Below w.heap.size w w0) (h : Sf w0 W T) : Sf w W T := ⟨h.s, Fam.pre hb h.f⟩
def mark (i : Nat) : Iv := ⟨none, 0, [], none, 0, [], -5 - (i : Int), -9⟩
/-- a page that is being spared: v0 has the page's box; g3 is what is made, g its items -/
structure Sw (v0 W : World) (p : Pv) (g3 gD g : Nat) (j : Nat) (D : List Iv) : Prop where
  b : Below v0.heap.size v0 W
  rs : Bx W 93 v0.heap.size Pv.zero.cs
  o3 : Bx W 93 g3 (Pv.mk p.kind p.level none 0 [] (some ⟨gD, 0, none⟩) (p.data.length + 64) p.data p.next).cs
  n3 : v0.heap.size < g3
  jw : Jw W (some ⟨g, 0, none⟩) (p.items.length + 2) (D ++ List.replicate (p.items.length + 2 - j) Iv.zero)
  gn : v0.heap.size < g
  len : D.length = j
  it : ∀ i, i < j → i < p.items.length → (D.getD i Iv.zero).it = (p.items.getD i Iv.zero).it
  mr : ∀ i, i < j → p.items.length ≤ i → D.getD i Iv.zero = mark i
  f : Sf v0 W (⟨some ⟨gD, 0, none⟩, p.data.length + 64, p.data⟩ :: rowsOf (D.take p.items.length))
theorem getD_snoc {D : List Iv} {j i : Nat} {v : Iv} (hl : D.length = j) (hi : i < j + 1) : (D ++ [v]).getD i Iv.zero = if i < j then D.getD i Iv.zero else v := by
  subst hl
  by_cases h : i < D.length
  · rw [if_pos h]; simp [List.getElem?_append_left h]
  · obtain rfl : i = D.length := by omega
    rw [if_neg (by omega)]; simp
theorem Sw.keep (h : Sw v0 W p g3 gD g j D) (hb : Below W.heap.size W W2) : Sw v0 W2 p g3 gD g j D := ⟨bt h.b hb, h.rs.keep hb, h.o3.keep hb, h.n3, h.jw.keep hb, h.gn, h.len, h.it, h.mr, h.f.keep hb⟩
/-- an item is laid -/
theorem Sw.lay (h : Sw v0 W p g3 gD g j D) (hj : j < p.items.length + 2) (x : Iv) (hit : j < p.items.length → x.it = (p.items.getD j Iv.zero).it) (hmk : p.items.length ≤ j → x = mark j) (hb : Below W.heap.size W W2)
    (hf : Sf v0 W2 (⟨some ⟨gD, 0, none⟩, p.data.length + 64, p.data⟩ :: rowsOf ((D ++ [x]).take p.items.length))) : Sw v0 (W2.setCells g (j * 4) x.cs.toList) p g3 gD g (j + 1) (D ++ [x]) := by
  have k := h.keep hb
  have hB := but_setCells g x.cs.toList W2 (j * 4)
  have hw : Below v0.heap.size v0 (W2.setCells g (j * 4) x.cs.toList) := ((But.ofBelow (S := fun _ => False) k.b).trans hB fun y hy e => by have := h.gn; omega).below fun _ _ h => h
  have j2 := k.jw.setv j x
  rw [set_zero h.len (by omega)] at j2
  refine ⟨hw, k.rs.but hB (by have := h.gn; omega), k.o3.but hB fun e => k.jw.nty k.o3 (by decide) rfl e.symm, h.n3, j2, h.gn, by rw [List.length_append, h.len]; rfl, fun i hi hin => ?_, fun i hi hin => ?_, hf.but hB hw fun t ht y hy e => k.jw.ne (hf.f.own t ht).1.r rfl hy e.symm⟩
  · rw [getD_snoc h.len hi]
    split
    · exact h.it i (by omega) hin
    · obtain rfl : i = j := by omega
      exact hit hin
  · rw [getD_snoc h.len hi]
    split
    · exact h.mr i (by omega) hin
    · obtain rfl : i = j := by omega
      exact hmk hin
theorem Sw.spare {gK gV : Nat} {cK cV : Nat} {W1 : World} {key val : List Nat} {child size : Int} (h : Sw v0 W p g3 gD g j D) (hj : j < p.items.length) (hx : (p.items.getD j Iv.zero).it = ⟨key, val, child, size⟩) (s1 : Sl W1 (some ⟨gK, 0, none⟩) cK key) (n1 : W.heap.size ≤ gK) (b1 : Below W.heap.size W W1) (s2 : Sl W2 (some ⟨gV, 0, none⟩) cV val) (n2 : W1.heap.size ≤ gV) (b2 : Below W1.heap.size W1 W2) :
    Sw v0 (W2.setCells g (j * 4) (Iv.cs ⟨some ⟨gK, 0, none⟩, cK, key, some ⟨gV, 0, none⟩, cV, val, child, size⟩).toList) p g3 gD g (j + 1) (D ++ [⟨some ⟨gK, 0, none⟩, cK, key, some ⟨gV, 0, none⟩, cV, val, child, size⟩]) := by
  refine h.lay (by omega) _ (fun _ => hx.symm) (fun h1 => by omega) (bt b1 b2) ?_
  have e0 : D.take p.items.length = D := List.take_of_length_le (by have := h.len; omega)
  have e1 : ∀ x : Iv, (D ++ [x]).take p.items.length = D ++ [x] := fun x => List.take_of_length_le (by rw [List.length_append, h.len]; simp; omega)
  have f0 := h.f
  rw [e0] at f0
  rw [e1, rowsOf_append, rowsOf_one]
  have f1 := (f0.add (Sf.one s1 n1 b1) b1 h.b).add (Sf.one s2 n2 b2) b2 (bt h.b b1)
  rw [List.append_assoc, List.cons_append] at f1
  exact f1
theorem Sw.tail (h : Sw v0 W p g3 gD g j D) (hj : p.items.length ≤ j) (hn : j < p.items.length + 2) : Sw v0 (W.setCells g (j * 4) (Iv.cs (mark j)).toList) p g3 gD g (j + 1) (D ++ [mark j]) := by
  refine h.lay hn _ (fun h1 => by omega) (fun _ => rfl) (Below.refl _ _) ?_
  rw [List.take_append_of_le_length (by have := h.len; omega)]
  exact h.f
/-- a page that SparePage made of p -/
structure Sp (w W : World) (p q : Pv) : Prop where
  e : q.pg = p.pg
  s : Sf w W (rp q)
  it : ∃ (g : Nat) (D : List Iv), q.aI = some ⟨g, 0, none⟩ ∧ q.cI = p.items.length + 2 ∧ Jw W (some ⟨g, 0, none⟩) (p.items.length + 2) (q.items ++ D) ∧ D = [mark p.items.length, mark (p.items.length + 1)] ∧ w.heap.size ≤ g
  b : Below w.heap.size w W
theorem Sp.len {w W : World} {p q : Pv} (h : Sp w W p q) : q.items.length = p.items.length := by have := congrArg (fun x => x.items.length) h.e; simpa [Pv.pg] using this
theorem Sp.keep {w W W' : World} {p q : Pv} (h : Sp w W p q) (hb : Below W.heap.size W W') : Sp w W' p q := by
  obtain ⟨g, D, e1, e2, e3, e4, e5⟩ := h.it
  exact ⟨h.e, h.s.keep hb, ⟨g, D, e1, e2, e3.keep hb, e4, e5⟩, bt h.b hb⟩
theorem pg_n {p q : Pv} (h : q.pg = p.pg) {W : World} (hp : Pi W p) : N64 q.kind ∧ N64 q.level ∧ N64 q.next ∧ ∀ r ∈ q.items, N64 r.child ∧ N64 r.size := by
  have h1 : q.kind = p.kind := congrArg Pg.kind h
  have h2 : q.level = p.level := congrArg Pg.level h
  have h3 : q.next = p.next := congrArg Pg.next h
  have h4 : q.items.map Iv.it = p.items.map Iv.it := congrArg Pg.items h
  refine ⟨h1 ▸ hp.nk, h2 ▸ hp.nl, h3 ▸ hp.nn, fun r hr => ?_⟩
  have hm : r.it ∈ p.items.map Iv.it := h4 ▸ List.mem_map.2 ⟨r, hr, rfl⟩
  obtain ⟨x, hx, e⟩ := List.mem_map.1 hm
  exact it_n e.symm ⟨(hp.it.1 x hx).nc, (hp.it.1 x hx).ns⟩
theorem Sp.jw {w W : World} {p q : Pv} (h : Sp w W p q) : Jw W q.aI q.cI q.items := by
  obtain ⟨g, D, e1, e2, e3, e4, e5⟩ := h.it
  rw [e1, e2]
  rcases e3.front with k | k
  · exact k
  · cases k
theorem Sp.pi {w W W' : World} {p q : Pv} (h : Sp w W p q) (hp : Pi W' p) (hl : p.items.length ≤ 1048576) : Pi W q := by
  obtain ⟨n1, n2, n3, n4⟩ := pg_n h.e hp
  have hlen := h.len
  have f2 : Fam w W (rowsOf q.items) := h.s.f.sub (List.sublist_cons_self _ _)
  have d := h.s.f.own ⟨q.aD, q.cD, q.data⟩ (by simp [rp])
  obtain ⟨g, D, e1, e2, e3, e4, e5⟩ := h.it
  exact ⟨h.jw.qs (f2.ii n4) (by omega), by rw [e2]; omega, d.1.bs d.2, d.1.r.cap, n1, n2, n3⟩
theorem Sw.done {v0 w W W2 : World} {p : Pv} {g3 gD g : Nat} {D : List Iv} (h : Sw v0 W p g3 gD g (p.items.length + 2) D) (hb : Below w.heap.size w v0) (hB : But (fun k => k = v0.heap.size ∨ k = g3) W W2) (hg : v0.heap.size ≤ g3) : Sp w W2 p ⟨p.kind, p.level, some ⟨g, 0, none⟩, p.items.length + 2, D.take p.items.length, some ⟨gD, 0, none⟩, p.data.length + 64, p.data, p.next⟩ := by
  have hw : Below w.heap.size w W2 := ((But.ofBelow (S := fun _ => False) (bt hb h.b)).trans hB fun y hy e => by have := hb.size; omega).below fun _ _ h => h
  have hl := h.len
  have ne : ∀ t ∈ (⟨some ⟨gD, 0, none⟩, p.data.length + 64, p.data⟩ :: rowsOf (D.take p.items.length) : List Br), ∀ x, t.a = some x → ¬ (x.block = v0.heap.size ∨ x.block = g3) := fun t ht x hx e => by
    have o := (h.f.f.own t ht).1
    rcases e with e | e
    · exact o.r.nty h.rs (by decide) hx e
    · exact o.r.nty h.o3 (by decide) hx e
  have hjl := h.jw
  rw [Nat.sub_self, List.replicate_zero, List.append_nil] at hjl
  have hd : D = D.take p.items.length ++ [mark p.items.length, mark (p.items.length + 1)] := by
    have m0 := h.mr p.items.length (by omega) (Nat.le_refl _)
    have m1 := h.mr (p.items.length + 1) (by omega) (by omega)
    conv => lhs; rw [← List.take_append_drop p.items.length D]
    congr 1
    rw [List.drop_eq_getElem_cons (by omega), List.drop_eq_getElem_cons (by omega), List.drop_eq_nil_of_le (by omega)]
    rw [List.getD_eq_getElem?_getD, List.getElem?_eq_getElem (by omega)] at m0 m1
    simp only [Option.getD_some] at m0 m1
    rw [m0, m1]
  refine ⟨?_, (⟨(h.f.but hB (((But.ofBelow (S := fun _ => False) h.b).trans hB fun y hy e => by omega).below fun _ _ h => h) ne).s, Fam.pre hb ((h.f.but hB (((But.ofBelow (S := fun _ => False) h.b).trans hB fun y hy e => by omega).below fun _ _ h => h) ne).f)⟩ : Sf w W2 _), ⟨g, _, rfl, rfl, ?_, rfl, by have := h.gn; have := hb.size; omega⟩, hw⟩
  · unfold Pv.pg
    dsimp only
    congr 1
    apply List.ext_getElem?
    intro i
    rw [List.getElem?_map, List.getElem?_map, List.getElem?_take]
    by_cases hi : i < p.items.length
    · have := h.it i (by omega) hi
      rw [List.getD_eq_getElem?_getD, List.getD_eq_getElem?_getD, List.getElem?_eq_getElem (show i < D.length by omega), List.getElem?_eq_getElem hi] at this
      rw [if_pos hi, List.getElem?_eq_getElem (show i < D.length by omega), List.getElem?_eq_getElem hi]
      simpa using this
    · rw [if_neg hi, List.getElem?_eq_none (by omega)]
  · dsimp only
    rw [← hd]
    exact hjl.but hB fun x hx e => by
      rcases e with e | e
      · exact hjl.nty h.rs (by decide) hx e
      · exact hjl.nty h.o3 (by decide) hx e
end
section
open Go.RowKit
/-- lists of bytes in a row of their own -/
def Ar (w : World) (at' : Option Addr) (ct : Nat) (vs : List Value) : Prop := w.ownsRow 0 32 1 (.slice at' vs.length ct) vs.length vs
theorem Ar.nil (w : World) : Ar w none 0 [] := World.ownsRow_nil w 0 32 1
theorem Ar.cases {w : World} {a : Option Addr} {cap : Nat} {vs : List Value} (h : Ar w a cap vs) : (a = none ∧ cap = 0 ∧ vs = []) ∨
    ∃ g cur, a = some ⟨g, 0, none⟩ ∧ w.heap[g]? = some (.cells cur 32 (0, 0)) ∧ vs.length ≤ cap ∧ cap ≤ maxLen ∧ cur.size = cap ∧ cur.toList.take vs.length = vs := by
  obtain ⟨_, h2⟩ := h
  rcases h2 with ⟨hv, h0⟩ | ⟨g, cap', cur, hv, _, hg, hn, hm, hs, ht⟩
  · simp only [Value.slice.injEq] at hv
    exact .inl ⟨hv.1, hv.2.2, List.length_eq_zero_iff.1 h0⟩
  · simp only [Value.slice.injEq] at hv
    obtain ⟨h1, _, rfl⟩ := hv
    exact .inr ⟨g, cur, h1, hg, hn, hm, by omega, by rw [Nat.mul_one] at ht; exact ht⟩
theorem Ar.mk {w : World} {g cap : Nat} {cur : Array Value} {vs : List Value} (hg : w.heap[g]? = some (.cells cur 32 (0, 0))) (hn : vs.length ≤ cap) (hm : cap ≤ maxLen) (hs : cur.size = cap) (ht : cur.toList.take vs.length = vs) : Ar w (some ⟨g, 0, none⟩) cap vs :=
  ⟨by rw [Nat.mul_one], .inr ⟨g, cap, cur, rfl, Nat.zero_le _, hg, hn, hm, by omega, by rw [Nat.mul_one]; exact ht⟩⟩
theorem Ar.lt {w : World} {a : Option Addr} {cap : Nat} {vs : List Value} (h : Ar w a cap vs) {x : Addr} (hx : a = some x) : x.block < w.heap.size := by
  rcases h.cases with ⟨rfl, _⟩ | ⟨g, cur, rfl, hg, _⟩
  · cases hx
  · cases hx; exact (Array.getElem?_eq_some_iff.1 hg).1
theorem Ar.but {S : Nat → Prop} {w w' : World} {a : Option Addr} {cap : Nat} {vs : List Value} (h : Ar w a cap vs) (hb : But S w w') (hn : ∀ x, a = some x → ¬ S x.block) : Ar w' a cap vs := by
  rcases h.cases with ⟨rfl, rfl, rfl⟩ | ⟨g, cur, rfl, hg, h1, h2, h3, h4⟩
  · exact Ar.nil w'
  · exact Ar.mk ((hb.block g (Array.getElem?_eq_some_iff.1 hg).1 (hn _ rfl)).trans hg) h1 h2 h3 h4
theorem Ar.keep {w w' : World} {a : Option Addr} {cap : Nat} {vs : List Value} (h : Ar w a cap vs) (hb : Below w.heap.size w w') : Ar w' a cap vs :=
  h.but (S := fun _ => False) (But.ofBelow hb) (fun _ _ hf => hf)
theorem Ar.cell {w : World} {a : Option Addr} {cap : Nat} {vs : List Value} (h : Ar w a cap vs) {i : Nat} {v : Value} (hi : vs[i]? = some v) : ∃ g, a = some ⟨g, 0, none⟩ ∧ w.cell? ⟨g, i, none⟩ = some v := by
  rcases h.cases with ⟨rfl, rfl, rfl⟩ | ⟨g, cur, rfl, hg, h1, h2, h3, h4⟩
  · cases hi
  · refine ⟨g, rfl, ?_⟩
    have hlt := (List.getElem?_eq_some_iff.1 hi).1
    have e : (cur.toList.take vs.length)[i]? = some v := by rw [h4]; exact hi
    rw [List.getElem?_take, if_pos hlt] at e
    rw [cell_of_row _ _ _ _ _ _ hg, ← e]
    simp
/-- the array of lists is no list of bytes -/
theorem Ar.ne {w : World} {a a' : Option Addr} {cap cap' : Nat} {vs : List Value} {l : List Nat} (h : Ar w a cap vs) (hR : Rw w a' cap' l) {x y : Addr} (hx : a = some x) (hy : a' = some y) : x.block ≠ y.block := by
  rcases h.cases with ⟨rfl, _⟩ | ⟨g, cur, rfl, hg, _⟩
  · cases hx
  rcases hR.cases with ⟨rfl, _⟩ | ⟨g', cur', rfl, hg', _⟩
  · cases hy
  simp only [Option.some.injEq] at hx hy
  subst hx hy
  show g ≠ g'
  intro e
  subst e
  rw [hg] at hg'
  simp at hg'
theorem Rw.front {w : World} {a : Option Addr} {cap : Nat} {l m : List Nat} (h : Rw w a cap (l ++ m)) : Rw w a cap l ∨ a = none := by
  rcases h.cases with ⟨rfl, rfl, hn⟩ | ⟨g, cur, rfl, hg, h1, h2, h3, h4⟩
  · exact .inr rfl
  · refine .inl (Rw.mk hg (by rw [List.length_append] at h1; omega) h2 h3 ?_)
    have e := congrArg (List.take l.length) h4
    rw [List.take_take, List.length_append, Nat.min_eq_left (by omega), vb_append, List.take_left' (vb_length l)] at e
    exact e
theorem blk_keep {W W' : World} {g : Nat} {o : Obj} (h : W.heap[g]? = some o) (hb : Below W.heap.size W W') : W'.heap[g]? = some o := (hb.block _ (Array.getElem?_eq_some_iff.1 h).1).trans h
def bv (t : Br) : Value := .slice t.a t.l.length t.c
/-- an array of lists of the call's own -/
structure Ax (w W : World) (a : Option Addr) (c : Nat) (T : List Br) : Prop where
  r : Ar W a c (T.map bv)
  n : New w none a
  b : Below w.heap.size w W
theorem Ax.keep {w W W' : World} {a : Option Addr} {c : Nat} {T : List Br} (h : Ax w W a c T) (hb : Below W.heap.size W W') : Ax w W' a c T := ⟨h.r.keep hb, h.n, bt h.b hb⟩
theorem Ax.step {w W W1 W2 : World} {a : Option Addr} {c c' g : Nat} {T U : List Br} (h : Ax w W a c T) (hb : Below W.heap.size W W1) (hR : Ar W2 (some ⟨g, 0, none⟩) c' (T.map bv ++ U.map bv)) (hN : New W1 a (some ⟨g, 0, none⟩)) (hg : W1.grownBy W2 (a.map Addr.block)) : Ax w W2 (some ⟨g, 0, none⟩) c' (T ++ U) := by
  have b1 := bt h.b hb
  refine ⟨by rw [List.map_append]; exact hR, h.n.trans hN b1.size, ?_⟩
  have hh : But (fun _ => False) w W2 := (But.ofBelow b1).grown hg fun k hk hlt => by
    obtain ⟨y, hy, e⟩ := map_some hk
    have := new_at h.n hy
    omega
  exact hh.below fun _ _ h => h
/-- what such an append leaves of the rest -/
theorem Ax.but {w W W1 W2 : World} {a : Option Addr} {c : Nat} {T : List Br} (h : Ax w W a c T) (hb : Below W.heap.size W W1) (hg : W1.grownBy W2 (a.map Addr.block)) {k : Nat} {o : Obj} (hk : W.heap[k]? = some o) (hne : ∀ cs, o ≠ .cells cs 32 (0, 0)) : W2.heap[k]? = some o := by
  have hk1 := blk_keep hk hb
  refine (hg.block k (Array.getElem?_eq_some_iff.1 hk1).1 fun e => ?_).trans hk1
  obtain ⟨y, hy, e2⟩ := map_some e.symm
  rcases h.r.cases with ⟨h0, _⟩ | ⟨g', cur, h0, hg', _⟩
  · rw [h0] at hy; cases hy
  · rw [h0, Option.some.injEq] at hy
    subst hy
    dsimp only at e2
    subst e2
    rw [hk] at hg'
    exact hne cur (Option.some.inj hg')
end
section
open Go.RowKit
theorem Ax.pre {w w0 W : World} {a : Option Addr} {c : Nat} {T : List Br} (hb : Below w.heap.size w w0) (h : Ax w0 W a c T) : Ax w W a c T := ⟨h.r, h.n.mono hb.size, bt hb h.b⟩
end
section
open Go.RowKit
/-- behind the first statement of SparePage -/
structure Sq (w wx : World) (pc : Array Value) (p : Pv) (g3 gD : Nat) : Prop where
  b : Below (w.alloc (.cells pc 93)).heap.size (w.alloc (.cells pc 93)) wx
  rs : Bx wx 93 (w.heap.size + 1) Pv.zero.cs
  o3 : Bx wx 93 g3 (Pv.mk p.kind p.level none 0 [] (some ⟨gD, 0, none⟩) (p.data.length + 64) p.data p.next).cs
  n3 : w.heap.size + 1 < g3
  f : Sf (w.alloc (.cells pc 93)) wx [⟨some ⟨gD, 0, none⟩, p.data.length + 64, p.data⟩]
theorem Sq.a {w w1 : World} {pc : Array Value} {p : Pv} {gD : Nat} (T1 : Below ((w.alloc (.cells pc 93)).alloc (.cells Pv.zero.cs 93)).heap.size ((w.alloc (.cells pc 93)).alloc (.cells Pv.zero.cs 93)) w1) (hs : Sl w1 (some ⟨gD, 0, none⟩) (p.data.length + 64) p.data) (hg : w.heap.size + 2 ≤ gD) :
    Sq w (w1.alloc (.cells (Pv.mk p.kind p.level none 0 [] (some ⟨gD, 0, none⟩) (p.data.length + 64) p.data p.next).cs 93)) pc p w1.heap.size gD := by
  obtain ⟨_, k2, _, k4⟩ := two_blocks w _ _ T1
  have hb := bt (al (w.alloc (.cells pc 93)) (.cells Pv.zero.cs 93)) (bt T1 (al w1 (.cells (Pv.mk p.kind p.level none 0 [] (some ⟨gD, 0, none⟩) (p.data.length + 64) p.data p.next).cs 93)))
  exact ⟨hb, (show Bx w1 93 (w.heap.size + 1) _ from k2).keep (al _ _), Bx.new _ _ _, by omega, Sf.one (hs.keep (al _ _)) (by rw [size_alloc]; omega) hb⟩
theorem Sq.c {w w1 : World} {pc : Array Value} {p : Pv} {gD : Nat} (T1 : Below ((w.alloc (.cells pc 93)).alloc (.cells Pv.zero.cs 93)).heap.size ((w.alloc (.cells pc 93)).alloc (.cells Pv.zero.cs 93)) w1) (X3 : Bx w1 93 (w.heap.size + 1 + 1) Pv.zero.cs) (hs : Sl w1 (some ⟨gD, 0, none⟩) (p.data.length + 64) p.data) (hg : w.heap.size + 3 ≤ gD) :
    Sq w (((((w1.setCell ⟨w.heap.size + 1 + 1, 0, none⟩ (.int .i64 p.kind)).setCell ⟨w.heap.size + 1 + 1, 1, none⟩ (.int .i64 p.level)).setCell ⟨w.heap.size + 1 + 1, 2, none⟩ (.slice none 0 0)).setCell ⟨w.heap.size + 1 + 1, 3, none⟩ (.slice (some ⟨gD, 0, none⟩) p.data.length (p.data.length + 64))).setCell ⟨w.heap.size + 1 + 1, 4, none⟩ (.int .i64 p.next)) pc p (w.heap.size + 1 + 1) gD := by
  obtain ⟨_, k2, _, k4⟩ := two_blocks w _ _ T1
  have hB := but_set5 (w.heap.size + 1 + 1) w1 (.int .i64 p.kind) (.int .i64 p.level) (.slice none 0 0) (.slice (some ⟨gD, 0, none⟩) p.data.length (p.data.length + 64)) (.int .i64 p.next)
  have hb := ((But.ofBelow (S := fun _ => False) (bt (al (w.alloc (.cells pc 93)) (.cells Pv.zero.cs 93)) T1)).trans hB fun y hy e => by rw [size_alloc] at hy; omega).below fun _ _ h => h
  exact ⟨hb, (show Bx w1 93 (w.heap.size + 1) _ from k2).but hB (by omega), bx_set5 X3 _ _ _ _ _, by omega, Sf.one (hs.but hB fun x hx e => by cases hx; simp only at e; omega) (by rw [size_alloc]; omega) hb⟩
theorem Sq.sw {w W : World} {pc : Array Value} {p : Pv} {g3 gD n : Nat} (h : Sq w W pc p g3 gD) (hn : n = p.items.length + 2) (hl : n ≤ 1048579) : Sw (w.alloc (.cells pc 93)) (W.alloc (.cells (madeCells Iv.zero.cs (n * 4)) 34)) p g3 gD W.heap.size 0 [] := by
  subst hn
  have e : (w.alloc (.cells pc 93)).heap.size = w.heap.size + 1 := size_alloc _ _
  have k := h.rs.lt
  exact ⟨bt h.b (al _ _), by rw [e]; exact h.rs.keep (al _ _), h.o3.keep (al _ _), by rw [e]; exact h.n3, by simpa using Jw.start hl, by rw [e]; omega, rfl, fun _ h => absurd h (by omega), fun _ h => absurd h (by omega), by simpa [rowsOf] using h.f.keep (al _ _)⟩
end
section
open Go.RowKit
end
section
open Go.RowKit
def mkA (i k : Nat) : Nat := (i * 31 + k * 7 + 1) % 256
def fl (i n : Nat) : List Nat := (List.range n).map (mkA i)
/-- rows of bytes -/
def RowsG (w : World) (n : Nat) (A : Nat → Option Addr) (C : Nat → Nat) (G : Nat → List Nat) : Prop := ∀ i, i < n → Rw w (A i) (C i) (G i)
def Dist (n : Nat) (A : Nat → Option Addr) : Prop := ∀ i j, i < n → j < n → i ≠ j → ∀ x y, A i = some x → A j = some y → x.block ≠ y.block
def InRows (n : Nat) (A : Nat → Option Addr) (k : Nat) : Prop := ∃ i, i < n ∧ ∃ x, A i = some x ∧ x.block = k
theorem RowsG.congr {w : World} {n : Nat} {A : Nat → Option Addr} {C : Nat → Nat} {G G' : Nat → List Nat} (h : RowsG w n A C G) (e : ∀ i, i < n → G i = G' i) : RowsG w n A C G' := fun i hi => by rw [← e i hi]; exact h i hi
theorem RowsG.set {w : World} {n : Nat} {A : Nat → Option Addr} {C : Nat → Nat} {G : Nat → List Nat} (h : RowsG w n A C G) (hd : Dist n A) {j g : Nat} (hj : j < n) (hA : A j = some ⟨g, 0, none⟩) (k v : Nat) :
    RowsG (w.setCell ⟨g, k, none⟩ (.int .u8 ((v : Nat) : Int))) n A C (fun i => if i = j then (G j).set k v else G i) := by
  intro i hi
  by_cases e : i = j
  · subst e
    dsimp only
    rw [if_pos rfl, hA]
    have := h i hi
    rw [hA] at this
    exact this.set k v
  · dsimp only
    rw [if_neg e]
    exact (h i hi).but (But.cell1 w g k _) fun x hx => hd i j hi hj e x _ hx hA
/-- behind the second loop's first rounds -/
def P2 (w wx : World) (n : Nat) (A : Nat → Option Addr) (C : Nat → Nat) (N : Nat → Nat) (j : Nat) (ag : Option Addr) (cg : Nat) (B : Nat → Option Addr) (D : Nat → Nat) : Prop :=
  Ar wx ag cg ((List.range j).map fun i => Value.slice (B i) (N i + 20) (D i)) ∧
  (∀ i, i < j → Rw wx (B i) (D i) (fl i (N i + 20)) ∧ Bs wx (A i) (fl i (N i)) ∧ New w (A i) (B i)) ∧
  (∀ i, j ≤ i → i < n → Rw wx (A i) (C i) (fl i (N i))) ∧
  (∀ i i', i < i' → i' < j → ∀ x y, B i = some x → B i' = some y → x.block ≠ y.block) ∧
  But (InRows n A) w wx ∧ New w none ag
theorem grown_but {w w2 : World} {a : Option Addr} (h : w.grownBy w2 (a.map Addr.block)) : But (fun q => ∃ x, a = some x ∧ x.block = q) w w2 :=
  (But.refl _ _).grown h fun _ hk _ => map_some hk
theorem P2.next {w wx w3 wr : World} {n : Nat} {A : Nat → Option Addr} {C N : Nat → Nat} {j : Nat} {ag ag' gj : Option Addr} {cg cg' cj : Nat} {B : Nat → Option Addr} {D : Nat → Nat} {o : Obj}
    (hd : Dist n A) (hA0 : ∀ i, i < n → ∀ x, A i = some x → x.block < w.heap.size) (hj : j < n) (h : P2 w wr n A C N j ag cg B D) (hin : But (fun q => ∃ x, A j = some x ∧ x.block = q) wr wx)
    (hRg : Rw wx gj cj (fl j (N j + 20))) (hBs : Bs wx (A j) (fl j (N j))) (hgj : gj = A j ∨ ∀ x, gj = some x → wr.heap.size ≤ x.block)
    (hAr : Ar w3 ag' cg' (((List.range j).map fun i => Value.slice (B i) (N i + 20) (D i)) ++ [.slice gj (N j + 20) cj])) (hN : New (wx.alloc o) ag ag') (hg : (wx.alloc o).grownBy w3 (ag.map Addr.block)) :
    P2 w w3 n A C N (j + 1) ag' cg' (fun i => if i = j then gj else B i) (fun i => if i = j then cj else D i) := by
  obtain ⟨h1, h2, h3, h4, h5, h6⟩ := h
  have hsz := h5.size
  have hsz2 := hin.size
  -- the array is none of the rows
  have hagx : Ar wx ag cg ((List.range j).map fun i => Value.slice (B i) (N i + 20) (D i)) := h1.but hin fun x hx ⟨y, hy, e⟩ => h1.ne (h3 j (Nat.le_refl _) hj) hx hy e.symm
  have step : But (fun q => ∃ x, ag = some x ∧ x.block = q) wx w3 := ((But.refl _ wx).alloc o).trans (grown_but hg) fun _ _ h => h
  have row : ∀ {a c l}, Rw wx a c l → Rw w3 a c l := fun hr => hr.but step fun x hx ⟨y, hy, e⟩ => hagx.ne hr hy hx e
  have bs : ∀ {a : Option Addr} {l : List Nat}, Bs wx a l → (∀ x, a = some x → x.block < w.heap.size) → Bs w3 a l := fun hb hlt => hb.but step fun x hx _ ⟨y, hy, e⟩ => by
    have h7 := hlt x hx
    rcases h6 y hy with ⟨z, hz, _⟩ | h8
    · cases hz
    · omega
  have hBold : ∀ i, i < j → ∀ x, B i = some x → ¬ ∃ y, A j = some y ∧ y.block = x.block := by
    rintro i hi x hx ⟨y, hy, e⟩
    rcases (h2 i hi).2.2 x hx with ⟨z, hz, e2⟩ | h7
    · exact hd i j (by omega) hj (by omega) z y hz hy (e2.trans e.symm)
    · have := hA0 j hj y hy; omega
  refine ⟨?_, ?_, ?_, ?_, ?_, ?_⟩
  · rw [List.range_succ, List.map_append]
    have e : ((List.range j).map fun i => Value.slice (if i = j then gj else B i) (N i + 20) (if i = j then cj else D i)) = (List.range j).map fun i => Value.slice (B i) (N i + 20) (D i) := by
      apply List.map_congr_left
      intro i hi
      have := List.mem_range.1 hi
      simp [show i ≠ j by omega]
    rw [e]
    simpa using hAr
  · intro i hi
    by_cases e : i = j
    · subst e
      dsimp only
      rw [if_pos rfl, if_pos rfl]
      refine ⟨row hRg, bs hBs (hA0 i hj), ?_⟩
      intro x hx
      rcases hgj with h7 | h7
      · exact .inl ⟨x, by rw [← h7]; exact hx, rfl⟩
      · exact .inr (by have := h7 x hx; omega)
    · dsimp only
      rw [if_neg e, if_neg e]
      obtain ⟨k1, k2, k3⟩ := h2 i (by omega)
      refine ⟨row (k1.but hin fun x hx => hBold i (by omega) x hx), bs (k2.but hin fun x hx _ ⟨y, hy, e2⟩ => hd i j (by omega) hj e x y hx hy e2.symm) (hA0 i (by omega)), k3⟩
  · intro i hi hin'
    exact row ((h3 i (by omega) hin').but hin fun x hx ⟨y, hy, e2⟩ => hd i j hin' hj (by omega) x y hx hy e2.symm)
  · intro i i' hii hi' x y hx hy
    dsimp only at hx hy
    rw [if_neg (by omega)] at hx
    by_cases e : i' = j
    · rw [if_pos e] at hy
      subst e
      rcases hgj with h7 | h7
      · rw [h7] at hy
        exact fun e2 => hBold i hii x hx ⟨y, hy, e2.symm⟩
      · have h8 := h7 y hy
        have h9 := (h2 i hii).1.lt hx
        omega
    · rw [if_neg e] at hy
      exact h4 i i' hii (by omega) x y hx hy
  · refine (h5.trans hin fun x _ ⟨y, hy, e⟩ => ⟨j, hj, y, hy, e⟩).trans step ?_
    rintro x hx ⟨y, hy, e⟩
    rcases h6 y hy with ⟨z, hz, _⟩ | h8
    · cases hz
    · omega
  · exact h6.trans hN (by rw [size_alloc]; omega)
end
section
open Go.RowKit
theorem Ig.cases {w : World} {a : Option Addr} {cap : Nat} {l : List Int} (h : Ig w a cap l) : (a = none ∧ cap = 0 ∧ l = []) ∨
    ∃ g cur, a = some ⟨g, 0, none⟩ ∧ w.heap[g]? = some (.cells cur 3 (0, 0)) ∧ l.length ≤ cap ∧ cap ≤ maxLen ∧ cur.size = cap ∧ cur.toList.take l.length = vi l := by
  obtain ⟨_, h2⟩ := h
  rcases h2 with ⟨hv, h0⟩ | ⟨g, cap', cur, hv, _, hg, hn, hm, hs, ht⟩
  · simp only [Value.slice.injEq] at hv
    exact .inl ⟨hv.1, hv.2.2, List.length_eq_zero_iff.1 h0⟩
  · simp only [Value.slice.injEq] at hv
    obtain ⟨h1, _, rfl⟩ := hv
    exact .inr ⟨g, cur, h1, hg, hn, hm, by omega, by rw [Nat.mul_one] at ht; exact ht⟩
theorem Ig.mk {w : World} {g cap : Nat} {cur : Array Value} {l : List Int} (hg : w.heap[g]? = some (.cells cur 3 (0, 0))) (hn : l.length ≤ cap) (hm : cap ≤ maxLen) (hs : cur.size = cap) (ht : cur.toList.take l.length = vi l) : Ig w (some ⟨g, 0, none⟩) cap l :=
  ⟨by rw [vi_length, Nat.mul_one], .inr ⟨g, cap, cur, rfl, Nat.zero_le _, hg, hn, hm, by omega, by rw [Nat.mul_one]; exact ht⟩⟩
theorem Ig.lt {w : World} {a : Option Addr} {cap : Nat} {l : List Int} (h : Ig w a cap l) {x : Addr} (hx : a = some x) : x.block < w.heap.size := by
  rcases h.cases with ⟨rfl, _⟩ | ⟨g, cur, rfl, hg, _⟩
  · cases hx
  · cases hx; exact (Array.getElem?_eq_some_iff.1 hg).1
theorem Ig.cell {w : World} {g cap : Nat} {l : List Int} (h : Ig w (some ⟨g, 0, none⟩) cap l) {i : Nat} (hi : i < l.length) : w.cell? ⟨g, i, none⟩ = some (.int .i64 (l.getD i 0)) := by
  rcases h.cases with ⟨h0, _⟩ | ⟨g', cur, h0, hg, h1, h2, h3, h4⟩
  · cases h0
  · simp only [Option.some.injEq, Addr.mk.injEq] at h0
    obtain ⟨rfl, _⟩ := h0
    rw [cell_of_row _ _ _ _ _ _ hg, ← vi_get l i hi, ← h4, List.getElem?_take, if_pos hi]
    simp
theorem Ig.len_le {w : World} {a : Option Addr} {cap : Nat} {l : List Int} (h : Ig w a cap l) : l.length ≤ 9223372036854775807 := by
  rcases h.cases with ⟨rfl, rfl, rfl⟩ | ⟨g, cur, rfl, hg, h1, h2, h3, h4⟩
  · simp
  · unfold maxLen at h2; omega
theorem Ig.set {w : World} {g cap : Nat} {l : List Int} (h : Ig w (some ⟨g, 0, none⟩) cap l) (k : Nat) (v : Int) : Ig (w.setCell ⟨g, k, none⟩ (.int .i64 v)) (some ⟨g, 0, none⟩) cap (l.set k v) := by
  rcases h.cases with ⟨h0, _⟩ | ⟨g', cur, h0, hg, h1, h2, h3, h4⟩
  · cases h0
  · simp only [Option.some.injEq, Addr.mk.injEq] at h0
    obtain ⟨rfl, _⟩ := h0
    refine Ig.mk (heap_setCell_same w g k _ _ _ hg) (by rw [List.length_set]; exact h1) h2 (by simpa using h3) ?_
    rw [List.length_set, Array.toList_setIfInBounds, List.take_set, h4]
    simp only [vi, List.map_set]
theorem Ig.front {w : World} {a : Option Addr} {cap : Nat} {l m : List Int} (h : Ig w a cap (l ++ m)) : Ig w a cap l ∨ a = none := by
  rcases h.cases with ⟨rfl, rfl, hn⟩ | ⟨g, cur, rfl, hg, h1, h2, h3, h4⟩
  · exact .inr rfl
  · refine .inl (Ig.mk hg (by rw [List.length_append] at h1; omega) h2 h3 ?_)
    have e := congrArg (List.take l.length) h4
    rw [List.take_take, List.length_append, Nat.min_eq_left (by omega), vi_append, List.take_left' (vi_length l)] at e
    exact e
theorem Ir.but {T : Nat → Prop} {w w' : World} {a : Option Addr} {l : List Int} (h : Ir w a l) (hb : But T w w') (hn : ∀ x, a = some x → l ≠ [] → ¬ T x.block) : Ir w' a l := by
  by_cases h0 : l = []
  · exact .inl h0
  rcases h with h | ⟨b, off, rfl, hc⟩
  · exact .inl h
  · exact .inr ⟨b, off, rfl, fun i hi => (hb.cell (p := ⟨b, off + i, none⟩) (block_lt_of_cell (hc i hi)) (show ¬ T b from hn ⟨b, off, none⟩ rfl h0)).trans (hc i hi)⟩
end
section
open Go.RowKit
def Br0 : Br := ⟨none, 0, []⟩
def tA (T : List Br) (i : Nat) : Option Addr := (T.getD i Br0).a
theorem t_mem {T : List Br} {i : Nat} (h : i < T.length) : T.getD i Br0 ∈ T := by simp [h]
end
section
open Go.RowKit
/-- rows of numbers stay where lists of bytes are written -/
theorem IOwn.bytes {B0 W W' : World} {a : Option Addr} {c : Nat} {l : List Int} {T : List Br} (h : IOwn B0 W a c l) (hf : Fam B0 W T) (hb : But (InRows T.length (tA T)) W W') (hw : Below B0.heap.size B0 W') : IOwn B0 W' a c l :=
  ⟨h.r.but hb fun x hx ⟨i, hi, y, hy, e⟩ => by
    rcases h.r.cases with ⟨h0, _⟩ | ⟨g, cur, h0, hg, _⟩
    · rw [h0] at hx; cases hx
    · rw [h0, Option.some.injEq] at hx
      subst hx
      exact (hf.own _ (t_mem hi)).1.r.nty (show Bx W 3 g cur from hg) (by decide) hy e, h.n, hw⟩
end
section
open Go.RowKit
theorem Sp.pre {w w0 W : World} {p q : Pv} (hb : Below w.heap.size w w0) (h : Sp w0 W p q) : Sp w W p q := by
  obtain ⟨g, D, e1, e2, e3, e4, e5⟩ := h.it
  exact ⟨h.e, Sf.pre hb h.s, ⟨g, D, e1, e2, e3, e4, by have := hb.size; omega⟩, bt hb h.b⟩
end
end Go.Proofs.YtbhigodjbfoeoaaGreat
