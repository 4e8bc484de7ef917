import Derived.Test.YtceeeofkigkpkaaGreatEC
import Derived.Test.YtceeeofkigkpkaaGreatEI
namespace Go.Proofs.YtceeeofkigkpkaaGreat
set_option linter.unusedVariables false
open Go.RowKit

/-! ### a pool in memory -/
structure Pd where
  g : Nat
  s : Nat → Nat
  a : Nat → Option Addr
  c : Nat → Nat
  L : Nat → List Rn
  aa : Option Addr
  ac : Nat
  B : List (Nat × Nat × Nat)
def boxC (P : Po) (D : Pd) : Array Value := #[.int .i64 P.rf, .slice (some ⟨D.g, 0, none⟩) P.pg.length P.pg.length, .pointer (some ⟨D.s 0, 0, none⟩), .pointer (some ⟨D.s 1, 0, none⟩), .pointer (some ⟨D.s 2, 0, none⟩), .pointer (some ⟨D.s 3, 0, none⟩), .pointer (some ⟨D.s 4, 0, none⟩), .slice D.aa P.ac.length D.ac, .int .i64 ((P.fl : Nat) : Int)]
def pgc (L : List Pg) : List Value := (L.map fun x => [Value.int .i64 x.1, Value.bool x.2]).flatten
theorem pgc_cons (x : Pg) (L : List Pg) : pgc (x :: L) = .int .i64 x.1 :: .bool x.2 :: pgc L := by simp [pgc]
theorem pgc_length : ∀ (L : List Pg), (pgc L).length = L.length * 2
  | [] => rfl
  | x :: L => by rw [pgc_cons, List.length_cons, List.length_cons, pgc_length L, List.length_cons]; omega
theorem pgc_get : ∀ (L : List Pg) (i : Nat), i < L.length → (pgc L)[i * 2]? = some (.int .i64 (L.getD i Pg.zero).1) ∧ (pgc L)[i * 2 + 1]? = some (.bool (L.getD i Pg.zero).2)
  | [], i, h => by simp at h
  | x :: L, 0, h => by rw [pgc_cons]; simp
  | x :: L, i + 1, h => by
    rw [pgc_cons, show (i + 1) * 2 = i * 2 + 1 + 1 by omega]
    have := pgc_get L i (by simpa using h)
    simpa using this
theorem pgc_set : ∀ (L : List Pg) (i : Nat) (x : Pg), pgc (L.set i x) = ((pgc L).set (i * 2) (.int .i64 x.1)).set (i * 2 + 1) (.bool x.2)
  | [], i, x => by simp [pgc]
  | y :: L, 0, x => by rw [List.set_cons_zero, pgc_cons, pgc_cons]; simp
  | y :: L, i + 1, x => by
    rw [List.set_cons_succ, pgc_cons, pgc_cons, pgc_set L i x, show (i + 1) * 2 = i * 2 + 1 + 1 by omega]
    simp
def clo (t : Nat × Nat × Nat) : Value := .func (.func 60) #[] #[.pointer (some ⟨t.1, 0, none⟩), .pointer (some ⟨t.2.1, 0, none⟩), .pointer (some ⟨t.2.2, 0, none⟩)]
/-- what a closure holds: the pool, the page and what it was -/
structure Cl (w : World) (b : Nat) (t : Nat × Nat × Nat) (x : Nat × Pg) : Prop where
  p : w.cell? ⟨t.1, 0, none⟩ = some (.pointer (some ⟨b, 0, none⟩))
  n : w.cell? ⟨t.2.1, 0, none⟩ = some (.int .i64 ((x.1 : Nat) : Int))
  c : w.cell? ⟨t.2.2, 0, none⟩ = some (.int .i64 x.2.1)
  l : w.cell? ⟨t.2.2, 1, none⟩ = some (.bool x.2.2)
theorem Cl.but {S : Nat → Prop} {w w' : World} {b : Nat} {t : Nat × Nat × Nat} {x : Nat × Pg} (h : Cl w b t x) (hb : But S w w') (h1 : ¬ S t.1) (h2 : ¬ S t.2.1) (h3 : ¬ S t.2.2) : Cl w' b t x :=
  ⟨(hb.cell (p := ⟨t.1, 0, none⟩) (block_lt_of_cell h.p) h1).trans h.p, (hb.cell (p := ⟨t.2.1, 0, none⟩) (block_lt_of_cell h.n) h2).trans h.n, (hb.cell (p := ⟨t.2.2, 0, none⟩) (block_lt_of_cell h.c) h3).trans h.c, (hb.cell (p := ⟨t.2.2, 1, none⟩) (block_lt_of_cell h.l) h3).trans h.l⟩
structure Pq (w : World) (b : Nat) (P : Po) (D : Pd) (col : Nat → Nat) : Prop where
  box : w.heap[b]? = some (.cells (boxC P D) 70 (0, 0))
  pgs : w.heap[D.g]? = some (.cells (pgc P.pg).toArray 74 (0, 0))
  set : ∀ s, s < 5 → St w (D.s s) (D.a s) (D.c s) (D.L s)
  acr : Gw 76 1 w D.aa D.ac P.ac.length (D.B.map clo)
  acl : D.B.length = P.ac.length
  acb : ∀ q ∈ D.B.zip P.ac, Cl w b q.1 q.2
  cb : col b = 1
  cg : col D.g = 2
  cs : ∀ s, s < 5 → col (D.s s) = 3 + s
  ca : ∀ s, s < 5 → ∀ x, D.a s = some x → col x.block = 3 + s
  cc : ∀ x, D.aa = some x → col x.block = 8
  cB : ∀ t ∈ D.B, col t.1 = 9 ∧ col t.2.1 = 9 ∧ col t.2.2 = 9
  lt : ∀ k, col k ≠ 0 → k < w.heap.size
theorem zip_left {α β : Type} : ∀ {A : List α} {B : List β} {q : α × β}, q ∈ A.zip B → q.1 ∈ A ∧ q.2 ∈ B := fun {A B q} h => ⟨(List.of_mem_zip h).1, (List.of_mem_zip h).2⟩
theorem Pq.but {S : Nat → Prop} {w w' : World} {b : Nat} {P : Po} {D : Pd} {col : Nat → Nat} (h : Pq w b P D col) (hb : But S w w') (hn : ∀ k, col k ≠ 0 → ¬ S k) : Pq w' b P D col := by
  have nz : ∀ {k c : Nat}, col k = c + 1 → ¬ S k := fun e => hn _ (by omega)
  refine ⟨hb.same h.box (nz (c := 0) h.cb), hb.same h.pgs (nz (c := 1) h.cg), fun s hs => (h.set s hs).but hb (hn _ (by rw [h.cs s hs]; omega)) (fun x hx => hn _ (by rw [h.ca s hs x hx]; omega)), h.acr.but hb (fun x hx => nz (c := 7) (h.cc x hx)), h.acl, fun q hq => ?_, h.cb, h.cg, h.cs, h.ca, h.cc, h.cB, fun k hk => Nat.lt_of_lt_of_le (h.lt k hk) hb.size⟩
  obtain ⟨c1, c2, c3⟩ := h.cB _ (zip_left hq).1
  exact (h.acb q hq).but hb (nz (c := 8) c1) (nz (c := 8) c2) (nz (c := 8) c3)
theorem Pq.keep {w w' : World} {b : Nat} {P : Po} {D : Pd} {col : Nat → Nat} (h : Pq w b P D col) (hb : Below w.heap.size w w') : Pq w' b P D col := h.but (S := fun _ => False) (But.ofBelow hb) (fun _ _ h => h)
theorem Pq.tint {w : World} {b : Nat} {P : Po} {D : Pd} {col col' : Nat → Nat} (h : Pq w b P D col) (h1 : ∀ k, col k ≠ 0 → col' k = col k) (h2 : ∀ k, col' k ≠ 0 → k < w.heap.size) : Pq w b P D col' := by
  have e : ∀ {k c : Nat}, col k = c + 1 → col' k = c + 1 := fun e => (h1 _ (by omega)).trans e
  refine ⟨h.box, h.pgs, h.set, h.acr, h.acl, h.acb, e h.cb, e h.cg, fun s hs => ?_, fun s hs x hx => ?_, fun x hx => e (h.cc x hx), fun t ht => ?_, h2⟩
  · exact (h1 _ (by rw [h.cs s hs]; omega)).trans (h.cs s hs)
  · exact (h1 _ (by rw [h.ca s hs x hx]; omega)).trans (h.ca s hs x hx)
  · obtain ⟨c1, c2, c3⟩ := h.cB t ht
    exact ⟨e c1, e c2, e c3⟩
theorem Pq.lb {w : World} {b : Nat} {P : Po} {D : Pd} {col : Nat → Nat} (h : Pq w b P D col) : b < w.heap.size := (Array.getElem?_eq_some_iff.1 h.box).1
/-! the box's cells -/
theorem Pq.cell {w : World} {b : Nat} {P : Po} {D : Pd} {col : Nat → Nat} (h : Pq w b P D col) {i : Nat} {v : Value} (hi : (boxC P D)[i]? = some v) : w.cell? ⟨b, i, none⟩ = some v := by
  rw [cell_of_row _ _ _ _ _ _ h.box]; exact hi
theorem Pq.free {w : World} {b : Nat} {P : Po} {D : Pd} {col : Nat → Nat} (h : Pq w b P D col) (i : Nat) : w.frozen? ⟨b, i, none⟩ = false := by simp [World.frozen?, h.box]
theorem Pq.c0 {w : World} {b : Nat} {P : Po} {D : Pd} {col : Nat → Nat} (h : Pq w b P D col) : w.cell? ⟨b, 0, none⟩ = some (.int .i64 P.rf) := h.cell rfl
theorem Pq.c1 {w : World} {b : Nat} {P : Po} {D : Pd} {col : Nat → Nat} (h : Pq w b P D col) : w.cell? ⟨b, 1, none⟩ = some (.slice (some ⟨D.g, 0, none⟩) P.pg.length P.pg.length) := h.cell rfl
theorem Pq.c7 {w : World} {b : Nat} {P : Po} {D : Pd} {col : Nat → Nat} (h : Pq w b P D col) : w.cell? ⟨b, 7, none⟩ = some (.slice D.aa P.ac.length D.ac) := h.cell rfl
theorem Pq.c8 {w : World} {b : Nat} {P : Po} {D : Pd} {col : Nat → Nat} (h : Pq w b P D col) : w.cell? ⟨b, 8, none⟩ = some (.int .i64 ((P.fl : Nat) : Int)) := h.cell rfl
theorem lt5 {s : Nat} (h : s < 5) : s = 0 ∨ s = 1 ∨ s = 2 ∨ s = 3 ∨ s = 4 := by omega
theorem Pq.cin {w : World} {b : Nat} {P : Po} {D : Pd} {col : Nat → Nat} (h : Pq w b P D col) {s : Nat} (hs : s < 5) : w.cell? ⟨b, 2 + s, none⟩ = some (.pointer (some ⟨D.s s, 0, none⟩)) := by
  refine h.cell ?_
  rcases lt5 hs with rfl | rfl | rfl | rfl | rfl <;> rfl
theorem Pq.pgAt {w : World} {b : Nat} {P : Po} {D : Pd} {col : Nat → Nat} (h : Pq w b P D col) {i : Nat} (hi : i < P.pg.length) : w.cell? ⟨D.g, i * 2, none⟩ = some (.int .i64 (P.pg.getD i Pg.zero).1) ∧ w.cell? ⟨D.g, i * 2 + 1, none⟩ = some (.bool (P.pg.getD i Pg.zero).2) := by
  obtain ⟨e1, e2⟩ := pgc_get P.pg i hi
  rw [cell_of_row _ _ _ _ _ _ h.pgs, cell_of_row _ _ _ _ _ _ h.pgs]
  exact ⟨by simpa using e1, by simpa using e2⟩
theorem Pq.pgf {w : World} {b : Nat} {P : Po} {D : Pd} {col : Nat → Nat} (h : Pq w b P D col) (i : Nat) : w.frozen? ⟨D.g, i, none⟩ = false := by simp [World.frozen?, h.pgs]
/-- a page is written over -/
theorem Pq.page {w w' : World} {b : Nat} {P : Po} {D : Pd} {col : Nat → Nat} (h : Pq w b P D col) (n : Nat) (x : Pg) (hg : w'.heap[D.g]? = some (.cells (pgc (P.pg.set (n - 1) x)).toArray 74 (0, 0))) (hb : But (fun k => k = D.g) w w') : Pq w' b (P.put n x) D col := by
  have ne : ∀ {k : Nat}, col k ≠ 2 → ¬ (k = D.g) := fun h1 e => h1 (by rw [e]; exact h.cg)
  have lb := hb.same h.box (ne (by rw [h.cb]; decide))
  refine ⟨?_, hg, fun s hs => (h.set s hs).but hb (ne (by rw [h.cs s hs]; omega)) (fun y hy => ne (by rw [h.ca s hs y hy]; omega)), h.acr.but hb (fun y hy => ne (by rw [h.cc y hy]; decide)), h.acl, fun q hq => ?_, h.cb, h.cg, h.cs, h.ca, h.cc, h.cB, fun k hk => Nat.lt_of_lt_of_le (h.lt k hk) hb.size⟩
  · rw [lb]
    show some (Obj.cells (boxC P D) _ _) = some (Obj.cells (boxC (P.put n x) D) _ _)
    unfold boxC Po.put
    rw [List.length_set]
  · obtain ⟨c1, c2, c3⟩ := h.cB _ (zip_left hq).1
    exact (h.acb q hq).but hb (ne (by rw [c1]; decide)) (ne (by rw [c2]; decide)) (ne (by rw [c3]; decide))
def upd {α : Type} (f : Nat → α) (s : Nat) (v : α) (i : Nat) : α := if i = s then v else f i
theorem upd_same {α : Type} (f : Nat → α) (s : Nat) (v : α) : upd f s v s = v := if_pos rfl
theorem upd_ne {α : Type} (f : Nat → α) {s i : Nat} (v : α) (h : i ≠ s) : upd f s v i = f i := if_neg h
def recol (col : Nat → Nat) (w w' : World) (c k : Nat) : Nat := if k < w.heap.size then col k else if k < w'.heap.size then c else 0
theorem recol_old {col : Nat → Nat} {w w' : World} {c k : Nat} (h : k < w.heap.size) : recol col w w' c k = col k := if_pos h
theorem recol_new {col : Nat → Nat} {w w' : World} {c k : Nat} (h : w.heap.size ≤ k) (h2 : k < w'.heap.size) : recol col w w' c k = c := by unfold recol; rw [if_neg (by omega), if_pos h2]
theorem recol_lt {col : Nat → Nat} {w w' : World} {c k : Nat} (hs : w.heap.size ≤ w'.heap.size) (h : recol col w w' c k ≠ 0) : k < w'.heap.size := by
  unfold recol at h
  split at h
  · omega
  · split at h
    · assumption
    · exact absurd rfl h
/-- a set has changed -/
theorem Pq.oneSet {w w' : World} {b : Nat} {P : Po} {D : Pd} {col : Nat → Nat} (h : Pq w b P D col) {s : Nat} (hs : s < 5) {a' : Option Addr} {c' : Nat} {L' : List Rn} (hS : St w' (D.s s) a' c' L') (hN : New w (D.a s) a') (hb : But (fun k => k = D.s s ∨ InA (D.a s) k) w w') :
    Pq w' b P { D with a := upd D.a s a', c := upd D.c s c', L := upd D.L s L' } (recol col w w' (3 + s)) := by
  have ne : ∀ {k : Nat}, col k ≠ 3 + s → ¬ (k = D.s s ∨ InA (D.a s) k) := fun h1 e => by
    rcases e with rfl | ⟨x, hx, rfl⟩
    · exact h1 (h.cs s hs)
    · exact h1 (h.ca s hs x hx)
  have old : ∀ {k : Nat}, col k ≠ 0 → recol col w w' (3 + s) k = col k := fun hk => recol_old (h.lt _ hk)
  refine ⟨hb.same h.box (ne (by rw [h.cb]; omega)), hb.same h.pgs (ne (by rw [h.cg]; omega)), fun t ht => ?_, h.acr.but hb (fun y hy => ne (by rw [h.cc y hy]; omega)), h.acl, fun q hq => ?_, (old (by rw [h.cb]; decide)).trans h.cb, (old (by rw [h.cg]; decide)).trans h.cg, fun t ht => (old (by rw [h.cs t ht]; omega)).trans (h.cs t ht), fun t ht x hx => ?_, fun x hx => (old (by rw [h.cc x hx]; decide)).trans (h.cc x hx), fun t ht => ?_, fun k hk => recol_lt hb.size hk⟩
  · show St w' (D.s t) (upd D.a s a' t) (upd D.c s c' t) (upd D.L s L' t)
    by_cases e : t = s
    · subst e; rw [upd_same, upd_same, upd_same]; exact hS
    · rw [upd_ne _ _ e, upd_ne _ _ e, upd_ne _ _ e]
      exact (h.set t ht).but hb (ne (by rw [h.cs t ht]; omega)) (fun x hx => ne (by rw [h.ca t ht x hx]; omega))
  · obtain ⟨c1, c2, c3⟩ := h.cB _ (zip_left hq).1
    exact (h.acb q hq).but hb (ne (by rw [c1]; omega)) (ne (by rw [c2]; omega)) (ne (by rw [c3]; omega))
  · have hx : upd D.a s a' t = some x := hx
    by_cases e : t = s
    · subst e
      rw [upd_same] at hx
      rcases hN x hx with ⟨y, hy, e⟩ | h2
      · rw [← e, old (by rw [h.ca t ht y hy]; omega)]; exact h.ca t ht y hy
      · exact recol_new h2 (hS.row.lt hx)
    · rw [upd_ne _ _ e] at hx
      exact (old (by rw [h.ca t ht x hx]; omega)).trans (h.ca t ht x hx)
  · obtain ⟨c1, c2, c3⟩ := h.cB t ht
    exact ⟨(old (by rw [c1]; decide)).trans c1, (old (by rw [c2]; decide)).trans c2, (old (by rw [c3]; decide)).trans c3⟩
/-- what a call of a pool may change -/
structure Fr (w : World) (col : Nat → Nat) (w' : World) (col' : Nat → Nat) : Prop where
  b : But (fun k => col k ≠ 0) w w'
  c : ∀ k, k < w.heap.size → col' k = col k
theorem Fr.refl (w : World) (col : Nat → Nat) : Fr w col w col := ⟨But.refl _ _, fun _ _ => rfl⟩
theorem Fr.trans {w w1 w2 : World} {c c1 c2 : Nat → Nat} (h : Fr w c w1 c1) (k : Fr w1 c1 w2 c2) : Fr w c w2 c2 :=
  ⟨h.b.trans k.b (fun x hx hn => by rw [h.c x hx] at hn; exact hn), fun x hx => (k.c x (Nat.lt_of_lt_of_le hx h.b.size)).trans (h.c x hx)⟩
theorem Fr.keep {w w' : World} {c : Nat → Nat} (h : Below w.heap.size w w') : Fr w c w' c := ⟨But.ofBelow h, fun _ _ => rfl⟩
theorem Fr.below {w w' w2 : World} {c c' : Nat → Nat} (h : Fr w c w' c') (hb : Below w'.heap.size w' w2) : Fr w c w2 c' := h.trans (Fr.keep hb)
/-- a pool -/
structure Pm (w : World) (b : Nat) (P : Po) (col : Nat → Nat) (D : Pd) : Prop where
  q : Pq w b P D col
  ok : P.Ok
  mem : ∀ s, s < 5 → ∀ z, has (D.L s) z = inS P.pg s z
def Pl (w : World) (b : Nat) (P : Po) (col : Nat → Nat) : Prop := ∃ D, Pm w b P col D
theorem Pl.keep {w w' : World} {b : Nat} {P : Po} {col : Nat → Nat} (h : Pl w b P col) (hb : Below w.heap.size w w') : Pl w' b P col := by
  obtain ⟨D, h⟩ := h
  exact ⟨D, h.q.keep hb, h.ok, h.mem⟩
theorem Pl.but {S : Nat → Prop} {w w' : World} {b : Nat} {P : Po} {col : Nat → Nat} (h : Pl w b P col) (hb : But S w w') (hn : ∀ k, col k ≠ 0 → ¬ S k) : Pl w' b P col := by
  obtain ⟨D, h⟩ := h
  exact ⟨D, h.q.but hb hn, h.ok, h.mem⟩
theorem Pl.lt {w : World} {b : Nat} {P : Po} {col : Nat → Nat} (h : Pl w b P col) : ∀ k, col k ≠ 0 → k < w.heap.size := by
  obtain ⟨D, h⟩ := h
  exact h.q.lt
theorem Pl.ok {w : World} {b : Nat} {P : Po} {col : Nat → Nat} (h : Pl w b P col) : P.Ok := by
  obtain ⟨D, h⟩ := h
  exact h.ok
theorem Pm.bnd {w : World} {b : Nat} {P : Po} {col : Nat → Nat} {D : Pd} (h : Pm w b P col D) {s : Nat} (hs : s < 5) : ∀ r ∈ D.L s, 1 ≤ r.1 ∧ r.2 ≤ 65536 := fun r hr => by
  have hle := (h.q.set s hs).can.1 r hr
  have h1 := (inS_iff.1 ((h.mem s hs r.1).symm.trans ((has_iff _ _).2 ⟨r, hr, Int.le_refl _, hle⟩))).1
  have h2 := (inS_iff.1 ((h.mem s hs r.2).symm.trans ((has_iff _ _).2 ⟨r, hr, hle, Int.le_refl _⟩))).2.1
  have := h.ok.l2
  omega
theorem can_few {L : List Rn} (hc : Can L) (hb : ∀ r ∈ L, 1 ≤ r.1 ∧ r.2 ≤ 65536) : L.length ≤ 65536 := by
  have := can_len 65536 L 1 hc hb (by omega)
  omega
theorem Pm.few {w : World} {b : Nat} {P : Po} {col : Nat → Nat} {D : Pd} (h : Pm w b P col D) {s : Nat} (hs : s < 5) : (D.L s).length ≤ 65536 := can_few (h.q.set s hs).can (h.bnd hs)
end Go.Proofs.YtceeeofkigkpkaaGreat
