import Derived.Test.YtlkjpljfbmploaaSA
namespace Go.Proofs.Ytlkjpljfbmploaa
open Go.RowKit

/-- two pairs of writers, and where they stand -/
structure Two (w : World) (bX bA b0 b1 : Nat) (F0 F1 : Nat → Prop) (z n0 n1 : Nat) (s0 s1 : WS) : Prop where
  x : w.heap[bX]? = some (.cells #[.pointer (some ⟨b0, 0, none⟩), .pointer (some ⟨b1, 0, none⟩)] 63 (0, 0))
  xz : bX < z
  a : Work w b0 F0 n0 s0
  b : Work w b1 F1 n1 s1
  fa : ∀ k, F0 k → z ≤ k ∧ k ≠ bA
  fb : ∀ k, F1 k → z ≤ k ∧ k ≠ bA
  d : ∀ k, F0 k → ¬ F1 k
section
variable {w w' : World} {bX bA b0 b1 : Nat} {F0 F1 : Nat → Prop} {z n0 n1 : Nat} {s0 s1 : WS}
theorem Two.x0 (h : Two w bX bA b0 b1 F0 F1 z n0 n1 s0 s1) : w.cell? ⟨bX, 0, none⟩ = some (.pointer (some ⟨b0, 0, none⟩)) := by rw [cell_of_row _ _ _ _ _ _ h.x]; rfl
theorem Two.x1 (h : Two w bX bA b0 b1 F0 F1 z n0 n1 s0 s1) : w.cell? ⟨bX, 1, none⟩ = some (.pointer (some ⟨b1, 0, none⟩)) := by rw [cell_of_row _ _ _ _ _ _ h.x]; rfl
theorem Two.lt (h : Two w bX bA b0 b1 F0 F1 z n0 n1 s0 s1) : bX < w.heap.size := (Array.getElem?_eq_some_iff.1 h.x).1
theorem Two.but {S : Nat → Prop} (h : Two w bX bA b0 b1 F0 F1 z n0 n1 s0 s1) (hb : But S w w') (hX : ¬ S bX) (h0 : ∀ k, F0 k → ¬ S k) (h1 : ∀ k, F1 k → ¬ S k) : Two w' bX bA b0 b1 F0 F1 z n0 n1 s0 s1 :=
  ⟨(hb.block bX h.lt hX).trans h.x, h.xz, h.a.but hb h0, h.b.but hb h1, h.fa, h.fb, h.d⟩
theorem Two.keep (h : Two w bX bA b0 b1 F0 F1 z n0 n1 s0 s1) (hb : Below w.heap.size w w') : Two w' bX bA b0 b1 F0 F1 z n0 n1 s0 s1 := h.but (S := fun _ => False) (But.ofBelow hb) id (fun _ _ h => h) fun _ _ h => h
/-- the first has done something -/
theorem Two.do0 {n : Nat} {s : WS} (h : Two w bX bA b0 b1 F0 F1 z n0 n1 s0 s1) (hz : z ≤ w.heap.size) (hA : bA < w.heap.size) (hw : Work w' b0 (ext F0 w w') n s) (hb : But F0 w w') : Two w' bX bA b0 b1 (ext F0 w w') F1 z n n1 s s1 := by
  refine ⟨(hb.block bX h.lt fun hk => by have := (h.fa _ hk).1; have := h.xz; omega).trans h.x, h.xz, hw, h.b.but hb fun k hk h0 => h.d k h0 hk, fun k hk => ?_, h.fb, fun k hk h1 => ?_⟩
  · rcases hk with hk | hk
    · exact h.fa k hk
    · exact ⟨by omega, by omega⟩
  · rcases hk with hk | hk
    · exact h.d k hk h1
    · have := h.b.lt k h1; omega
/-- the second has done something -/
theorem Two.do1 {n : Nat} {s : WS} (h : Two w bX bA b0 b1 F0 F1 z n0 n1 s0 s1) (hz : z ≤ w.heap.size) (hA : bA < w.heap.size) (hw : Work w' b1 (ext F1 w w') n s) (hb : But F1 w w') : Two w' bX bA b0 b1 F0 (ext F1 w w') z n0 n s0 s := by
  refine ⟨(hb.block bX h.lt fun hk => by have := (h.fb _ hk).1; have := h.xz; omega).trans h.x, h.xz, h.a.but hb fun k hk h0 => h.d k hk h0, hw, h.fa, fun k hk => ?_, fun k hk h1 => ?_⟩
  · rcases hk with hk | hk
    · exact h.fb k hk
    · exact ⟨by omega, by omega⟩
  · rcases h1 with h1 | h1
    · exact h.d k hk h1
    · have := h.a.lt k hk; omega
end
theorem set_alloc (w : World) (p : Addr) (v : Value) (o : Obj) (h : p.block < w.heap.size) : (w.setCell p v).alloc o = (w.alloc o).setCell p v := by
  simp only [World.setCell, World.alloc]
  congr 1
  apply Array.ext_getElem?
  intro i
  simp [Array.getElem?_modify, Array.getElem?_push]
  by_cases e : i = w.heap.size
  · subst e; simp [show p.block ≠ w.heap.size by omega]
  · simp [e]
/-- a pair of writers is made and laid into the array -/
theorem made {w w1 w2 : World} {m : Int} {bX i : Nat} {cs : Array Value} (hX : w.heap[bX]? = some (.cells cs 63 (0, 0))) (h1 : Wt 68 w1 w.heap.size none 0 ⟨clamp m, [], 0⟩) (hb1 : Below w.heap.size w w1) (h2 : Wt 65 w2 w1.heap.size none 0 ⟨clamp m, [], 0⟩) (hb2 : Below w1.heap.size w1 w2) (v : Value) :
    bX < w2.heap.size ∧ w2.heap[bX]? = some (.cells cs 63 (0, 0)) ∧
    Hid (Work ((w2.setCell ⟨bX, i, none⟩ v).alloc (.cells #[.pointer (some ⟨w.heap.size, 0, none⟩), .pointer (some ⟨w1.heap.size, 0, none⟩), .slice none 0 0] 30)) w2.heap.size (ext (fun _ => False) w (w2.alloc (.cells #[.pointer (some ⟨w.heap.size, 0, none⟩), .pointer (some ⟨w1.heap.size, 0, none⟩), .slice none 0 0] 30))) 0 ⟨clamp m, [], 0⟩ ∧
      But (fun k => k = bX) w ((w2.setCell ⟨bX, i, none⟩ v).alloc (.cells #[.pointer (some ⟨w.heap.size, 0, none⟩), .pointer (some ⟨w1.heap.size, 0, none⟩), .slice none 0 0] 30)) ∧
      ((w2.setCell ⟨bX, i, none⟩ v).alloc (.cells #[.pointer (some ⟨w.heap.size, 0, none⟩), .pointer (some ⟨w1.heap.size, 0, none⟩), .slice none 0 0] 30)).heap[bX]? = some (.cells (cs.setIfInBounds i v) 63 (0, 0)) ∧
      ((w2.setCell ⟨bX, i, none⟩ v).alloc (.cells #[.pointer (some ⟨w.heap.size, 0, none⟩), .pointer (some ⟨w1.heap.size, 0, none⟩), .slice none 0 0] 30)).cell? ⟨w2.heap.size, 0, none⟩ = some (.pointer (some ⟨w.heap.size, 0, none⟩))) := by
  have hlt := (Array.getElem?_eq_some_iff.1 hX).1
  have hb : Below w.heap.size w w2 := bt hb1 hb2
  have hs := hb.size
  have hX2 : w2.heap[bX]? = some (.cells cs 63 (0, 0)) := (hb.block bX hlt).trans hX
  have b3 : Below w2.heap.size w2 (w2.alloc (.cells #[.pointer (some ⟨w.heap.size, 0, none⟩), .pointer (some ⟨w1.heap.size, 0, none⟩), .slice none 0 0] 30)) := (Below.refl _ _).alloc (Nat.le_refl _) _
  have hX3 := (b3.block bX (by omega)).trans hX2
  have hc : (w2.alloc (.cells #[.pointer (some ⟨w.heap.size, 0, none⟩), .pointer (some ⟨w1.heap.size, 0, none⟩), .slice none 0 0] 30)).cell? ⟨w2.heap.size, 0, none⟩ = some (.pointer (some ⟨w.heap.size, 0, none⟩)) := by simp
  rw [set_alloc w2 ⟨bX, i, none⟩ v _ (show bX < w2.heap.size by omega)]
  refine ⟨by omega, hX2, (newWork h1 hb1 h2 hb2).but (But.cell1 _ _ _ _) ?_, (But.ofBelow (bt hb b3)).trans (But.cell1 _ _ _ _) fun _ _ h => h, heap_setCell_same _ bX i _ _ _ hX3, ?_⟩
  · rintro k (h | h) e
    · exact h
    · have : k = bX := e
      omega
  · exact ((But.cell1 _ bX i v).cell (p := ⟨w2.heap.size, 0, none⟩) (block_lt_of_cell hc) (fun e => by have : w2.heap.size = bX := e; omega)).trans hc
theorem alloc3 (w : World) (c1 c2 c3 : Array Value) (T1 T2 T3 : TypeId) : (((w.alloc (.cells c1 T1)).alloc (.cells c2 T2)).alloc (.cells c3 T3)).heap[w.heap.size]? = some (.cells c1 T1 (0, 0)) ∧ (((w.alloc (.cells c1 T1)).alloc (.cells c2 T2)).alloc (.cells c3 T3)).heap[w.heap.size + 1]? = some (.cells c2 T2 (0, 0)) ∧ (((w.alloc (.cells c1 T1)).alloc (.cells c2 T2)).alloc (.cells c3 T3)).heap[w.heap.size + 1 + 1]? = some (.cells c3 T3 (0, 0)) ∧ (((w.alloc (.cells c1 T1)).alloc (.cells c2 T2)).alloc (.cells c3 T3)).heap.size = w.heap.size + 1 + 1 + 1 ∧ Below w.heap.size w (((w.alloc (.cells c1 T1)).alloc (.cells c2 T2)).alloc (.cells c3 T3)) := by
  have b1 : ∀ (u : World) (o : Obj), Below u.heap.size u (u.alloc o) := fun u o => (Below.refl _ _).alloc (Nat.le_refl _) _
  have e1 := heap_alloc_new w (.cells c1 T1)
  have e2 := heap_alloc_new (w.alloc (.cells c1 T1)) (.cells c2 T2)
  have e3 := heap_alloc_new ((w.alloc (.cells c1 T1)).alloc (.cells c2 T2)) (.cells c3 T3)
  rw [size_alloc] at e2
  rw [size_alloc, size_alloc] at e3
  refine ⟨?_, ?_, e3, by rw [size_alloc, size_alloc, size_alloc], bt (bt (b1 _ _) (b1 _ _)) (b1 _ _)⟩
  · exact ((b1 _ _).block _ (by rw [size_alloc, size_alloc]; omega)).trans (((b1 _ _).block _ (by rw [size_alloc]; omega)).trans e1)
  · exact ((b1 _ _).block _ (by rw [size_alloc, size_alloc]; omega)).trans e2
/-- the first pair of writers -/
def One (w : World) (bX b0 : Nat) (F0 : Nat → Prop) (z : Nat) (s0 : WS) : Prop :=
  w.heap[bX]? = some (.cells #[.pointer (some ⟨b0, 0, none⟩), .pointer none] 63 (0, 0)) ∧ bX < z ∧ Work w b0 F0 0 s0 ∧ ∀ k, F0 k → z ≤ k
theorem Two.newA {w : World} {bX bA b0 b1 : Nat} {F0 F1 : Nat → Prop} {z n0 n1 : Nat} {s0 s1 : WS} (h : Two w bX bA b0 b1 F0 F1 z n0 n1 s0 s1) (o : Obj) : Two (w.alloc o) bX w.heap.size b0 b1 F0 F1 z n0 n1 s0 s1 := by
  have h' := h.keep ((Below.refl _ _).alloc (Nat.le_refl _) o)
  exact ⟨h'.x, h.xz, h'.a, h'.b, fun k hk => ⟨(h.fa k hk).1, by have := h.a.lt k hk; omega⟩, fun k hk => ⟨(h.fb k hk).1, by have := h.b.lt k hk; omega⟩, h.d⟩
theorem one_made {w w9 : World} {bX b z : Nat} {F : Nat → Prop} {s : WS} {cs : Array Value} (hX : w9.heap[bX]? = some (.cells cs 63 (0, 0))) (hcs : cs = #[.pointer (some ⟨b, 0, none⟩), .pointer none]) (hz : bX < z) (hzw : z ≤ w.heap.size) (hW : Work w9 b F 0 s) (hF : ∀ k, F k → w.heap.size ≤ k) : One w9 bX b F z s :=
  ⟨hcs ▸ hX, hz, hW, fun k hk => Nat.le_trans hzw (hF k hk)⟩
theorem two_made {w w9 : World} {bX b0 b z : Nat} {F0 F : Nat → Prop} {s0 s : WS} {cs : Array Value} (h : One w bX b0 F0 z s0) (hb : But (fun k => k = bX) w w9) (hX : w9.heap[bX]? = some (.cells cs 63 (0, 0))) (hcs : cs = #[.pointer (some ⟨b0, 0, none⟩), .pointer (some ⟨b, 0, none⟩)]) (hzw : z ≤ w.heap.size) (hW : Work w9 b F 0 s) (hF : ∀ k, F k → w.heap.size ≤ k) : Two w9 bX bX b0 b F0 F z 0 0 s0 s :=
  ⟨hcs ▸ hX, h.2.1, h.2.2.1.but hb (fun k hk e => by have := h.2.2.2 k hk; have := h.2.1; have : k = bX := e; omega), hW, fun k hk => ⟨h.2.2.2 k hk, by have := h.2.2.2 k hk; have := h.2.1; omega⟩, fun k hk => ⟨Nat.le_trans hzw (hF k hk), by have := hF k hk; have := h.2.1; omega⟩, fun k hk h1 => by have := hF k h1; have := h.2.2.1.lt k hk; omega⟩
theorem ext_new {w w' : World} : ∀ k, ext (fun _ => False) w w' k → w.heap.size ≤ k := fun k hk => by
  rcases hk with h | h
  · exact h.elim
  · exact h.1
/-- where the first loop over the turns stands -/
structure St (W3 w : World) (bX bA b0 b1 l0 l1 : Nat) (F0 F1 : Nat → Prop) (p0 p1 n0 n1 : Nat) (s0 s1 : WS) : Prop where
  two : Two w bX bA b0 b1 F0 F1 (bX + 1) n0 n1 s0 s1
  ar : w.heap[bA]? = some (.cells #[.int .i64 (p0 : Int), .int .i64 (p1 : Int)] 60 (0, 0))
  g0 : p0 ≤ l0
  g1 : p1 ≤ l1
  h0 : n0 ≤ p0
  h1 : n1 ≤ p1
  base : But (fun k => k = bX) W3 w
  hA : bX + 1 ≤ bA
  hz : W3.heap.size = bX + 1
section
variable {W3 w w' : World} {bX bA b0 b1 l0 l1 : Nat} {F0 F1 : Nat → Prop} {p0 p1 n0 n1 : Nat} {s0 s1 : WS}
theorem St.at0 (h : St W3 w bX bA b0 b1 l0 l1 F0 F1 p0 p1 n0 n1 s0 s1) : w.cell? ⟨bA, 0, none⟩ = some (.int .i64 (p0 : Int)) := by rw [cell_of_row _ _ _ _ _ _ h.ar]; rfl
theorem St.at1 (h : St W3 w bX bA b0 b1 l0 l1 F0 F1 p0 p1 n0 n1 s0 s1) : w.cell? ⟨bA, 1, none⟩ = some (.int .i64 (p1 : Int)) := by rw [cell_of_row _ _ _ _ _ _ h.ar]; rfl
theorem St.lt (h : St W3 w bX bA b0 b1 l0 l1 F0 F1 p0 p1 n0 n1 s0 s1) : bA < w.heap.size := (Array.getElem?_eq_some_iff.1 h.ar).1
theorem St.old (h : St W3 w bX bA b0 b1 l0 l1 F0 F1 p0 p1 n0 n1 s0 s1) {p : Addr} {v : Value} (hp : p.block < bX) (hv : W3.cell? p = some v) : w.cell? p = some v :=
  (h.base.cell (by rw [h.hz]; omega) (fun e => by have : p.block = bX := e; omega)).trans hv
theorem St.keep (h : St W3 w bX bA b0 b1 l0 l1 F0 F1 p0 p1 n0 n1 s0 s1) (hb : Below w.heap.size w w') : St W3 w' bX bA b0 b1 l0 l1 F0 F1 p0 p1 n0 n1 s0 s1 :=
  ⟨h.two.keep hb, (hb.block bA h.lt).trans h.ar, h.g0, h.g1, h.h0, h.h1, h.base.andBelow hb, h.hA, h.hz⟩
theorem St.step0 {n : Nat} {s : WS} (h : St W3 w bX bA b0 b1 l0 l1 F0 F1 p0 p1 n0 n1 s0 s1) (hw : Work w' b0 (ext F0 w w') n s) (hb : But F0 w w') (hn : n ≤ p0 + 1) (hp : p0 < l0) :
    w'.cell? ⟨bA, 0, none⟩ = some (.int .i64 (p0 : Int)) ∧ w'.frozen? ⟨bA, 0, none⟩ = false ∧ Hid (St W3 (w'.setCell ⟨bA, 0, none⟩ (.int .i64 ((p0 + 1 : Nat) : Int))) bX bA b0 b1 l0 l1 (ext F0 w w') F1 (p0 + 1) p1 n n1 s s1) := by
  have hzw : bX + 1 ≤ w.heap.size := h.hz ▸ h.base.size
  have h2 := h.two.do0 hzw h.lt hw hb
  have ha : w'.heap[bA]? = _ := (hb.block bA h.lt fun hk => (h.two.fa _ hk).2 rfl).trans h.ar
  have hA := h.hA
  refine ⟨by rw [cell_of_row _ _ _ _ _ _ ha]; rfl, frozen_of_row w' bA 0 _ _ ha, ⟨h2.but (But.cell1 _ _ _ _) (fun e => by have : bX = bA := e; omega) (fun k hk e => (h2.fa k hk).2 e) (fun k hk e => (h2.fb k hk).2 e), heap_setCell_same w' bA 0 _ _ _ ha, hp, h.g1, hn, h.h1, ?_, h.hA, h.hz⟩⟩
  exact (h.base.trans hb fun k hk hf => by have := (h.two.fa k hf).1; have := h.hz; omega).trans (But.cell1 _ _ _ _) fun k hk e => by have : k = bA := e; have := h.hz; omega
theorem St.step1 {n : Nat} {s : WS} (h : St W3 w bX bA b0 b1 l0 l1 F0 F1 p0 p1 n0 n1 s0 s1) (hw : Work w' b1 (ext F1 w w') n s) (hb : But F1 w w') (hn : n ≤ p1 + 1) (hp : p1 < l1) :
    w'.cell? ⟨bA, 1, none⟩ = some (.int .i64 (p1 : Int)) ∧ w'.frozen? ⟨bA, 1, none⟩ = false ∧ Hid (St W3 (w'.setCell ⟨bA, 1, none⟩ (.int .i64 ((p1 + 1 : Nat) : Int))) bX bA b0 b1 l0 l1 F0 (ext F1 w w') p0 (p1 + 1) n0 n s0 s) := by
  have hzw : bX + 1 ≤ w.heap.size := h.hz ▸ h.base.size
  have h2 := h.two.do1 hzw h.lt hw hb
  have ha : w'.heap[bA]? = _ := (hb.block bA h.lt fun hk => (h.two.fb _ hk).2 rfl).trans h.ar
  have hA := h.hA
  refine ⟨by rw [cell_of_row _ _ _ _ _ _ ha]; rfl, frozen_of_row w' bA 1 _ _ ha, ⟨h2.but (But.cell1 _ _ _ _) (fun e => by have : bX = bA := e; omega) (fun k hk e => (h2.fa k hk).2 e) (fun k hk e => (h2.fb k hk).2 e), heap_setCell_same w' bA 1 _ _ _ ha, h.g0, hp, h.h0, hn, ?_, h.hA, h.hz⟩⟩
  exact (h.base.trans hb fun k hk hf => by have := (h.two.fb k hf).1; have := h.hz; omega).trans (But.cell1 _ _ _ _) fun k hk e => by have : k = bA := e; have := h.hz; omega
/-- a world that is old enough -/
theorem St.below {w0 : World} (h : St W3 w bX bA b0 b1 l0 l1 F0 F1 p0 p1 n0 n1 s0 s1) (hb : Below w0.heap.size w0 W3) (hx : w0.heap.size ≤ bX) : Below w0.heap.size w0 w := belowOf hb h.base fun x hx' => by have : x = bX := hx'; omega
end
theorem kept {w w8 : World} {F : Nat → Prop} {bX bS bA i b o : Nat} {v1 v2 v3 : Value} {f : Fd} (hb : But F w w8) (hF : ∀ k, F k → bX + 1 ≤ k ∧ k ≠ bA) (k3 : w.cell? ⟨bX, i, none⟩ = some v3) (k2 : w.cell? ⟨bS, i, none⟩ = some v2) (hS : bS < bX) (k1 : w.cell? ⟨bA, i, none⟩ = some v1) (hat : FdAt w b o f) (hbf : b < bX) :
    (w8.cell? ⟨bX, i, none⟩ = some v3 ∧ w8.cell? ⟨bS, i, none⟩ = some v2 ∧ w8.cell? ⟨bA, i, none⟩ = some v1) ∧ FdAt w8 b o f :=
  ⟨⟨(hb.cell (p := ⟨bX, i, none⟩) (block_lt_of_cell k3) fun h => by have := (hF _ h).1; dsimp only at this; omega).trans k3, (hb.cell (p := ⟨bS, i, none⟩) (block_lt_of_cell k2) fun h => by have := (hF _ h).1; dsimp only at this; omega).trans k2, (hb.cell (p := ⟨bA, i, none⟩) (block_lt_of_cell k1) fun h => (hF _ h).2 rfl).trans k1⟩, hat.but hb fun h => by have := (hF _ h).1; omega⟩
/-- where the loop over the readers stands -/
structure Fin (W3 w : World) (bX bA b0 b1 bl1 bl2 : Nat) (F0 F1 G1 G2 : Nat → Prop) (v n0 n1 : Nat) (s0 s1 : WS) : Prop where
  two : Two w bX bA b0 b1 F0 F1 (bX + 1) n0 n1 s0 s1
  k1 : Look w bl1 G1 0 true
  k2 : Look w bl2 G2 0 true
  f0 : ∀ k, F0 k → k < v
  f1 : ∀ k, F1 k → k < v
  g1 : ∀ k, G1 k → v ≤ k
  g2 : ∀ k, G2 k → v ≤ k
  d : ∀ k, G1 k → ¬ G2 k
  xv : bX + 1 ≤ v
  base : But (fun k => k = bX) W3 w
  hz : W3.heap.size = bX + 1
section
variable {W3 w w' : World} {bX bA b0 b1 bl1 bl2 : Nat} {F0 F1 G1 G2 : Nat → Prop} {v n0 n1 : Nat} {s0 s1 : WS}
theorem Fin.do1 (h : Fin W3 w bX bA b0 b1 bl1 bl2 F0 F1 G1 G2 v n0 n1 s0 s1) (hv : v ≤ w.heap.size) (hk : Look w' bl1 (ext G1 w w') 0 true) (hb : But G1 w w') : Fin W3 w' bX bA b0 b1 bl1 bl2 F0 F1 (ext G1 w w') G2 v n0 n1 s0 s1 := by
  have hxv := h.xv
  refine ⟨h.two.but hb (fun e => by have := h.g1 _ e; omega) (fun k h0 h1 => by have := h.f0 k h0; have := h.g1 k h1; omega) (fun k h0 h1 => by have := h.f1 k h0; have := h.g1 k h1; omega), hk, h.k2.but hb (fun k h2 h1 => h.d k h1 h2), h.f0, h.f1, fun k hk => ?_, h.g2, fun k hk h2 => ?_, h.xv, h.base.trans hb fun k hk h1 => by have := h.g1 k h1; have := h.hz; omega, h.hz⟩
  · rcases hk with hk | hk
    · exact h.g1 k hk
    · omega
  · rcases hk with hk | hk
    · exact h.d k hk h2
    · have := h.k2.1 k h2; omega
theorem Fin.do2 (h : Fin W3 w bX bA b0 b1 bl1 bl2 F0 F1 G1 G2 v n0 n1 s0 s1) (hv : v ≤ w.heap.size) (hk : Look w' bl2 (ext G2 w w') 0 true) (hb : But G2 w w') : Fin W3 w' bX bA b0 b1 bl1 bl2 F0 F1 G1 (ext G2 w w') v n0 n1 s0 s1 := by
  have hxv := h.xv
  refine ⟨h.two.but hb (fun e => by have := h.g2 _ e; omega) (fun k h0 h1 => by have := h.f0 k h0; have := h.g2 k h1; omega) (fun k h0 h1 => by have := h.f1 k h0; have := h.g2 k h1; omega), h.k1.but hb (fun k h2 h1 => h.d k h2 h1), hk, h.f0, h.f1, h.g1, fun k hk => ?_, fun k h1 hk => ?_, h.xv, h.base.trans hb fun k hk h1 => by have := h.g2 k h1; have := h.hz; omega, h.hz⟩
  · rcases hk with hk | hk
    · exact h.g2 k hk
    · omega
  · rcases hk with hk | hk
    · exact h.d k h1 hk
    · have := h.k1.1 k h1; omega
theorem Fin.below {w0 : World} (h : Fin W3 w bX bA b0 b1 bl1 bl2 F0 F1 G1 G2 v n0 n1 s0 s1) (hb : Below w0.heap.size w0 W3) (hx : w0.heap.size ≤ bX) : Below w0.heap.size w0 w := belowOf hb h.base fun x hx' => by have : x = bX := hx'; omega
/-- the loop over the readers begins -/
theorem fin_start {w6 w9 w12 : World} {l0 l1 p0 p1 : Nat} (h : St W3 w bX bA b0 b1 l0 l1 F0 F1 p0 p1 n0 n1 s0 s1) (hb6 : Below w.heap.size w w6) (h9 : Look w9 bl1 (ext (fun _ => False) w6 w9) 0 true) (hb9 : Below w6.heap.size w6 w9) (h12 : Look w12 bl2 (ext (fun _ => False) w9 w12) 0 true) (hb12 : Below w9.heap.size w9 w12) :
    Fin W3 w12 bX bA b0 b1 bl1 bl2 F0 F1 (ext (fun _ => False) w6 w9) (ext (fun _ => False) w9 w12) w6.heap.size n0 n1 s0 s1 ∧ w6.heap.size ≤ w12.heap.size := by
  have hs6 := hb6.size
  have hs9 := hb9.size
  have hs12 := hb12.size
  have hB := bt (bt hb6 hb9) hb12
  have hzw : bX + 1 ≤ w.heap.size := h.hz ▸ h.base.size
  refine ⟨⟨h.two.keep hB, h9.but (S := fun _ => False) (But.ofBelow hb12) (fun _ _ h => h), h12, fun k hk => Nat.lt_of_lt_of_le (h.two.a.lt k hk) hs6, fun k hk => Nat.lt_of_lt_of_le (h.two.b.lt k hk) hs6, ext_new, fun k hk => Nat.le_trans hs9 (ext_new k hk), fun k h1 h2 => ?_, by omega, h.base.andBelow hB, h.hz⟩, by omega⟩
  have h3 := ext_new k h2
  rcases h1 with h1 | h1
  · exact h1
  · omega
theorem Look.c0 {G : Nat → Prop} {N : Nat} {b : Bool} (h : Look w bl1 G N b) : ∃ bp, w.cell? ⟨bl1, 0, none⟩ = some (.pointer (some ⟨bp, 0, none⟩)) := by
  obtain ⟨_, bp, ap, cp, bq, aq, cq, full, at', ct, n, A, C, L, s, _, hc, _⟩ := h
  exact ⟨bp, hc.fx0⟩
end
theorem kind_rem (j : Nat) : (⟨2 - ((j % 2 : Nat) : Int), 0, none, 0, [], 0⟩ : Fd).kind = 1 ∨ (⟨2 - ((j % 2 : Nat) : Int), 0, none, 0, [], 0⟩ : Fd).kind = 2 ∨ (⟨2 - ((j % 2 : Nat) : Int), 0, none, 0, [], 0⟩ : Fd).kind = 6 ∨ (⟨2 - ((j % 2 : Nat) : Int), 0, none, 0, [], 0⟩ : Fd).kind = 7 ∨ (⟨2 - ((j % 2 : Nat) : Int), 0, none, 0, [], 0⟩ : Fd).kind = 9 := by
  dsimp only
  omega
theorem tmod_two (j : Nat) : (j : Int).tmod 2 = ((j % 2 : Nat) : Int) := by
  rw [Int.tmod_eq_emod_of_nonneg (by omega)]
  omega
end Go.Proofs.Ytlkjpljfbmploaa
