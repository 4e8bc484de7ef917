import Derived.Test.YthfcgfdboienkabYF
import Derived.Test.YthfcgfdboienkabXC
import Derived.Test.YthfcgfdboienkabXM
import Derived.Test.YthfcgfdboienkabXB
import Derived.Test.YthfcgfdboienkabVL
namespace Go.Proofs.Ythfcgfdboienkab
open Go.RowKit

/-- a list of bytes of one's own -/
structure Br where
  a : Option Addr
  c : Nat
  l : List Nat
def brApart (s t : Br) : Prop := ∀ x y, s.a = some x → t.a = some y → x.block ≠ y.block
/-- lists of bytes that the call made behind the block gx, each in memory of its own -/
structure Fr (w W : World) (gx : Nat) (T : List Br) : Prop where
  rows : ∀ t ∈ T, Rw W t.a t.c t.l
  dist : T.Pairwise brApart
  low : ∀ t ∈ T, ∀ x, t.a = some x → gx < x.block
  b : Below w.heap.size w W
theorem Fr.keep {w W W' : World} {gx : Nat} {T : List Br} (h : Fr w W gx T) (hb : Below W.heap.size W W') : Fr w W' gx T :=
  ⟨fun t ht => (h.rows t ht).keep hb, h.dist, h.low, bt h.b hb⟩
theorem Fr.nil {w W : World} (gx : Nat) (hb : Below w.heap.size w W) : Fr w W gx [] := ⟨fun _ ht => (List.not_mem_nil ht).elim, List.Pairwise.nil, fun _ ht => (List.not_mem_nil ht).elim, hb⟩
theorem Fr.add {w W W' : World} {gx : Nat} {T : List Br} (h : Fr w W gx T) {a : Option Addr} {c : Nat} {l : List Nat} (ho : Own W W' a c l) (hg : gx < W.heap.size) : Fr w W' gx (T ++ [⟨a, c, l⟩]) := by
  have fresh : ∀ x, a = some x → W.heap.size ≤ x.block := fun x hx => own_fresh ho hx
  refine ⟨fun t ht => ?_, ?_, fun t ht x hx => ?_, bt h.b ho.b⟩
  · rcases List.mem_append.1 ht with ht | ht
    · exact (h.rows t ht).keep ho.b
    · rw [List.mem_singleton.1 ht]; exact ho.r
  · refine List.pairwise_append.2 ⟨h.dist, List.pairwise_singleton _ _, fun s hs t ht => ?_⟩
    rw [List.mem_singleton.1 ht]
    intro x y hx hy
    have h1 := (h.rows s hs).lt hx
    have h2 := fresh y hy
    omega
  · rcases List.mem_append.1 ht with ht | ht
    · exact h.low t ht x hx
    · rw [List.mem_singleton.1 ht] at hx
      have := fresh x hx
      omega
theorem Fr.add2 {w W W' : World} {gx : Nat} {T : List Br} (h : Fr w W gx T) {a a2 : Option Addr} {c c2 : Nat} {l l2 : List Nat} (ho : Own W W' a c l) (ho2 : Own W W' a2 c2 l2) (hne : ∀ x y, a = some x → a2 = some y → x.block ≠ y.block) (hg : gx < W.heap.size) : Fr w W' gx (T ++ [⟨a, c, l⟩, ⟨a2, c2, l2⟩]) := by
  have fresh : ∀ x, a = some x → W.heap.size ≤ x.block := fun x hx => own_fresh ho hx
  have fresh2 : ∀ x, a2 = some x → W.heap.size ≤ x.block := fun x hx => own_fresh ho2 hx
  refine ⟨fun t ht => ?_, ?_, fun t ht x hx => ?_, bt h.b ho.b⟩
  · rcases List.mem_append.1 ht with ht | ht
    · exact (h.rows t ht).keep ho.b
    · simp only [List.mem_cons, List.not_mem_nil, or_false] at ht
      rcases ht with rfl | rfl
      · exact ho.r
      · exact ho2.r
  · refine List.pairwise_append.2 ⟨h.dist, ?_, fun s hs t ht => ?_⟩
    · refine List.pairwise_cons.2 ⟨fun t ht => ?_, List.pairwise_singleton _ _⟩
      rw [List.mem_singleton.1 ht]
      exact hne
    · simp only [List.mem_cons, List.not_mem_nil, or_false] at ht
      intro x y hx hy
      have h1 := (h.rows s hs).lt hx
      rcases ht with rfl | rfl
      · have h2 := fresh y hy
        omega
      · have h2 := fresh2 y hy
        omega
  · rcases List.mem_append.1 ht with ht | ht
    · exact h.low t ht x hx
    · simp only [List.mem_cons, List.not_mem_nil, or_false] at ht
      rcases ht with rfl | rfl
      · have := fresh x hx
        omega
      · have := fresh2 x hx
        omega
theorem Fr.but {w W W' : World} {gx : Nat} {T : List Br} (h : Fr w W gx T) (hb : But (fun k => k = gx) W W') (hw : w.heap.size ≤ gx) : Fr w W' gx T :=
  ⟨fun t ht => (h.rows t ht).but hb fun x hx e => by have := h.low t ht x hx; omega, h.dist, h.low,
   ((But.ofBelow (S := fun k => k = gx) h.b).trans hb fun _ _ e => e).below fun k hk e => by omega⟩
theorem but_setCells {S : Nat → Prop} {w w' : World} {b o : Nat} (h : But S w w') (hs : S b) (vs : List Value) : But S w (w'.setCells b o vs) := by
  induction vs generalizing w' o with
  | nil => exact h
  | cons v vs ih => exact ih (h.setCell (p := ⟨b, o, none⟩) (fun _ => hs) v)
/-- the second list laid over the first -/
def mixL (L M : List VV) (j r : Nat) : VV := if r < j then M.getD r VV.zero else L.getD r VV.zero
def mixed (L M : List VV) : List VV := (List.range L.length).map (mixL L M (min L.length M.length))
theorem mixed_length (L M : List VV) : (mixed L M).length = L.length := by simp [mixed]
theorem mixed_get (L M : List VV) {r : Nat} (h : r < L.length) : (mixed L M).getD r VV.zero = mixL L M (min L.length M.length) r := by simp [mixed, h]
theorem mixed_all {L M : List VV} {p : VV → Prop} (hL : ∀ v ∈ L, p v) (hM : ∀ v ∈ M, p v) : ∀ v ∈ mixed L M, p v := by
  intro v hv
  obtain ⟨r, hr, rfl⟩ := List.mem_map.1 hv
  have hr := List.mem_range.1 hr
  unfold mixL
  split
  · exact hM _ (getD_mem (by omega))
  · exact hL _ (getD_mem hr)
/-- x, the first places laid over -/
structure Xs (W wx : World) (gx j : Nat) (L M : List VV) : Prop where
  t : wx.there gx 0 ((L.length + 2) * 6)
  r : ∀ r, r < L.length → wx.rangeAt gx (r * 6) (mixL L M j r).pc.toList
  b : But (fun k => k = gx) W wx
theorem Xs.start {W : World} {gx : Nat} {L M : List VV} (h : Ls W gx L) : Xs W W gx 0 L M :=
  ⟨h.1, fun r hr => by have := h.2 r (by omega); unfold lf at this; rw [if_pos hr] at this; unfold mixL; rw [if_neg (by omega)]; exact this, But.refl _ _⟩
theorem Xs.step {W wx w1 : World} {gx j : Nat} {L M : List VV} (h : Xs W wx gx j L M) (hb : Below wx.heap.size wx w1) (hj : j < L.length) : Xs W (w1.setCells gx (j * 6) (M.getD j VV.zero).pc.toList) gx (j + 1) L M := by
  have t1 := there_below h.t hb
  refine ⟨World.there_setCells t1 _ _ _, fun r hr => ?_, but_setCells (h.b.andBelow hb) rfl _⟩
  by_cases e : r = j
  · subst e
    rw [show mixL L M (r + 1) r = M.getD r VV.zero by unfold mixL; rw [if_pos (by omega)]]
    have t2 : w1.there gx (r * 6) (M.getD r VV.zero).pc.toList.length := by
      have := there_part (k := r * 6) (m := 6) t1 (by omega)
      rw [Nat.zero_add] at this
      exact this
    exact World.rangeAt_setCells_same _ _ _ _ t2
  · have := range_below (h.r r hr) hb
    rw [show mixL L M (j + 1) r = mixL L M j r by unfold mixL; by_cases h2 : r < j; rw [if_pos h2, if_pos (by omega)]; rw [if_neg h2, if_neg (by omega)]]
    refine World.rangeAt_setCells_apart this _ _ _ (.inr ?_)
    show r * 6 + 6 ≤ j * 6 ∨ j * 6 + 6 ≤ r * 6
    omega
theorem Xs.ps {W wx : World} {gx : Nat} {L M : List VV} (h : Xs W wx gx (min L.length M.length) L M) (hL : ∀ v ∈ L, v.ok) (hM : ∀ v ∈ M, v.ok) (hl : L.length ≤ 2199023255552) : Ps wx (some ⟨gx, 0, none⟩) (mixed L M) :=
  ⟨mixed_all hL hM, by rw [mixed_length]; exact hl, .inr ⟨gx, 0, rfl, fun r hr => by rw [mixed_length] at hr; rw [Nat.zero_add, mixed_get L M hr]; exact h.r r hr⟩⟩
theorem cells_rv {w : World} {b o : Nat} (v : VV) (h : w.there b o 7) : (storeCells ⟨b, o, none⟩ v.rc.toList).run Try.prog w = .ok () (w.setCells b o v.rc.toList) := by
  have := run_storeCells_cells (P := Try.prog) b o v.rc.toList 0 w (fun j hj => by simpa using (h j (by simpa [VV.rc] using hj)).1) (fun j hj => by simpa using (h j (by simpa [VV.rc] using hj)).2)
    (fun u hu => (Array.all_eq_true_iff_forall_mem.1 (rc_one v)) u (by simpa using hu))
  simpa using this
theorem make_v (n : Nat) (hn : n ≤ 2199023255560) (w : World) : (Instr.makeSlice 33 (.int .i64 (n : Int)) (.int .i64 (n : Int))).run Try.prog w = .ok (.slice (some ⟨w.heap.size, 0, none⟩) n n) (w.alloc (.cells (madeCells VV.zero.rc (n * 7)) 52)) := by
  obtain ⟨i0, hi, hz0, hz1, hz2⟩ := info_parts infoV
  have hr := run_make (P := Try.prog) w 33 52 i0 (.agg VV.zero.rc) Try.underlying33 hi hz0 .i64 .i64 n n (by omega) (by omega) (by rw [hz2]; omega) (by omega)
  simp only [Int.toNat_natCast, hz1] at hr
  exact hr
theorem there_made_r (w : World) (n : Nat) : (w.alloc (.cells (madeCells VV.zero.rc n) 52)).there w.heap.size 0 n := by
  intro j hj
  have hg := heap_alloc_new w (.cells (madeCells VV.zero.rc n) 52)
  rw [Nat.zero_add]
  constructor
  · rw [cell_of_row _ _ _ _ _ _ hg]
    simp [size_madeCells, hj]
  · exact frozen_of_row _ _ _ _ _ hg
/-- what now has so far -/
structure Ns (W wx : World) (j : Nat) (N : List VV) : Prop where
  t : wx.there W.heap.size 0 (N.length * 7)
  r : ∀ r, r < j → wx.rangeAt W.heap.size (r * 7) (N.getD r VV.zero).rc.toList
  b : Below W.heap.size W wx
theorem Ns.step {W wx w1 : World} {j : Nat} {N : List VV} (h : Ns W wx j N) (hb : Below wx.heap.size wx w1) (hj : j < N.length) : Ns W (w1.setCells W.heap.size (j * 7) (N.getD j VV.zero).rc.toList) (j + 1) N := by
  have t1 := there_below h.t hb
  refine ⟨World.there_setCells t1 _ _ _, fun r hr => ?_, below_setCells (bt h.b hb) (Nat.le_refl _) _⟩
  by_cases e : r = j
  · subst e
    have t2 : w1.there W.heap.size (r * 7) (N.getD r VV.zero).rc.toList.length := by
      have := there_part (k := r * 7) (m := 7) t1 (by omega)
      rw [Nat.zero_add] at this
      exact this
    exact World.rangeAt_setCells_same _ _ _ _ t2
  · have := range_below (h.r r (by omega)) hb
    refine World.rangeAt_setCells_apart this _ _ _ (.inr (.inl ?_))
    show r * 7 + 7 ≤ j * 7
    omega
theorem Ns.rs {W wx : World} {N : List VV} (h : Ns W wx N.length N) (hk : ∀ v ∈ N, v.ok) (hl : N.length ≤ 2199023255552) : Rs wx (some ⟨W.heap.size, 0, none⟩) N :=
  ⟨hk, hl, .inr ⟨_, 0, rfl, fun r hr => by rw [Nat.zero_add]; exact h.r r hr⟩⟩
theorem Ps.but {S : Nat → Prop} {w w' : World} {a : Option Addr} {L : List VV} (h : Ps w a L) (hb : But S w w') (hn : ∀ x, a = some x → ¬ S x.block) : Ps w' a L :=
  ⟨h.1, h.2.1, h.2.2.imp id fun ⟨b, off, e, hr⟩ => ⟨b, off, e, fun r hr2 => range_but (hr r hr2) hb (hn _ e)⟩⟩
end Go.Proofs.Ythfcgfdboienkab
