import Derived.Test.YtlkjpljfbmploaaAB
import Derived.Test.YtlkjpljfbmploaaBC
namespace Go.Proofs.Ytlkjpljfbmploaa
open Go.RowKit

theorem ne_type {w : World} {b b' : Nat} {c c' : Array Value} {T T' : TypeId} {f f' : Nat × Nat} (h : w.heap[b]? = some (.cells c T f)) (h' : w.heap[b']? = some (.cells c' T' f')) (hT : T ≠ T') : b ≠ b' := by
  intro e
  subst e
  rw [h] at h'
  simp only [Option.some.injEq, Obj.cells.injEq] at h'
  exact hT h'.2.1
theorem Rw.type {w : World} {a : Option Addr} {c : Nat} {l : List Nat} (h : Rw w a c l) {x : Addr} (hx : a = some x) : ∃ cur, w.heap[x.block]? = some (.cells cur 5 (0, 0)) := by
  rcases h.cases with ⟨rfl, _⟩ | ⟨g, cur, rfl, hg, _⟩
  · cases hx
  · simp only [Option.some.injEq] at hx; subst hx; exact ⟨cur, hg⟩
theorem Ar.type {w : World} {a : Option Addr} {c : Nat} {vs : List Value} (h : Ar w a c vs) {x : Addr} (hx : a = some x) : ∃ cur, w.heap[x.block]? = some (.cells cur 33 (0, 0)) := by
  rcases h.cases with ⟨rfl, _⟩ | ⟨g, cur, rfl, hg, _⟩
  · cases hx
  · simp only [Option.some.injEq] at hx; subst hx; exact ⟨cur, hg⟩
/-- what was told: lists of bytes, each in memory of its own -/
def Told (w : World) (at' : Option Addr) (ct n : Nat) (A : Nat → Option Addr) (C : Nat → Nat) (L : Nat → List Nat) : Prop :=
  Ar w at' ct ((List.range n).map fun i => Value.slice (A i) (L i).length (C i)) ∧ RowsG w n A C L ∧ Dist n A ∧ ∀ i, i < n → (L i).length + 20 ≤ 140737488355328
def TF (at' : Option Addr) (n : Nat) (A : Nat → Option Addr) (k : Nat) : Prop := (∃ x, at' = some x ∧ x.block = k) ∨ InRows n A k
theorem Told.but {S : Nat → Prop} {w w' : World} {at' : Option Addr} {ct n : Nat} {A : Nat → Option Addr} {C : Nat → Nat} {L : Nat → List Nat} (h : Told w at' ct n A C L) (hb : But S w w') (hn : ∀ k, TF at' n A k → ¬ S k) : Told w' at' ct n A C L :=
  ⟨h.1.but hb fun x hx => hn _ (.inl ⟨x, hx, rfl⟩), fun i hi => (h.2.1 i hi).but hb fun x hx => hn _ (.inr ⟨i, hi, x, hx, rfl⟩), h.2.2⟩
theorem Told.nil (w : World) (A : Nat → Option Addr) (C : Nat → Nat) (L : Nat → List Nat) : Told w none 0 0 A C L := ⟨Ar.nil w, fun i hi => by omega, fun i j hi => by omega, fun i hi => by omega⟩
theorem Told.lt {w : World} {at' : Option Addr} {ct n : Nat} {A : Nat → Option Addr} {C : Nat → Nat} {L : Nat → List Nat} (h : Told w at' ct n A C L) {k : Nat} (hk : TF at' n A k) : k < w.heap.size := by
  rcases hk with ⟨x, hx, rfl⟩ | ⟨i, hi, x, hx, rfl⟩
  · exact h.1.lt hx
  · exact (h.2.1 i hi).lt hx
/-- the blocks of what was told have types of their own -/
theorem Told.type {w : World} {at' : Option Addr} {ct n : Nat} {A : Nat → Option Addr} {C : Nat → Nat} {L : Nat → List Nat} (h : Told w at' ct n A C L) {k b : Nat} {c : Array Value} {T : TypeId} {f : Nat × Nat} (hk : TF at' n A k) (hb : w.heap[b]? = some (.cells c T f)) (h1 : T ≠ 5) (h2 : T ≠ 33) : k ≠ b := by
  rcases hk with ⟨x, hx, rfl⟩ | ⟨i, hi, x, hx, rfl⟩
  · obtain ⟨cur, hg⟩ := h.1.type hx
    exact ne_type hg hb h2.symm
  · obtain ⟨cur, hg⟩ := (h.2.1 i hi).type hx
    exact ne_type hg hb h1.symm
/-- a writer's bytes lie apart from what was told -/
def Sep (a : Option Addr) (n : Nat) (A : Nat → Option Addr) : Prop := ∀ i, i < n → ∀ x y, A i = some x → a = some y → x.block ≠ y.block
theorem Sep.new {w : World} {a a' : Option Addr} {n : Nat} {A : Nat → Option Addr} (h : Sep a n A) (hN : New w a a') (hlt : ∀ i, i < n → ∀ x, A i = some x → x.block < w.heap.size) : Sep a' n A := by
  intro i hi x y hx hy e
  rcases hN y hy with ⟨z, hz, e2⟩ | h2
  · exact h i hi x z hx hz (e.trans e2.symm)
  · have := hlt i hi x hx; omega

structure Core (w : World) (bx bw : Nat) (aw : Option Addr) (cw br : Nat) (ar : Option Addr) (cr : Nat) (at' : Option Addr) (ct n : Nat) (A : Nat → Option Addr) (C : Nat → Nat) (L : Nat → List Nat) (s t : WS) : Prop where
  x : w.heap[bx]? = some (.cells #[.pointer (some ⟨bw, 0, none⟩), .pointer (some ⟨br, 0, none⟩), .slice at' n ct] 30 (0, 0))
  p : Wt 68 w bw aw cw s
  r : Wt 65 w br ar cr t
  told : Told w at' ct n A C L
  ab : ∀ x y, aw = some x → ar = some y → x.block ≠ y.block
  sw : Sep aw n A
  sr : Sep ar n A
section
variable {w w1 : World} {bx bw : Nat} {aw : Option Addr} {cw br : Nat} {ar : Option Addr} {cr : Nat} {at' : Option Addr} {ct n : Nat} {A : Nat → Option Addr} {C : Nat → Nat} {L : Nat → List Nat} {s t s1 : WS}
/-- all blocks -/
def CF (bx bw : Nat) (aw : Option Addr) (br : Nat) (ar : Option Addr) (at' : Option Addr) (n : Nat) (A : Nat → Option Addr) (k : Nat) : Prop := k = bx ∨ Ft bw aw k ∨ Ft br ar k ∨ TF at' n A k
theorem Core.but {S : Nat → Prop} (h : Core w bx bw aw cw br ar cr at' ct n A C L s t) (hb : But S w w1) (hn : ∀ k, CF bx bw aw br ar at' n A k → ¬ S k) : Core w1 bx bw aw cw br ar cr at' ct n A C L s t :=
  ⟨(hb.block bx (Array.getElem?_eq_some_iff.1 h.x).1 (hn _ (.inl rfl))).trans h.x, h.p.but hb fun k hk => hn k (.inr (.inl hk)), h.r.but hb fun k hk => hn k (.inr (.inr (.inl hk))), h.told.but hb fun k hk => hn k (.inr (.inr (.inr hk))), h.ab, h.sw, h.sr⟩
theorem Core.keep (h : Core w bx bw aw cw br ar cr at' ct n A C L s t) (hb : Below w.heap.size w w1) : Core w1 bx bw aw cw br ar cr at' ct n A C L s t := h.but (S := fun _ => False) (But.ofBelow hb) fun _ _ hf => hf
theorem Core.lt (h : Core w bx bw aw cw br ar cr at' ct n A C L s t) {k : Nat} (hk : CF bx bw aw br ar at' n A k) : k < w.heap.size := by
  rcases hk with rfl | (rfl | ⟨x, hx, rfl⟩) | (rfl | ⟨x, hx, rfl⟩) | hk
  · exact (Array.getElem?_eq_some_iff.1 h.x).1
  · exact h.p.lt
  · exact h.p.2.1.lt hx
  · exact h.r.lt
  · exact h.r.2.1.lt hx
  · exact h.told.lt hk
theorem Core.fx0 (h : Core w bx bw aw cw br ar cr at' ct n A C L s t) : w.cell? ⟨bx, 0, none⟩ = some (.pointer (some ⟨bw, 0, none⟩)) := by rw [cell_of_row _ _ _ _ _ _ h.x]; rfl
theorem Core.fx1 (h : Core w bx bw aw cw br ar cr at' ct n A C L s t) : w.cell? ⟨bx, 1, none⟩ = some (.pointer (some ⟨br, 0, none⟩)) := by rw [cell_of_row _ _ _ _ _ _ h.x]; rfl
theorem Core.fx2 (h : Core w bx bw aw cw br ar cr at' ct n A C L s t) : w.cell? ⟨bx, 2, none⟩ = some (.slice at' n ct) := by rw [cell_of_row _ _ _ _ _ _ h.x]; rfl
theorem Core.fz (h : Core w bx bw aw cw br ar cr at' ct n A C L s t) (i : Nat) : w.frozen? ⟨bx, i, none⟩ = false := frozen_of_row w bx i _ _ h.x
/-- the program's writer has done something -/
theorem Core.doW (h : Core w bx bw aw cw br ar cr at' ct n A C L s t) (hd : Did 68 w w1 bw aw s1) : ∃ aw1 cw1, Core w1 bx bw aw1 cw1 br ar cr at' ct n A C L s1 t ∧ New w aw aw1 ∧ But (Ft bw aw) w w1 := by
  obtain ⟨aw1, cw1, h1, h2, h3⟩ := hd
  refine ⟨aw1, cw1, ⟨?_, h1, ?_, ?_, ?_, h.sw.new h2 (fun i hi x hx => (h.told.2.1 i hi).lt hx), h.sr⟩, h2, h3⟩
  · refine (h3.block bx (Array.getElem?_eq_some_iff.1 h.x).1 ?_).trans h.x
    rintro (e | ⟨y, hy, e⟩)
    · exact ne_type h.x h.p.1 (by decide) e
    · obtain ⟨cur, hg⟩ := h.p.2.1.type hy
      exact ne_type hg h.x (by decide) e
  · refine h.r.but h3 ?_
    rintro k hk (e | ⟨y, hy, e⟩)
    · rcases hk with e2 | ⟨z, hz, e2⟩
      · exact ne_type h.p.1 h.r.1 (by decide) (e.symm.trans e2)
      · obtain ⟨cur, hg⟩ := h.r.2.1.type hz
        exact ne_type hg h.p.1 (by decide) (e2.trans e)
    · rcases hk with e2 | ⟨z, hz, e2⟩
      · obtain ⟨cur, hg⟩ := h.p.2.1.type hy
        exact ne_type hg h.r.1 (by decide) (e.trans e2)
      · exact h.ab y z hy hz (e.trans e2.symm)
  · refine h.told.but h3 ?_
    rintro k hk (e | ⟨y, hy, e⟩)
    · exact h.told.type hk h.p.1 (by decide) (by decide) e
    · rcases hk with ⟨z, hz, e2⟩ | ⟨i, hi, z, hz, e2⟩
      · exact h.told.1.ne h.p.2.1 hz hy (e2.trans e.symm)
      · exact h.sw i hi z y hz hy (e2.trans e.symm)
  · intro x y hx hy e
    rcases h2 x hx with ⟨z, hz, e2⟩ | h4
    · exact h.ab z y hz hy (e2.trans e)
    · have := h.r.2.1.lt hy; omega
/-- the document's writer has done something -/
theorem Core.doR (h : Core w bx bw aw cw br ar cr at' ct n A C L s t) (hd : Did 65 w w1 br ar s1) : ∃ ar1 cr1, Core w1 bx bw aw cw br ar1 cr1 at' ct n A C L s s1 ∧ New w ar ar1 ∧ But (Ft br ar) w w1 := by
  obtain ⟨aw1, cw1, h1, h2, h3⟩ := hd
  refine ⟨aw1, cw1, ⟨?_, ?_, h1, ?_, ?_, h.sw, h.sr.new h2 (fun i hi x hx => (h.told.2.1 i hi).lt hx)⟩, h2, h3⟩
  · refine (h3.block bx (Array.getElem?_eq_some_iff.1 h.x).1 ?_).trans h.x
    rintro (e | ⟨y, hy, e⟩)
    · exact ne_type h.x h.r.1 (by decide) e
    · obtain ⟨cur, hg⟩ := h.r.2.1.type hy
      exact ne_type hg h.x (by decide) e
  · refine h.p.but h3 ?_
    rintro k hk (e | ⟨y, hy, e⟩)
    · rcases hk with e2 | ⟨z, hz, e2⟩
      · exact ne_type h.r.1 h.p.1 (by decide) (e.symm.trans e2)
      · obtain ⟨cur, hg⟩ := h.p.2.1.type hz
        exact ne_type hg h.r.1 (by decide) (e2.trans e)
    · rcases hk with e2 | ⟨z, hz, e2⟩
      · obtain ⟨cur, hg⟩ := h.r.2.1.type hy
        exact ne_type hg h.p.1 (by decide) (e.trans e2)
      · exact h.ab z y hz hy (e2.trans e.symm)
  · refine h.told.but h3 ?_
    rintro k hk (e | ⟨y, hy, e⟩)
    · exact h.told.type hk h.r.1 (by decide) (by decide) e
    · rcases hk with ⟨z, hz, e2⟩ | ⟨i, hi, z, hz, e2⟩
      · exact h.told.1.ne h.r.2.1 hz hy (e2.trans e.symm)
      · exact h.sr i hi z y hz hy (e2.trans e.symm)
  · intro x y hx hy e
    rcases h2 y hy with ⟨z, hz, e2⟩ | h4
    · exact h.ab x z hx hz (e.trans e2.symm)
    · have := h.p.2.1.lt hx; omega
end
/-- one list more is told -/
theorem Core.tell {w w2 : World} {bx bw : Nat} {aw : Option Addr} {cw br : Nat} {ar : Option Addr} {cr : Nat} {at' at2 : Option Addr} {ct ct2 n : Nat} {A : Nat → Option Addr} {C : Nat → Nat} {L : Nat → List Nat} {s t : WS} {o : Obj} {ga : Option Addr} {gc : Nat} {gl : List Nat}
    (h : Core w bx bw aw cw br ar cr at' ct n A C L s t) (hR : Rw w ga gc gl) (hfr : ∀ x, ga = some x → ∀ k, CF bx bw aw br ar at' n A k → k ≠ x.block) (hlen : gl.length + 20 ≤ 140737488355328)
    (hAr : Ar w2 at2 ct2 (((List.range n).map fun i => Value.slice (A i) (L i).length (C i)) ++ [.slice ga gl.length gc])) (_hN : New (w.alloc o) at' at2) (hg : (w.alloc o).grownBy w2 (at'.map Addr.block)) :
    w2.cell? ⟨bx, 2, none⟩ = some (.slice at' n ct) ∧ w2.frozen? ⟨bx, 2, none⟩ = false ∧
    Hid (Core (w2.setCell ⟨bx, 2, none⟩ (.slice at2 (n + 1) ct2)) bx bw aw cw br ar cr at2 ct2 (n + 1) (fun i => if i = n then ga else A i) (fun i => if i = n then gc else C i) (fun i => if i = n then gl else L i) s t ∧
      But (fun k => k = bx ∨ ∃ x, at' = some x ∧ x.block = k) w (w2.setCell ⟨bx, 2, none⟩ (.slice at2 (n + 1) ct2))) := by
  have hbx := (Array.getElem?_eq_some_iff.1 h.x).1
  have step : But (fun q => ∃ x, at' = some x ∧ x.block = q) w w2 := ((But.refl _ w).alloc o).trans (grown_but hg) fun _ _ h => h
  have atne : ∀ {b : Nat} {c : Array Value} {T : TypeId} {f : Nat × Nat}, w.heap[b]? = some (.cells c T f) → T ≠ 33 → ¬ ∃ x, at' = some x ∧ x.block = b := by
    rintro b c T f hb hT ⟨x, hx, e⟩
    obtain ⟨cur, hg'⟩ := h.told.1.type hx
    exact ne_type hg' hb hT.symm e
  have hx2 : w2.heap[bx]? = some (.cells #[.pointer (some ⟨bw, 0, none⟩), .pointer (some ⟨br, 0, none⟩), .slice at' n ct] 30 (0, 0)) := (step.block bx hbx (atne h.x (by decide))).trans h.x
  have st : But (fun k => k = bx) w2 (w2.setCell ⟨bx, 2, none⟩ (.slice at2 (n + 1) ct2)) := But.cell1 _ _ _ _
  have row : ∀ {a c l}, Rw w a c l → Rw (w2.setCell ⟨bx, 2, none⟩ (.slice at2 (n + 1) ct2)) a c l := fun hr => (hr.but step fun x hx => by
      obtain ⟨cur, hg'⟩ := hr.type hx
      exact atne hg' (by decide)).but st fun x hx e => by
        obtain ⟨cur, hg'⟩ := hr.type hx
        exact ne_type hg' h.x (by decide) e
  have wt : ∀ {T b a c s}, Wt T w b a c s → T ≠ 33 → T ≠ 30 → Wt T (w2.setCell ⟨bx, 2, none⟩ (.slice at2 (n + 1) ct2)) b a c s := fun hw h1 h2 => by
    refine ⟨?_, row hw.2.1, hw.2.2⟩
    exact (st.block _ (Nat.lt_of_lt_of_le hw.lt step.size) (fun e => ne_type hw.1 h.x h2 e)).trans ((step.block _ hw.lt (atne hw.1 h1)).trans hw.1)
  refine ⟨by rw [cell_of_row _ _ _ _ _ _ hx2]; rfl, frozen_of_row w2 bx 2 _ _ hx2, ⟨?_, wt h.p (by decide) (by decide), wt h.r (by decide) (by decide), ⟨?_, ?_, ?_, ?_⟩, h.ab, ?_, ?_⟩, ?_⟩
  · exact heap_setCell_same w2 bx 2 _ _ _ hx2
  · rw [List.range_succ, List.map_append]
    have e : ((List.range n).map fun i => Value.slice (if i = n then ga else A i) (if i = n then gl else L i).length (if i = n then gc else C i)) = (List.range n).map fun i => Value.slice (A i) (L i).length (C i) := by
      apply List.map_congr_left
      intro i hi
      have := List.mem_range.1 hi
      simp [show i ≠ n by omega]
    rw [e]
    have h7 : Ar (w2.setCell ⟨bx, 2, none⟩ (.slice at2 (n + 1) ct2)) at2 ct2 (((List.range n).map fun i => Value.slice (A i) (L i).length (C i)) ++ [.slice ga gl.length gc]) := hAr.but st fun x hx e => by
      obtain ⟨cur, hg'⟩ := hAr.type hx
      exact ne_type hg' hx2 (by decide) e
    simpa using h7
  · intro i hi
    dsimp only
    by_cases e : i = n
    · subst e; rw [if_pos rfl, if_pos rfl, if_pos rfl]; exact row hR
    · rw [if_neg e, if_neg e, if_neg e]; exact row (h.told.2.1 i (by omega))
  · intro i j hi hj hij x y hx hy
    dsimp only at hx hy
    by_cases e : i = n
    · rw [if_pos e] at hx
      rw [if_neg (by omega)] at hy
      exact fun e2 => hfr x hx _ (.inr (.inr (.inr (.inr ⟨j, by omega, y, hy, rfl⟩)))) e2.symm
    · rw [if_neg e] at hx
      by_cases e2 : j = n
      · rw [if_pos e2] at hy
        exact hfr y hy _ (.inr (.inr (.inr (.inr ⟨i, by omega, x, hx, rfl⟩))))
      · rw [if_neg e2] at hy
        exact h.told.2.2.1 i j (by omega) (by omega) hij x y hx hy
  · intro i hi
    dsimp only
    by_cases e : i = n
    · rw [if_pos e]; exact hlen
    · rw [if_neg e]; exact h.told.2.2.2 i (by omega)
  · intro i hi x y hx hy
    dsimp only at hx
    by_cases e : i = n
    · rw [if_pos e] at hx
      exact fun e2 => hfr x hx _ (.inr (.inl (.inr ⟨y, hy, rfl⟩))) e2.symm
    · rw [if_neg e] at hx; exact h.sw i (by omega) x y hx hy
  · intro i hi x y hx hy
    dsimp only at hx
    by_cases e : i = n
    · rw [if_pos e] at hx
      exact fun e2 => hfr x hx _ (.inr (.inr (.inl (.inr ⟨y, hy, rfl⟩)))) e2.symm
    · rw [if_neg e] at hx; exact h.sr i (by omega) x y hx hy
  · exact (step.mono fun _ _ h => .inr h).trans st fun _ _ h => .inl h
/-- a program's writer and the document's, their memory in F -/
def Work (w : World) (bx : Nat) (F : Nat → Prop) (n : Nat) (s : WS) : Prop :=
  (∀ k, F k → k < w.heap.size) ∧ ∃ bw aw cw br ar cr at' ct A C L, Core w bx bw aw cw br ar cr at' ct n A C L s s ∧ ∀ k, CF bx bw aw br ar at' n A k → F k
def ext (F : Nat → Prop) (w w' : World) (k : Nat) : Prop := F k ∨ w.heap.size ≤ k ∧ k < w'.heap.size
theorem Work.but {S F : Nat → Prop} {w w' : World} {bx n : Nat} {s : WS} (h : Work w bx F n s) (hb : But S w w') (hn : ∀ k, F k → ¬ S k) : Work w' bx F n s := by
  obtain ⟨h0, bw, aw, cw, br, ar, cr, at', ct, A, C, L, h1, h2⟩ := h
  exact ⟨fun k hk => Nat.lt_of_lt_of_le (h0 k hk) hb.size, bw, aw, cw, br, ar, cr, at', ct, A, C, L, h1.but hb fun k hk => hn k (h2 k hk), h2⟩
end Go.Proofs.Ytlkjpljfbmploaa
