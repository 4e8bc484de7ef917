import Derived.Test.YtlkjpljfbmploaaQC
import Derived.Test.YtlkjpljfbmploaaCC
import Derived.Test.YtlkjpljfbmploaaRD
import Derived.Test.YtlkjpljfbmploaaRE
namespace Go.Proofs.Ytlkjpljfbmploaa
open Go.RowKit

/-- the memory of what is left to read -/
def AF (a : Option Addr) (s : RS) (k : Nat) : Prop := ∃ y, a = some y ∧ s.l ≠ [] ∧ y.block = k
theorem Bs.lt {w : World} {a : Option Addr} {l : List Nat} (h : Bs w a l) {y : Addr} (hy : a = some y) (hl : l ≠ []) : y.block < w.heap.size := by
  obtain ⟨b, off, e, hc⟩ := h.at (j := 0) (by cases l with | nil => exact absurd rfl hl | cons => simp)
  rw [e, Option.some.injEq] at hy
  subst hy
  exact block_lt_of_cell hc
theorem Rd.but' {S : Nat → Prop} {w w' : World} {b : Nat} {a : Option Addr} {cap : Nat} {s : RS} (h : Rd w b a cap s) (hb : But S w w') (h1 : ¬ S b) (h2 : ∀ k, AF a s k → ¬ S k) : Rd w' b a cap s :=
  ⟨(hb.block b h.lt h1).trans h.1, h.2.1.but hb fun x hx hl => h2 _ ⟨x, hx, hl, rfl⟩, h.2.2⟩
theorem Rq.but {S : Nat → Prop} {w w' : World} {b : Nat} {a : Option Addr} {cap : Nat} {full : List Nat} {s : RS} (h : Rq w b a cap full s) (hb : But S w w') (hn : ∀ k, Ft b a k → ¬ S k) : Rq w' b a cap full s := by
  obtain ⟨p, h, hl⟩ := h
  exact ⟨p, h.but hb hn, hl⟩
theorem Rq.row {w : World} {b : Nat} {a : Option Addr} {cap : Nat} {full : List Nat} {s : RS} (h : Rq w b a cap full s) : Rw w a cap full := by obtain ⟨p, h, _⟩ := h; exact h.2.1
theorem Rq.head {w : World} {b : Nat} {a : Option Addr} {cap : Nat} {full : List Nat} {s : RS} (h : Rq w b a cap full s) : ∃ c, w.heap[b]? = some (.cells c 80 (0, 0)) := by obtain ⟨p, h, _⟩ := h; exact ⟨_, h.1⟩
theorem Rq.lt {w : World} {b : Nat} {a : Option Addr} {cap : Nat} {full : List Nat} {s : RS} (h : Rq w b a cap full s) : b < w.heap.size := by obtain ⟨p, h, _⟩ := h; exact h.lt
theorem Rq.left {w : World} {b : Nat} {a : Option Addr} {cap : Nat} {full : List Nat} {s : RS} (h : Rq w b a cap full s) : s.l.length ≤ full.length ∧ ∀ x ∈ s.l, x < 256 := by
  obtain ⟨p, h, hl⟩ := h
  rw [hl]
  exact ⟨by rw [List.length_drop]; omega, fun x hx => h.2.2.2.1 x (List.mem_of_mem_drop hx)⟩

/-- what was told: an array of n lists of bytes; the first m of them are each in memory of its own -/
def ToldM (w : World) (at' : Option Addr) (ct n m : Nat) (A : Nat → Option Addr) (C : Nat → Nat) (L : Nat → List Nat) : Prop :=
  Ar w at' ct ((List.range n).map fun i => Value.slice (A i) (L i).length (C i)) ∧ RowsG w m A C L ∧ Dist m A ∧ ∀ i, i < m → (L i).length + 20 ≤ 140737488355328
section
variable {w w' : World} {at' : Option Addr} {ct n m : Nat} {A : Nat → Option Addr} {C : Nat → Nat} {L : Nat → List Nat}
theorem ToldM.but {S : Nat → Prop} (h : ToldM w at' ct n m A C L) (hb : But S w w') (hn : ∀ k, TF at' m A k → ¬ S k) : ToldM w' at' ct n m A C L :=
  ⟨h.1.but hb fun x hx => hn _ (.inl ⟨x, hx, rfl⟩), fun i hi => (h.2.1 i hi).but hb fun x hx => hn _ (.inr ⟨i, hi, x, hx, rfl⟩), h.2.2⟩
theorem ToldM.lt (h : ToldM w at' ct n m A C L) {k : Nat} (hk : TF at' m A k) : k < w.heap.size := by
  rcases hk with ⟨x, hx, rfl⟩ | ⟨i, hi, x, hx, rfl⟩
  · exact h.1.lt hx
  · exact (h.2.1 i hi).lt hx
theorem ToldM.type (h : ToldM w at' ct n m A C L) {k b : Nat} {c : Array Value} {T : TypeId} {f : Nat × Nat} (hk : TF at' m A k) (hb : w.heap[b]? = some (.cells c T f)) (h1 : T ≠ 5) (h2 : T ≠ 33) : k ≠ b := by
  rcases hk with ⟨x, hx, rfl⟩ | ⟨i, hi, x, hx, rfl⟩
  · obtain ⟨cur, hg⟩ := h.1.type hx
    exact ne_type hg hb h2.symm
  · obtain ⟨cur, hg⟩ := (h.2.1 i hi).type hx
    exact ne_type hg hb h1.symm
end

structure LC (w : World) (bx bp : Nat) (ap : Option Addr) (cp bq : Nat) (aq : Option Addr) (cq : Nat) (full : List Nat) (at' : Option Addr) (ct n m : Nat) (A : Nat → Option Addr) (C : Nat → Nat) (L : Nat → List Nat) (s t : RS) : Prop where
  x : w.heap[bx]? = some (.cells #[.pointer (some ⟨bp, 0, none⟩), .pointer (some ⟨bq, 0, none⟩), .slice at' n ct] 45 (0, 0))
  p : Rd w bp ap cp s
  r : Rq w bq aq cq full t
  told : ToldM w at' ct n m A C L
  sp : ∀ k, AF ap s k → k ≠ bx ∧ k ≠ bq ∧ ¬ TF at' m A k
  sq : Sep aq m A
  hl : full.length + 64 ≤ 140737488355328
/-- all blocks -/
def LF (bx bp : Nat) (ap : Option Addr) (s : RS) (bq : Nat) (aq : Option Addr) (at' : Option Addr) (n : Nat) (A : Nat → Option Addr) (k : Nat) : Prop := k = bx ∨ k = bp ∨ AF ap s k ∨ Ft bq aq k ∨ TF at' n A k
section
variable {w w1 : World} {bx bp : Nat} {ap : Option Addr} {cp bq : Nat} {aq : Option Addr} {cq : Nat} {full : List Nat} {at' : Option Addr} {ct n m : Nat} {A : Nat → Option Addr} {C : Nat → Nat} {L : Nat → List Nat} {s t s1 : RS}
theorem LC.but {S : Nat → Prop} (h : LC w bx bp ap cp bq aq cq full at' ct n m A C L s t) (hb : But S w w1) (hn : ∀ k, LF bx bp ap s bq aq at' m A k → ¬ S k) : LC w1 bx bp ap cp bq aq cq full at' ct n m A C L s t :=
  ⟨(hb.block bx (Array.getElem?_eq_some_iff.1 h.x).1 (hn _ (.inl rfl))).trans h.x, h.p.but' hb (hn _ (.inr (.inl rfl))) fun k hk => hn k (.inr (.inr (.inl hk))), h.r.but hb fun k hk => hn k (.inr (.inr (.inr (.inl hk)))), h.told.but hb fun k hk => hn k (.inr (.inr (.inr (.inr hk)))), h.sp, h.sq, h.hl⟩
theorem LC.keep (h : LC w bx bp ap cp bq aq cq full at' ct n m A C L s t) (hb : Below w.heap.size w w1) : LC w1 bx bp ap cp bq aq cq full at' ct n m A C L s t := h.but (S := fun _ => False) (But.ofBelow hb) fun _ _ hf => hf
theorem LC.lt (h : LC w bx bp ap cp bq aq cq full at' ct n m A C L s t) {k : Nat} (hk : LF bx bp ap s bq aq at' m A k) : k < w.heap.size := by
  rcases hk with rfl | rfl | ⟨y, hy, hl, rfl⟩ | (rfl | ⟨x, hx, rfl⟩) | hk
  · exact (Array.getElem?_eq_some_iff.1 h.x).1
  · exact h.p.lt
  · exact h.p.2.1.lt hy hl
  · exact h.r.lt
  · exact h.r.row.lt hx
  · exact h.told.lt hk
theorem LC.fx0 (h : LC w bx bp ap cp bq aq cq full at' ct n m A C L s t) : w.cell? ⟨bx, 0, none⟩ = some (.pointer (some ⟨bp, 0, none⟩)) := by rw [cell_of_row _ _ _ _ _ _ h.x]; rfl
theorem LC.fx1 (h : LC w bx bp ap cp bq aq cq full at' ct n m A C L s t) : w.cell? ⟨bx, 1, none⟩ = some (.pointer (some ⟨bq, 0, none⟩)) := by rw [cell_of_row _ _ _ _ _ _ h.x]; rfl
theorem LC.fx2 (h : LC w bx bp ap cp bq aq cq full at' ct n m A C L s t) : w.cell? ⟨bx, 2, none⟩ = some (.slice at' n ct) := by rw [cell_of_row _ _ _ _ _ _ h.x]; rfl
theorem LC.fe (h : LC w bx bp ap cp bq aq cq full at' ct n m A C L s t) : w.cell? ⟨bq, 2, none⟩ = some (.int .i64 (t.e : Int)) := by obtain ⟨p, h, _⟩ := h.r; exact h.c2
/-- the program's reader has done something -/
theorem LC.doP (h : LC w bx bp ap cp bq aq cq full at' ct n m A C L s t) (hd : DidR w w1 bp ap s1) (hs : s.l = [] → s1.l = []) : ∃ ap1 cp1, LC w1 bx bp ap1 cp1 bq aq cq full at' ct n m A C L s1 t ∧ But (fun k => k = bp) w w1 ∧ ∀ k, AF ap1 s1 k → AF ap s k := by
  obtain ⟨ap1, cp1, h1, h2, h3⟩ := hd
  have hnew : ∀ k, AF ap1 s1 k → AF ap s k := by
    rintro k ⟨y, hy, hl, rfl⟩
    obtain ⟨z, hz, e⟩ := h2 y hy
    exact ⟨z, hz, fun e2 => hl (hs e2), e⟩
  obtain ⟨cq', hqh⟩ := h.r.head
  refine ⟨ap1, cp1, ⟨?_, h1, ?_, ?_, fun k hk => h.sp k (hnew k hk), h.sq, h.hl⟩, h3, hnew⟩
  · exact (h3.block bx (Array.getElem?_eq_some_iff.1 h.x).1 fun e => ne_type h.x h.p.1 (by decide) e).trans h.x
  · refine h.r.but h3 ?_
    rintro k (e2 | ⟨z, hz, e2⟩) e
    · exact ne_type hqh h.p.1 (by decide) (e2.symm.trans e)
    · obtain ⟨cur, hg⟩ := h.r.row.type hz
      exact ne_type hg h.p.1 (by decide) (e2.trans e)
  · exact h.told.but h3 fun k hk e => h.told.type hk h.p.1 (by decide) (by decide) e
/-- the document's reader has done something -/
theorem LC.doQ (h : LC w bx bp ap cp bq aq cq full at' ct n m A C L s t) (hd : DidQ w w1 bq aq cq full s1) : LC w1 bx bp ap cp bq aq cq full at' ct n m A C L s s1 ∧ But (fun k => k = bq) w w1 := by
  obtain ⟨h1, h3⟩ := hd
  obtain ⟨cq', hqh⟩ := h.r.head
  refine ⟨⟨?_, ?_, h1, ?_, h.sp, h.sq, h.hl⟩, h3⟩
  · exact (h3.block bx (Array.getElem?_eq_some_iff.1 h.x).1 fun e => ne_type h.x hqh (by decide) e).trans h.x
  · exact h.p.but' h3 (fun e => ne_type h.p.1 hqh (by decide) e) fun k hk e => (h.sp k hk).2.1 e
  · exact h.told.but h3 fun k hk e => h.told.type hk hqh (by decide) (by decide) e
end
/-- one list more is told -/
theorem LC.tell {w w2 : World} {bx bp : Nat} {ap : Option Addr} {cp bq : Nat} {aq : Option Addr} {cq : Nat} {full : List Nat} {at' at2 : Option Addr} {ct ct2 n m m2 : Nat} {A : Nat → Option Addr} {C : Nat → Nat} {L : Nat → List Nat} {s t : RS} {o : Obj} {ga : Option Addr} {gc : Nat} {gl : List Nat}
    (h : LC w bx bp ap cp bq aq cq full at' ct n m A C L s t) (hm : (m = n ∧ m2 = n + 1) ∨ (m = 0 ∧ m2 = 0)) (hR : Rw w ga gc gl) (hfr : ∀ x, ga = some x → ∀ k, LF bx bp ap s bq aq at' m A k → k ≠ x.block) (hlen : gl.length + 20 ≤ 140737488355328)
    (hAr : Ar w2 at2 ct2 (((List.range n).map fun i => Value.slice (A i) (L i).length (C i)) ++ [.slice ga gl.length gc])) (hN : New (w.alloc o) at' at2) (hg : (w.alloc o).grownBy w2 (at'.map Addr.block)) :
    w2.cell? ⟨bx, 2, none⟩ = some (.slice at' n ct) ∧ w2.frozen? ⟨bx, 2, none⟩ = false ∧
    Hid (LC (w2.setCell ⟨bx, 2, none⟩ (.slice at2 (n + 1) ct2)) bx bp ap cp bq aq cq full at2 ct2 (n + 1) m2 (fun i => if i = n then ga else A i) (fun i => if i = n then gc else C i) (fun i => if i = n then gl else L i) s t ∧
      But (fun k => k = bx ∨ ∃ x, at' = some x ∧ x.block = k) w (w2.setCell ⟨bx, 2, none⟩ (.slice at2 (n + 1) ct2)) ∧
      ∀ k, TF at2 m2 (fun i => if i = n then ga else A i) k → TF at' m A k ∨ w.heap.size ≤ k ∨ ∃ x, ga = some x ∧ x.block = k) := by
  have hbx := (Array.getElem?_eq_some_iff.1 h.x).1
  have step : But (fun q => ∃ x, at' = some x ∧ x.block = q) w w2 := ((But.refl _ w).alloc o).trans (grown_but hg) fun _ _ h => h
  have atne : ∀ {b : Nat} {c : Array Value} {T : TypeId} {f : Nat × Nat}, w.heap[b]? = some (.cells c T f) → T ≠ 33 → ¬ ∃ x, at' = some x ∧ x.block = b := by
    rintro b c T f hb hT ⟨x, hx, e⟩
    obtain ⟨cur, hg'⟩ := h.told.1.type hx
    exact ne_type hg' hb hT.symm e
  have hx2 : w2.heap[bx]? = some (.cells #[.pointer (some ⟨bp, 0, none⟩), .pointer (some ⟨bq, 0, none⟩), .slice at' n ct] 45 (0, 0)) := (step.block bx hbx (atne h.x (by decide))).trans h.x
  have st : But (fun k => k = bx) w2 (w2.setCell ⟨bx, 2, none⟩ (.slice at2 (n + 1) ct2)) := But.cell1 _ _ _ _
  have row : ∀ {a c l}, Rw w a c l → Rw (w2.setCell ⟨bx, 2, none⟩ (.slice at2 (n + 1) ct2)) a c l := fun hr => (hr.but step fun x hx => by
      obtain ⟨cur, hg'⟩ := hr.type hx
      exact atne hg' (by decide)).but st fun x hx e => by
        obtain ⟨cur, hg'⟩ := hr.type hx
        exact ne_type hg' h.x (by decide) e
  have hB : But (fun k => k = bx ∨ ∃ x, at' = some x ∧ x.block = k) w (w2.setCell ⟨bx, 2, none⟩ (.slice at2 (n + 1) ct2)) := (step.mono fun _ _ h => .inr h).trans st fun _ _ h => .inl h
  have hTF : ∀ k, TF at2 m2 (fun i => if i = n then ga else A i) k → TF at' m A k ∨ w.heap.size ≤ k ∨ ∃ x, ga = some x ∧ x.block = k := by
    rintro k (⟨x, hx, e⟩ | ⟨i, hi, x, hx, e⟩)
    · rcases hN x hx with ⟨y, hy, e2⟩ | h2
      · exact .inl (.inl ⟨y, hy, e2.trans e⟩)
      · rw [size_alloc] at h2
        exact .inr (.inl (by omega))
    · dsimp only at hx
      obtain ⟨rfl, rfl⟩ : m = n ∧ m2 = n + 1 := hm.resolve_right (by rintro ⟨_, rfl⟩; omega)
      by_cases e3 : i = m
      · rw [if_pos e3] at hx; exact .inr (.inr ⟨x, hx, e⟩)
      · rw [if_neg e3] at hx; exact .inl (.inr ⟨i, by omega, x, hx, e⟩)
  obtain ⟨cq', hqh⟩ := h.r.head
  refine ⟨by rw [cell_of_row _ _ _ _ _ _ hx2]; rfl, frozen_of_row w2 bx 2 _ _ hx2, ⟨?_, ?_, ?_, ⟨?_, ?_, ?_, ?_⟩, ?_, ?_, h.hl⟩, hB, hTF⟩
  · exact heap_setCell_same w2 bx 2 _ _ _ hx2
  · refine h.p.but' hB ?_ ?_
    · rintro (e | e)
      · exact ne_type h.p.1 h.x (by decide) e
      · exact atne h.p.1 (by decide) e
    · rintro k hk (e | e)
      · exact (h.sp k hk).1 e
      · exact (h.sp k hk).2.2 (.inl e)
  · refine h.r.but hB ?_
    rintro k (rfl | ⟨z, hz, rfl⟩) (e | e)
    · exact ne_type hqh h.x (by decide) e
    · exact atne hqh (by decide) e
    · obtain ⟨cur, hg'⟩ := h.r.row.type hz
      exact ne_type hg' h.x (by decide) e
    · obtain ⟨cur, hg'⟩ := h.r.row.type hz
      exact atne hg' (by decide) e
  · rw [List.range_succ, List.map_append]
    have e : ((List.range n).map fun i => Value.slice (if i = n then ga else A i) (if i = n then gl else L i).length (if i = n then gc else C i)) = (List.range n).map fun i => Value.slice (A i) (L i).length (C i) := by
      apply List.map_congr_left
      intro i hi
      have := List.mem_range.1 hi
      simp [show i ≠ n by omega]
    rw [e]
    have h7 : Ar (w2.setCell ⟨bx, 2, none⟩ (.slice at2 (n + 1) ct2)) at2 ct2 (((List.range n).map fun i => Value.slice (A i) (L i).length (C i)) ++ [.slice ga gl.length gc]) := hAr.but st fun x hx e => by
      obtain ⟨cur, hg'⟩ := hAr.type hx
      exact ne_type hg' hx2 (by decide) e
    simpa using h7
  · intro i hi
    obtain ⟨rfl, rfl⟩ : m = n ∧ m2 = n + 1 := hm.resolve_right (by rintro ⟨_, rfl⟩; omega)
    dsimp only
    by_cases e : i = m
    · subst e; rw [if_pos rfl, if_pos rfl, if_pos rfl]; exact row hR
    · rw [if_neg e, if_neg e, if_neg e]; exact row (h.told.2.1 i (by omega))
  · intro i j hi hj hij x y hx hy
    obtain ⟨rfl, rfl⟩ : m = n ∧ m2 = n + 1 := hm.resolve_right (by rintro ⟨_, rfl⟩; omega)
    dsimp only at hx hy
    by_cases e : i = m
    · rw [if_pos e] at hx
      rw [if_neg (by omega)] at hy
      exact fun e2 => hfr x hx _ (.inr (.inr (.inr (.inr (.inr ⟨j, by omega, y, hy, rfl⟩))))) e2.symm
    · rw [if_neg e] at hx
      by_cases e2 : j = m
      · rw [if_pos e2] at hy
        exact hfr y hy _ (.inr (.inr (.inr (.inr (.inr ⟨i, by omega, x, hx, rfl⟩)))))
      · rw [if_neg e2] at hy
        exact h.told.2.2.1 i j (by omega) (by omega) hij x y hx hy
  · intro i hi
    obtain ⟨rfl, rfl⟩ : m = n ∧ m2 = n + 1 := hm.resolve_right (by rintro ⟨_, rfl⟩; omega)
    dsimp only
    by_cases e : i = m
    · rw [if_pos e]; exact hlen
    · rw [if_neg e]; exact h.told.2.2.2 i (by omega)
  · intro k hk
    refine ⟨(h.sp k hk).1, (h.sp k hk).2.1, fun e => ?_⟩
    rcases hTF k e with e | e | ⟨x, hx, e⟩
    · exact (h.sp k hk).2.2 e
    · have := h.lt (.inr (.inr (.inl hk))); omega
    · exact hfr x hx k (.inr (.inr (.inl hk))) e.symm
  · intro i hi x y hx hy
    obtain ⟨rfl, rfl⟩ : m = n ∧ m2 = n + 1 := hm.resolve_right (by rintro ⟨_, rfl⟩; omega)
    dsimp only at hx
    by_cases e : i = m
    · rw [if_pos e] at hx
      exact fun e2 => hfr x hx _ (.inr (.inr (.inr (.inl (.inr ⟨y, hy, rfl⟩))))) e2.symm
    · rw [if_neg e] at hx; exact h.sq i (by omega) x y hx hy
/-- how many lists are tracked -/
def trk (b : Bool) (n : Nat) : Nat := if b then n else 0
theorem trk_next (b : Bool) (n : Nat) : (trk b n = n ∧ trk b (n + 1) = n + 1) ∨ (trk b n = 0 ∧ trk b (n + 1) = 0) := by cases b <;> simp [trk]
/-- a program's reader and the document's, their memory in F, at most N lists told -/
def Look (w : World) (bx : Nat) (F : Nat → Prop) (N : Nat) (b : Bool) : Prop :=
  (∀ k, F k → k < w.heap.size) ∧ ∃ bp ap cp bq aq cq full at' ct n A C L s, n ≤ N ∧ LC w bx bp ap cp bq aq cq full at' ct n (trk b n) A C L s s ∧ ∀ k, LF bx bp ap s bq aq at' (trk b n) A k → F k
theorem Look.but {S F : Nat → Prop} {w w' : World} {bx N : Nat} {b : Bool} (h : Look w bx F N b) (hb : But S w w') (hn : ∀ k, F k → ¬ S k) : Look w' bx F N b := by
  obtain ⟨h0, bp, ap, cp, bq, aq, cq, full, at', ct, n, A, C, L, s, hN, h1, h2⟩ := h
  exact ⟨fun k hk => Nat.lt_of_lt_of_le (h0 k hk) hb.size, bp, ap, cp, bq, aq, cq, full, at', ct, n, A, C, L, s, hN, h1.but hb fun k hk => hn k (h2 k hk), h2⟩
theorem Look.mono {F F' : Nat → Prop} {w : World} {bx N N' : Nat} {b : Bool} (h : Look w bx F N b) (h1 : ∀ k, F k → F' k) (h2 : ∀ k, F' k → k < w.heap.size) (hN' : N ≤ N') : Look w bx F' N' b := by
  obtain ⟨h0, bp, ap, cp, bq, aq, cq, full, at', ct, n, A, C, L, s, hN, hc, hcl⟩ := h
  exact ⟨h2, bp, ap, cp, bq, aq, cq, full, at', ct, n, A, C, L, s, by omega, hc, fun k hk => h1 k (hcl k hk)⟩
theorem Look.step {F : Nat → Prop} {w w1 w2 : World} {bx N : Nat} {b : Bool} (hF : ∀ k, F k → k < w.heap.size) (hb : But F w w1) (h : Look w2 bx (ext (ext F w w1) w1 w2) N b) (hb2 : But (ext F w w1) w1 w2) : Look w2 bx (ext F w w2) N b ∧ But F w w2 :=
  ⟨h.mono (ext_ext hb.size hb2.size) (ext_lt hF (Nat.le_trans hb.size hb2.size)) (Nat.le_refl _), but_ext hb hb2⟩
/-- the end of a call of read -/
theorem look_done {w w4 : World} {F : Nat → Prop} {bx bp : Nat} {ap : Option Addr} {cp bq : Nat} {aq : Option Addr} {cq : Nat} {full : List Nat} {at' : Option Addr} {ct n N : Nat} {b : Bool} {A : Nat → Option Addr} {C : Nat → Nat} {L : Nat → List Nat} {s : RS} (hN : n ≤ N) (c4 : LC w4 bx bp ap cp bq aq cq full at' ct n (trk b n) A C L s s) (hnew : ∀ k, LF bx bp ap s bq aq at' (trk b n) A k → F k ∨ w.heap.size ≤ k) (hF : ∀ k, F k → k < w.heap.size) (hb : But F w w4) :
    Look w4 bx (ext F w w4) N b ∧ But F w w4 :=
  ⟨⟨ext_lt hF hb.size, bp, ap, cp, bq, aq, cq, full, at', ct, n, A, C, L, s, hN, c4, fun k hk => (hnew k hk).imp id fun h => ⟨h, c4.lt hk⟩⟩, hb⟩

theorem raw_nil (s : RS) (n : Int) : s.l = [] → (s.raw n).2.l = [] := fun h => by
  unfold RS.raw
  split
  · exact h
  · show s.l.drop _ = []
    rw [h, List.drop_nil]
theorem short_nil (s : RS) (n : Int) : s.l = [] → (s.short n).2.l = [] := fun h => by
  unfold RS.short
  split
  · exact h
  · show s.l.drop _ = []
    rw [h, List.drop_nil]
theorem zeros_nil (s : RS) : s.l = [] → s.zeros.l = [] := fun h => by
  unfold RS.zeros
  split
  · exact h
  · rfl
theorem raw_le (s : RS) (n : Int) : (s.raw n).1.length ≤ s.l.length ∧ ∀ x ∈ (s.raw n).1, x ∈ s.l := by
  unfold RS.raw
  split
  · exact ⟨Nat.zero_le _, fun x hx => by cases hx⟩
  · exact ⟨by rw [List.length_take]; omega, fun x hx => List.mem_of_mem_take hx⟩
theorem short_le (s : RS) (n : Int) : (s.short n).1.length ≤ s.l.length ∧ ∀ x ∈ (s.short n).1, x ∈ s.l := by
  unfold RS.short
  split
  · exact ⟨Nat.zero_le _, fun x hx => by cases hx⟩
  · exact ⟨by rw [List.length_take, List.length_drop]; omega, fun x hx => List.mem_of_mem_drop (List.mem_of_mem_take hx)⟩

set_option maxRecDepth 100000 in
set_option maxHeartbeats 4000000 in
theorem bytes_any (w : World) (bx bp : Nat) (ap : Option Addr) (cp bq : Nat) (aq : Option Addr) (cq : Nat) (full : List Nat) (at' : Option Addr) (ct n m : Nat) (A : Nat → Option Addr) (C : Nat → Nat) (L : Nat → List Nat) (s t : RS) (h : LC w bx bp ap cp bq aq cq full at' ct n m A C L s t) (m2 : Nat) (hm : (m = n ∧ m2 = n + 1) ∨ (m = 0 ∧ m2 = 0))
    (ga : Option Addr) (gc : Nat) (gl : List Nat) (hR : Rw w ga gc gl) (h256 : ∀ x ∈ gl, x < 256) (wa : Option Addr) (wc : Nat) (hW : Bs w wa gl) (hfr : ∀ x, ga = some x → ∀ k, LF bx bp ap s bq aq at' m A k → k ≠ x.block) (hlen : gl.length + 20 ≤ 140737488355328) (hn : n + 1 ≤ 2932031007410) :
    Calls Try.prog 51 #[.pointer (some ⟨bx, 0, none⟩), .slice ga gl.length gc, .slice wa gl.length wc] w fun e w' => e = .returned (.bool true) ∧ ∃ at2 ct2 A2 C2 L2, LC w' bx bp ap cp bq aq cq full at2 ct2 (n + 1) m2 A2 C2 L2 s t ∧ But (fun k => k = bx ∨ ∃ x, at' = some x ∧ x.block = k) w w' ∧ ∀ k, TF at2 m2 A2 k → TF at' m A k ∨ w.heap.size ≤ k ∨ ∃ x, ga = some x ∧ x.block = k := by
  have EQ := hide (EqBytes_same w ga wa gl.length gl.length gc wc gl (hR.bs h256 hR.len_le) hW rfl rfl)
  have HC := hide h
  have HR := hide hR
  have HFR := hide hfr
  clear h hR hW hfr h256
  go_enter Try.func51, Try.ntmps51
  go_wp2_with fail
  refine EQ.out.mono ?_
  rintro e w1 ⟨rfl, hb1⟩
  have C1 := hide (HC.out.keep hb1)
  have R1 := hide (HR.out.keep hb1)
  have HB1 := hide hb1
  clear hb1
  have e2 := C1.out.fx2
  have hlx := (Array.getElem?_eq_some_iff.1 C1.out.x).1
  have hvl : ((List.range n).map fun i => Value.slice (A i) (L i).length (C i)).length = n := by simp
  have HTL : Hid (∀ w6 g cap' o, Ar w6 (some ⟨g, 0, none⟩) cap' (((List.range n).map fun i => Value.slice (A i) (L i).length (C i)) ++ [.slice ga gl.length gc]) → New (w1.alloc o) at' (some ⟨g, 0, none⟩) → (w1.alloc o).grownBy w6 (at'.map Addr.block) → _) := fun w6 g cap' o h1 h2 h3 => C1.out.tell (gl := gl) hm R1.out HFR.out hlen h1 h2 h3
  have HAR := hide C1.out.told.1
  generalize ((List.range n).map fun i => Value.slice (A i) (L i).length (C i)) = vs at HAR hvl HTL
  go_wp2_with (at_builtin; refine wpList_apR rfl _ _ rfl at' n ct vs ?qo1 hvl.symm (HAR.out.keep ((Below.refl _ _).alloc (Nat.le_refl _) _)) ⟨w1.heap.size, 0, none⟩ 1 (.slice ga gl.length gc) ?qo2 ?qo3 rfl (by omega) ?_)
  try case qo1 => rfl
  try case qo2 => rfl
  try case qo3 => simp
  intro g cap' w6 hR6 hN6 hg6
  obtain ⟨q2, qf, CT⟩ := HTL.out w6 g cap' _ hR6 hN6 hg6
  clear hR6 hN6 hg6 HTL e2 HAR
  go_wp2
  go_ret
  refine ⟨rfl, _, _, _, _, _, CT.out.1, (But.ofBelow HB1.out).trans CT.out.2.1 fun _ _ h => h, fun k hk => ?_⟩
  rcases CT.out.2.2 k hk with h | h | h
  · exact .inl h
  · exact .inr (.inl (Nat.le_trans HB1.out.size h))
  · exact .inr (.inr h)
end Go.Proofs.Ytlkjpljfbmploaa
