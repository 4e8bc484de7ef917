import Derived.Test.YtbobnfjbbablkabZL
import Derived.Test.YtbobnfjbbablkabZN
namespace Go.Proofs.Ytbobnfjbbablkab
open Go.RowKit

theorem prolR_fm {r f : Rv} (hr : r.op = decide (r.hi = [])) (hf : f.op = decide (f.hi = [])) : (prolR r f).fm = prol r.fm f.fm ∧ (prolR r f).op = decide ((prolR r f).hi = []) := by
  unfold prolR prol Rv.fm
  rw [hr, hf]
  by_cases h1 : r.hi = []
  · simp [h1, hr]
  · by_cases h2 : f.hi = []
    · simp [h1, h2]
    · by_cases h3 : cmpB r.hi f.hi < 0
      · simp [h1, h2, h3]
      · simp [h1, h2, h3, hr]
theorem prolR_rows (r f : Rv) : (prolR r f).rows.Sublist (r.rows ++ f.rows) := by
  unfold prolR
  split
  · exact (List.Sublist.refl [(⟨r.aL, r.cL, r.lo⟩ : Br)]).append (List.Sublist.cons _ (List.Sublist.cons _ (List.Sublist.refl [(⟨f.aH, f.cH, f.hi⟩ : Br)])))
  · exact List.sublist_append_left _ _
theorem reach_fm {l : Rv} (hl : l.op = decide (l.hi = [])) (k : List Nat) : (l.op || decide (cmpB k l.hi ≤ 0)) = reach l.fm k := by rw [hl]; rfl
/-- the state of Cover's loop -/
structure Cv (w1 wx : World) (F : List Rv) (j : Nat) (a : Option Addr) (c : Nat) (C : List Rv) : Prop where
  q : QOwn w1 wx a c C
  s : (rowsOf C).Sublist (rowsOf (F.take j))
  m : Fmd C
  v : C.map Rv.fm = cov ((F.take j).map Rv.fm)
  n : C.length ≤ j
theorem take_snocR {F : List Rv} {j : Nat} (h : j < F.length) : F.take (j + 1) = F.take j ++ [F.getD j Rv.zero] := by
  rw [List.take_succ_eq_append_getElem h]; simp [h]
theorem cov_snoc (fs : List Fm) (f : Fm) : cov (fs ++ [f]) = stp (cov fs) f := by unfold cov; rw [List.foldl_append]; rfl
theorem Cv.add {w1 wx wy : World} {F : List Rv} {j : Nat} {a a' : Option Addr} {c c' : Nat} {C : List Rv} {f : Rv} (h : Cv w1 wx F j a c C) (hj : j < F.length) (hf : F.getD j Rv.zero = f) (hfm : f.op = decide (f.hi = [])) (hq : QOwn w1 wy a' c' (C ++ [f]))
    (hst : stp (C.map Rv.fm) f.fm = C.map Rv.fm ++ [f.fm]) : Cv w1 wy F (j + 1) a' c' (C ++ [f]) := by
  refine ⟨hq, ?_, ?_, ?_, by rw [List.length_append, List.length_singleton]; have := h.n; omega⟩
  · rw [take_snocR hj, hf, rowsOf_append, rowsOf_append]
    exact h.s.append (List.Sublist.refl _)
  · intro r hr
    rcases List.mem_append.1 hr with h1 | h1
    · exact h.m r h1
    · rw [List.mem_singleton.1 h1]; exact hfm
  · rw [take_snocR hj, hf, List.map_append, List.map_append, List.map_singleton, cov_snoc, ← h.v, hst]
theorem Cv.pro {w1 wx wy : World} {F : List Rv} {j : Nat} {a : Option Addr} {c : Nat} {C : List Rv} {l f : Rv} (h : Cv w1 wx F j a c (C ++ [l])) (hj : j < F.length) (hf : F.getD j Rv.zero = f) (hfm : f.op = decide (f.hi = [])) (hq : QOwn w1 wy a c (C ++ [prolR l f]))
    (hre : reach l.fm f.lo = true) : Cv w1 wy F (j + 1) a c (C ++ [prolR l f]) := by
  have hlm := h.m l (by simp)
  obtain ⟨p1, p2⟩ := prolR_fm hlm hfm
  refine ⟨hq, ?_, ?_, ?_, by have := h.n; rw [List.length_append, List.length_singleton] at *; omega⟩
  · rw [take_snocR hj, hf, rowsOf_append, rowsOf_append, rowsOf_one, rowsOf_one]
    have hs := h.s
    rw [rowsOf_append, rowsOf_one] at hs
    have h1 : (rowsOf C ++ (prolR l f).rows).Sublist (rowsOf C ++ (l.rows ++ f.rows)) := (List.Sublist.refl _).append (prolR_rows l f)
    rw [← List.append_assoc] at h1
    exact h1.trans (hs.append (List.Sublist.refl _))
  · intro r hr
    rcases List.mem_append.1 hr with h1 | h1
    · exact h.m r (List.mem_append_left _ h1)
    · rw [List.mem_singleton.1 h1]; exact p2
  · have hv := h.v
    rw [take_snocR hj, hf, List.map_append, List.map_append, List.map_singleton, List.map_singleton, cov_snoc, ← hv, p1, List.map_append, List.map_singleton, stp_snoc]
    rw [if_pos (show reach l.fm f.fm.1 = true from hre)]
theorem stp_far {C : List Fm} {l f : Fm} (h : reach l f.1 = false) : stp (C ++ [l]) f = C ++ [l] ++ [f] := by rw [stp_snoc, h]; rfl
theorem QOwn.setv {w1 wx : World} {g c : Nat} {L : List Rv} (h : QOwn w1 wx (some ⟨g, 0, none⟩) c L) (k : Nat) (v : Rv) : QOwn w1 (wx.setCells g (k * 3) v.cs.toList) (some ⟨g, 0, none⟩) c (L.set k v) := by
  have hg : w1.heap.size ≤ g := h.fresh rfl
  refine ⟨h.r.setv k v, h.n, ?_⟩
  show Below _ _ (((wx.setCell ⟨g, k * 3, none⟩ _).setCell ⟨g, k * 3 + 1, none⟩ _).setCell ⟨g, k * 3 + 1 + 1, none⟩ _)
  exact ((h.b.setCell (p := ⟨g, k * 3, none⟩) hg _).setCell (p := ⟨g, k * 3 + 1, none⟩) hg _).setCell (p := ⟨g, k * 3 + 1 + 1, none⟩) hg _
theorem Lst.cell {w wx : World} {a : Option Addr} {c : Nat} {F : List Rv} (h : Lst w wx a c F) {j : Nat} (hj : j < F.length) (hl : F.length ≤ 2199023255552) : ∃ b off, a = some ⟨b, off, none⟩ ∧ wx.rangeAt b (off + j * 3) (F.getD j Rv.zero).cs.toList := (h.q.r.qs h.f.ri hl).at hj
theorem built_drawn (w : World) (q : Rv) (n : Nat) (t1 t2 : TypeId) : ∀ j u, q.cs.toList[j]? = some u → (((w.alloc (.cells q.cs t1)).drewN n).alloc (.cells q.cs t2)).cell? ((⟨w.heap.size + 1, 0, none⟩ : Addr).add j) = some u :=
  built_cell (t := t2) (by have := heap_alloc_new ((w.alloc (.cells q.cs t1)).drewN n) (.cells q.cs t2); rw [show ((w.alloc (.cells q.cs t1)).drewN n).heap.size = w.heap.size + 1 from size_alloc _ _] at this; exact this)
theorem built_at {w : World} (q : Rv) (t : TypeId) {g : Nat} (hg : w.heap.size = g) : ∀ j u, q.cs.toList[j]? = some u → (w.alloc (.cells q.cs t)).cell? ((⟨g, 0, none⟩ : Addr).add j) = some u := by
  subst hg
  exact built_cell (t := t) (heap_alloc_new _ _)
theorem o3_keep {w w' : World} {g o : Nat} {a b c : Value} (h : w.cell? ⟨g, o, none⟩ = some a ∧ w.cell? ⟨g, o + 1, none⟩ = some b ∧ w.cell? ⟨g, o + 2, none⟩ = some c) (hb : Below w.heap.size w w') : w'.cell? ⟨g, o, none⟩ = some a ∧ w'.cell? ⟨g, o + 1, none⟩ = some b ∧ w'.cell? ⟨g, o + 2, none⟩ = some c :=
  ⟨(hb.cell (p := ⟨g, o, none⟩) (block_lt_of_cell h.1)).trans h.1, (hb.cell (p := ⟨g, o + 1, none⟩) (block_lt_of_cell h.2.1)).trans h.2.1, (hb.cell (p := ⟨g, o + 2, none⟩) (block_lt_of_cell h.2.2)).trans h.2.2⟩
theorem Qw.last {w : World} {g c : Nat} {C : List Rv} {l : Rv} (h : Qw w (some ⟨g, 0, none⟩) c (C ++ [l])) : w.cell? ⟨g, C.length * 3, none⟩ = some (.slice l.aL l.lo.length l.cL) ∧ w.cell? ⟨g, C.length * 3 + 1, none⟩ = some (.slice l.aH l.hi.length l.cH) ∧ w.cell? ⟨g, C.length * 3 + 2, none⟩ = some (.bool l.op) := by
  have hc : ∀ j, j < 3 → ∀ u, l.cs.toList[j]? = some u → w.cell? ⟨g, C.length * 3 + j, none⟩ = some u := fun j hj u hu => by
    have h1 := h.cells (C.length * 3 + j) u (by
      have := Qc_get (C ++ [l]) C.length j (by simp) hj
      rw [this]
      simpa using hu)
    rw [Addr.add_mid, Nat.zero_add] at h1
    exact h1
  exact ⟨hc 0 (by decide) _ rfl, hc 1 (by decide) _ rfl, hc 2 (by decide) _ rfl⟩
theorem Qw.thaw {w : World} {g c : Nat} {C : List Rv} (h : Qw w (some ⟨g, 0, none⟩) c C) (i : Nat) : w.frozen? ⟨g, i, none⟩ = false := by
  rcases h.cases with ⟨h0, _⟩ | ⟨g', cur, h0, hg, _⟩
  · cases h0
  · simp only [Option.some.injEq, Addr.mk.injEq] at h0
    obtain ⟨rfl, _⟩ := h0
    exact frozen_of_row _ _ _ _ _ hg
theorem set_last {C : List Rv} (l v : Rv) : (C ++ [l]).set C.length v = C ++ [v] := by simp
end Go.Proofs.Ytbobnfjbbablkab
