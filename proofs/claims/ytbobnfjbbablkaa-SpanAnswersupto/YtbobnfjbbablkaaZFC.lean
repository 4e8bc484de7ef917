import Derived.Test.YtbobnfjbbablkaaZEU
namespace Go.Proofs.Ytbobnfjbbablkaa
open Go.RowKit

def Ov.zero : Ov := ⟨0, none, 0, [], none, 0, [], Rv.zero, Rv.zero, none, 0, []⟩
/-- calls that came in -/
def Oz (w : World) (a : Option Addr) (L : List Ov) : Prop :=
  (∀ o ∈ L, Oi w o ∧ Ob o) ∧ L.length ≤ 1048576 ∧ (L = [] ∨ ∃ b off, a = some ⟨b, off, none⟩ ∧ ∀ r, r < L.length → w.rangeAt b (off + r * 10) (L.getD r Ov.zero).cs.toList)
theorem getD_memO {L : List Ov} {r : Nat} (h : r < L.length) : L.getD r Ov.zero ∈ L := by simp [h]
theorem Oz.at {w : World} {a : Option Addr} {L : List Ov} (h : Oz w a L) {r : Nat} (hr : r < L.length) : ∃ b off, a = some ⟨b, off, none⟩ ∧ w.rangeAt b (off + r * 10) (L.getD r Ov.zero).cs.toList := by
  rcases h.2.2 with rfl | ⟨b, off, e, hc⟩
  · simp at hr
  · exact ⟨b, off, e, hc r hr⟩
/-- the ten cells of a call, from some place on -/
abbrev Tn (w : World) (b k : Nat) (o : Ov) : Prop := w.cell? ⟨b, k, none⟩ = some (.int .i64 o.kd) ∧ w.cell? ⟨b, k + 1, none⟩ = some (.slice o.aA o.A.length o.cA) ∧ w.cell? ⟨b, k + 2, none⟩ = some (.slice o.aB o.B.length o.cB) ∧ w.cell? ⟨b, k + 3, none⟩ = some (.slice o.R.aL o.R.lo.length o.R.cL) ∧ w.cell? ⟨b, k + 4, none⟩ = some (.slice o.R.aH o.R.hi.length o.R.cH) ∧ w.cell? ⟨b, k + 5, none⟩ = some (.bool o.R.op) ∧ w.cell? ⟨b, k + 6, none⟩ = some (.slice o.S.aL o.S.lo.length o.S.cL) ∧ w.cell? ⟨b, k + 7, none⟩ = some (.slice o.S.aH o.S.hi.length o.S.cH) ∧ w.cell? ⟨b, k + 8, none⟩ = some (.bool o.S.op) ∧ w.cell? ⟨b, k + 9, none⟩ = some (.slice o.aM o.M.length o.cM)
theorem Tn.of {w : World} {b k : Nat} {o : Ov} (h : w.rangeAt b k o.cs.toList) : Tn w b k o :=
  ⟨h 0 _ rfl, h 1 _ rfl, h 2 _ rfl, h 3 _ rfl, h 4 _ rfl, h 5 _ rfl, h 6 _ rfl, h 7 _ rfl, h 8 _ rfl, h 9 _ rfl⟩
theorem Tn.keep {w w' : World} {b k : Nat} {o : Ov} (h : Tn w b k o) (hb : Below w.heap.size w w') : Tn w' b k o := by
  obtain ⟨h0, h1, h2, h3, h4, h5, h6, h7, h8, h9⟩ := h
  exact ⟨(hb.cell (block_lt_of_cell h0)).trans h0, (hb.cell (block_lt_of_cell h1)).trans h1, (hb.cell (block_lt_of_cell h2)).trans h2, (hb.cell (block_lt_of_cell h3)).trans h3, (hb.cell (block_lt_of_cell h4)).trans h4, (hb.cell (block_lt_of_cell h5)).trans h5, (hb.cell (block_lt_of_cell h6)).trans h6, (hb.cell (block_lt_of_cell h7)).trans h7, (hb.cell (block_lt_of_cell h8)).trans h8, (hb.cell (block_lt_of_cell h9)).trans h9⟩
/-- the call that spared made may be read -/
theorem Sp.ob {w W : World} {o p : Ov} (h : Sp w W o p) (hb : Ob o) : Ob p := by
  have hl : p.M.length = o.M.length := by have := congrArg List.length h.M; simpa using this
  have eR := h.R
  have eS := h.S
  simp only [Rv.rg, Rg.mk.injEq] at eR eS
  refine ⟨by rw [h.A]; exact hb.a, by rw [h.B]; exact hb.b, by rw [eR.1]; exact hb.rl, by rw [eR.2.1]; exact hb.rh, by rw [eS.1]; exact hb.sl, by rw [eS.2.1]; exact hb.sh, by rw [hl]; exact hb.m, fun r hr => ?_⟩
  have hs := rows_sub hr
  exact ⟨(h.f.s ⟨r.aL, r.cL, r.lo⟩ (List.mem_append.2 (.inr (hs.subset (by simp [Rv.rows]))))).n, (h.f.s ⟨r.aH, r.cH, r.hi⟩ (List.mem_append.2 (.inr (hs.subset (by simp [Rv.rows]))))).n⟩
theorem Sp.oi {w W : World} {o p : Ov} (h : Sp w W o p) (hm : p.M.length ≤ 1048576) : Oi W p := by
  have one : ∀ t ∈ ([] ++ [⟨p.aA, p.cA, p.A⟩] ++ [⟨p.aB, p.cB, p.B⟩] ++ p.R.rows ++ p.S.rows ++ rowsOf p.M : List Br), Bs W t.a t.l ∧ t.l.length ≤ t.c := fun t ht => ⟨(h.f.s t ht).bs, (h.f.s t ht).rw'.cap⟩
  have rr : ∀ r : Rv, (∀ t ∈ r.rows, Bs W t.a t.l ∧ t.l.length ≤ t.c) → Ri W r := fun r h => by
    have h1 := h ⟨r.aL, r.cL, r.lo⟩ (by simp [Rv.rows])
    have h2 := h ⟨r.aH, r.cH, r.hi⟩ (by simp [Rv.rows])
    exact ⟨h1.1, h1.2, h2.1, h2.2⟩
  obtain ⟨gM, D, e1, e2, _, hq, _⟩ := h.q
  have qf : Qw W p.aM p.cM p.M := by
    rw [e1, e2]
    rcases hq.front with h1 | h1
    · exact h1
    · cases h1
  exact ⟨(one ⟨p.aA, p.cA, p.A⟩ (by simp)).1, (one ⟨p.aA, p.cA, p.A⟩ (by simp)).2, (one ⟨p.aB, p.cB, p.B⟩ (by simp)).1, (one ⟨p.aB, p.cB, p.B⟩ (by simp)).2, rr p.R fun t ht => one t (by simp [ht]), rr p.S fun t ht => one t (by simp [ht]),
    qf.qs (fun r hr => rr r fun t ht => one t (List.mem_append.2 (.inr ((rows_sub hr).subset ht)))) (by omega), by rw [e2]; omega⟩
theorem ans_eq {o p : Ov} (h1 : p.kd = o.kd) (h2 : p.A = o.A) (h3 : p.B = o.B) (h4 : p.R.rg = o.R.rg) (h5 : p.S.rg = o.S.rg) (h6 : p.M.map Rv.rg = o.M.map Rv.rg) : p.ans = o.ans := by
  unfold Ov.ans
  rw [h1, h2, h3, h4, h5, h6]
theorem Sp.keep {w W W' : World} {o p : Ov} (h : Sp w W o p) (hb : Below W.heap.size W W') : Sp w W' o p := by
  obtain ⟨gM, D, e1, e2, e3, hq, e4, hk⟩ := h.q
  exact ⟨h.kd, h.A, h.B, h.R, h.S, h.M, h.f.keep hb, gM, D, e1, e2, e3, hq.keep hb, e4, fun i hi => (hk i hi).keep hb⟩
/-- the call behind spoil: other bytes, where they lay -/
def spo (p : Ov) (G : Nat → List Nat) : Ov :=
  ⟨p.kd, p.aA, p.cA, G 0, p.aB, p.cB, G 1, ⟨p.R.aL, p.R.cL, G 2, p.R.aH, p.R.cH, G 3, p.R.op⟩, ⟨p.S.aL, p.S.cL, G 4, p.S.aH, p.S.cH, G 5, p.S.op⟩, p.aM, p.cM,
    (List.range p.M.length).map fun i => ⟨(p.M.getD i Rv.zero).aL, (p.M.getD i Rv.zero).cL, G (6 + 2 * i), (p.M.getD i Rv.zero).aH, (p.M.getD i Rv.zero).cH, G (6 + 2 * i + 1), (p.M.getD i Rv.zero).op⟩⟩
end Go.Proofs.Ytbobnfjbbablkaa

namespace Go.Proofs.Ytbobnfjbbablkaa
open Go.RowKit

def rowsO (p : Ov) : List Br := [(⟨p.aA, p.cA, p.A⟩ : Br), ⟨p.aB, p.cB, p.B⟩, ⟨p.R.aL, p.R.cL, p.R.lo⟩, ⟨p.R.aH, p.R.cH, p.R.hi⟩, ⟨p.S.aL, p.S.cL, p.S.lo⟩, ⟨p.S.aH, p.S.cH, p.S.hi⟩] ++ rowsOf p.M
theorem rowsO_eq (p : Ov) : [] ++ [⟨p.aA, p.cA, p.A⟩] ++ [⟨p.aB, p.cB, p.B⟩] ++ p.R.rows ++ p.S.rows ++ rowsOf p.M = rowsO p := by simp [rowsO, Rv.rows]
theorem rowsO_len (p : Ov) : (rowsO p).length = 6 + 2 * p.M.length := by unfold rowsO; rw [List.length_append, rowsOf_len]; simp
theorem rowsOf_get : ∀ (M : List Rv) (i : Nat), i < M.length → (rowsOf M).getD (2 * i) Br0 = ⟨(M.getD i Rv.zero).aL, (M.getD i Rv.zero).cL, (M.getD i Rv.zero).lo⟩ ∧ (rowsOf M).getD (2 * i + 1) Br0 = ⟨(M.getD i Rv.zero).aH, (M.getD i Rv.zero).cH, (M.getD i Rv.zero).hi⟩
  | [], i, h => by simp at h
  | r :: M, 0, _ => by rw [rowsOf_cons]; exact ⟨rfl, rfl⟩
  | r :: M, i + 1, h => by
    have ih := rowsOf_get M i (by simpa using h)
    rw [rowsOf_cons, show 2 * (i + 1) = 2 * i + 2 by omega]
    exact ih
theorem rowsO_get (p : Ov) (i : Nat) (h : i < p.M.length) : (rowsO p).getD (6 + 2 * i) Br0 = ⟨(p.M.getD i Rv.zero).aL, (p.M.getD i Rv.zero).cL, (p.M.getD i Rv.zero).lo⟩ ∧ (rowsO p).getD (6 + 2 * i + 1) Br0 = ⟨(p.M.getD i Rv.zero).aH, (p.M.getD i Rv.zero).cH, (p.M.getD i Rv.zero).hi⟩ := by
  have h1 := rowsOf_get p.M i h
  have e : ∀ k, (rowsO p).getD (6 + k) Br0 = (rowsOf p.M).getD k Br0 := fun k => by
    unfold rowsO
    rw [show 6 + k = k + 6 by omega]
    rfl
  rw [Nat.add_assoc, e, e]
  exact h1
theorem Qw.range {w : World} {g cap : Nat} {L : List Rv} (h : Qw w (some ⟨g, 0, none⟩) cap L) {r : Nat} (hr : r < L.length) : w.rangeAt g (0 + r * 3) (L.getD r Rv.zero).cs.toList := by
  intro j u hu
  have hj : j < 3 := (List.getElem?_eq_some_iff.1 hu).1
  have := h.cells (r * 3 + j) u (by rw [Qc_get L r j hr hj]; exact hu)
  rw [Addr.add_mid, Nat.zero_add] at this
  rw [Nat.zero_add]
  exact this
theorem spo_getD (p : Ov) (G : Nat → List Nat) {i : Nat} (hi : i < p.M.length) : (spo p G).M.getD i Rv.zero = ⟨(p.M.getD i Rv.zero).aL, (p.M.getD i Rv.zero).cL, G (6 + 2 * i), (p.M.getD i Rv.zero).aH, (p.M.getD i Rv.zero).cH, G (6 + 2 * i + 1), (p.M.getD i Rv.zero).op⟩ := by
  unfold spo
  simp [hi]
theorem spo_len (p : Ov) (G : Nat → List Nat) : (spo p G).M.length = p.M.length := by unfold spo; simp
theorem spo_oi {w W W' : World} {p : Ov} {G : Nat → List Nat} (hf : Fam w W (rowsO p)) (hq : Qw W p.aM p.cM p.M) (hb0 : Ob p) (hg : ∀ i, i < (rowsO p).length → (G i).length = (tL (rowsO p) i).length ∧ B8 (G i)) (hR : RowsG W' (rowsO p).length (tA (rowsO p)) (tC (rowsO p)) G) (hb : But (InRows (rowsO p).length (tA (rowsO p))) W W') :
    Oi W' (spo p G) ∧ Ob (spo p G) ∧ (spo p G).cs = p.cs := by
  have hn := rowsO_len p
  have bs : ∀ i, i < 6 + 2 * p.M.length → Bs W' (tA (rowsO p) i) (G i) ∧ (G i).length ≤ tC (rowsO p) i := fun i hi => by
    have h1 := hR i (by omega)
    exact ⟨h1.bs (hg i (by omega)).2 h1.len_le, h1.cap⟩
  have ln : ∀ i, i < 6 + 2 * p.M.length → (G i).length = ((rowsO p).getD i Br0).l.length := fun i hi => (hg i (by omega)).1
  have l0 := ln 0 (by omega)
  have l1 := ln 1 (by omega)
  have l2 := ln 2 (by omega)
  have l3 := ln 3 (by omega)
  have l4 := ln 4 (by omega)
  have l5 := ln 5 (by omega)
  have lm : ∀ i, i < p.M.length → (G (6 + 2 * i)).length = (p.M.getD i Rv.zero).lo.length ∧ (G (6 + 2 * i + 1)).length = (p.M.getD i Rv.zero).hi.length := fun i hi => by
    have h1 := ln (6 + 2 * i) (by omega)
    have h2 := ln (6 + 2 * i + 1) (by omega)
    rw [(rowsO_get p i hi).1] at h1
    rw [(rowsO_get p i hi).2] at h2
    exact ⟨h1, h2⟩
  have bm : ∀ i, i < p.M.length → Ri W' ((spo p G).M.getD i Rv.zero) := fun i hi => by
    have h1 := bs (6 + 2 * i) (by omega)
    have h2 := bs (6 + 2 * i + 1) (by omega)
    unfold tA tC at h1 h2
    rw [(rowsO_get p i hi).1] at h1
    rw [(rowsO_get p i hi).2] at h2
    rw [spo_getD p G hi]
    exact ⟨h1.1, h1.2, h2.1, h2.2⟩
  have sl := spo_len p G
  have mem : ∀ r ∈ (spo p G).M, ∃ i, i < p.M.length ∧ r = (spo p G).M.getD i Rv.zero := fun r hr => by
    obtain ⟨i, hi, rfl⟩ := List.mem_iff_getElem.1 hr
    exact ⟨i, by omega, by simp [hi]⟩
  have hQ2 : Qs W' p.aM (spo p G).M := by
    refine ⟨fun r hr => ?_, by rw [sl]; have := hb0.m; omega, ?_⟩
    · obtain ⟨i, hi, rfl⟩ := mem r hr
      exact bm i hi
    · by_cases h0 : p.M = []
      · left
        apply List.eq_nil_of_length_eq_zero
        rw [sl, h0]; rfl
      · right
        obtain ⟨g, e, _⟩ := hq.addr (List.length_pos_iff.2 h0)
        have hq' := hq
        rw [e] at hq'
        obtain ⟨cs, hk⟩ := hq'.kind
        have q2 : Qw W' (some ⟨g, 0, none⟩) p.cM p.M := hq'.but hb fun x hx ⟨i, hi, y, hy, ee⟩ => by
          cases hx
          exact (hf.own _ (t_mem hi)).1.r.notKind hk (by decide) hy ee
        refine ⟨g, 0, e, fun r hr => ?_⟩
        rw [sl] at hr
        have h1 := q2.range hr
        rw [spo_getD p G hr]
        have h2 := lm r hr
        unfold Rv.cs at h1 ⊢
        dsimp only
        rw [h2.1, h2.2]
        exact h1
  refine ⟨⟨(bs 0 (by omega)).1, (bs 0 (by omega)).2, (bs 1 (by omega)).1, (bs 1 (by omega)).2, ⟨(bs 2 (by omega)).1, (bs 2 (by omega)).2, (bs 3 (by omega)).1, (bs 3 (by omega)).2⟩, ⟨(bs 4 (by omega)).1, (bs 4 (by omega)).2, (bs 5 (by omega)).1, (bs 5 (by omega)).2⟩, hQ2, ?_⟩, ⟨?_, ?_, ?_, ?_, ?_, ?_, ?_, fun r hr => ?_⟩, ?_⟩
  · rw [sl]
    rcases hq.cases with ⟨_, _, h0⟩ | ⟨_, _, _, _, h1, _⟩
    · rw [h0]; exact Nat.zero_le _
    · exact h1
  · exact Nat.le_trans (Nat.le_of_eq l0) hb0.a
  · exact Nat.le_trans (Nat.le_of_eq l1) hb0.b
  · exact Nat.le_trans (Nat.le_of_eq l2) hb0.rl
  · exact Nat.le_trans (Nat.le_of_eq l3) hb0.rh
  · exact Nat.le_trans (Nat.le_of_eq l4) hb0.sl
  · exact Nat.le_trans (Nat.le_of_eq l5) hb0.sh
  · rw [sl]; exact hb0.m
  · obtain ⟨i, hi, rfl⟩ := mem r hr
    rw [spo_getD p G hi]
    have h1 := lm i hi
    have h2 := hb0.ml _ (getD_memR hi)
    exact ⟨by rw [h1.1]; exact h2.1, by rw [h1.2]; exact h2.2⟩
  · unfold Ov.cs
    rw [sl]
    have e0 : (spo p G).A.length = p.A.length := l0
    have e1 : (spo p G).B.length = p.B.length := l1
    have e2 : (spo p G).R.lo.length = p.R.lo.length := l2
    have e3 : (spo p G).R.hi.length = p.R.hi.length := l3
    have e4 : (spo p G).S.lo.length = p.S.lo.length := l4
    have e5 : (spo p G).S.hi.length = p.S.hi.length := l5
    rw [e0, e1, e2, e3, e4, e5]
    rfl
theorem gspoil_any (w w0 : World) (p : Ov) (hf : Fam w0 w (rowsO p)) (hq : Qw w p.aM p.cM p.M) (hi : Oi w p) (hb0 : Ob p) (hn : ∀ t ∈ rowsO p, t.l.length ≤ 1048576) :
    Calls Try.prog 15 #[.agg p.cs] w fun e w' => e = .returned (.tuple #[]) ∧ ∃ p' : Ov, Oi w' p' ∧ Ob p' ∧ p'.cs = p.cs ∧ But (InRows (rowsO p).length (tA (rowsO p))) w w' := by
  have hc := gspoil_lit w p.kd p.aA p.cA p.A p.aB p.cB p.B p.R.aL p.R.cL p.R.lo p.R.aH p.R.cH p.R.hi p.R.op p.S.aL p.S.cL p.S.lo p.S.aH p.S.cH p.S.hi p.S.op p.aM p.cM p.M w0 hf hi.m hb0.m hn
  refine hc.mono ?_
  rintro e w' ⟨rfl, G, h1, h2, h3⟩
  obtain ⟨k1, k2, k3⟩ := spo_oi hf hq hb0 h1 h2 h3
  exact ⟨rfl, spo p G, k1, k2, k3, h3⟩
end Go.Proofs.Ytbobnfjbbablkaa

namespace Go.Proofs.Ytbobnfjbbablkaa
open Go.RowKit

def ra (a : Av) : List Br := ⟨a.aK, a.cK, a.k⟩ :: rowsOf a.M
theorem four_av {W : World} {g : Nat} {a : Av} (h : W.heap[g]? = some (.cells a.cs 32 (0, 0))) : W.cell? ⟨g, 0, none⟩ = some (.int .i64 a.n) ∧ W.cell? ⟨g, 1, none⟩ = some (.bool a.is) ∧ W.cell? ⟨g, 2, none⟩ = some (.slice a.aK a.k.length a.cK) ∧ W.cell? ⟨g, 3, none⟩ = some (.slice a.aM a.M.length a.cM) := four_blocks h
theorem ten_ov {W : World} {g : Nat} {o : Ov} (h : W.heap[g]? = some (.cells o.cs 29 (0, 0))) : W.cell? ⟨g, 0, none⟩ = some (.int .i64 o.kd) ∧ W.cell? ⟨g, 1, none⟩ = some (.slice o.aA o.A.length o.cA) ∧ W.cell? ⟨g, 2, none⟩ = some (.slice o.aB o.B.length o.cB) ∧ W.cell? ⟨g, 3, none⟩ = some (.slice o.R.aL o.R.lo.length o.R.cL) ∧ W.cell? ⟨g, 4, none⟩ = some (.slice o.R.aH o.R.hi.length o.R.cH) ∧ W.cell? ⟨g, 5, none⟩ = some (.bool o.R.op) ∧ W.cell? ⟨g, 6, none⟩ = some (.slice o.S.aL o.S.lo.length o.S.cL) ∧ W.cell? ⟨g, 7, none⟩ = some (.slice o.S.aH o.S.hi.length o.S.cH) ∧ W.cell? ⟨g, 8, none⟩ = some (.bool o.S.op) ∧ W.cell? ⟨g, 9, none⟩ = some (.slice o.aM o.M.length o.cM) := ten10 h
theorem Ao.pre' {w w0 W : World} {a : Av} (h : Ao w0 W a) (hb : Below w.heap.size w w0) : Ao w W a := Ao.pre hb h
/-- carried over a call that changes older blocks -/
theorem Fam.but2 {S : Nat → Prop} {B0 w W W' : World} {T : List Br} (h : Fam B0 W T) (hp : Below w.heap.size w B0) (hb : But S W W') (hs : ∀ k, S k → k < B0.heap.size) (hw : Below w.heap.size w W') : Fam w W' T :=
  ⟨fun t ht => by
    obtain ⟨o1, o2⟩ := h.own t ht
    exact ⟨⟨o1.r.but hb fun x hx e => by have := o1.fresh hx; have := hs _ e; omega, o1.n.mono hp.size, hw⟩, o2⟩, h.dist⟩
theorem Ao.but2 {S : Nat → Prop} {B0 w W W' : World} {a : Av} (h : Ao B0 W a) (hp : Below w.heap.size w B0) (hb : But S W W') (hs : ∀ k, S k → k < B0.heap.size) (hw : Below w.heap.size w W') : Ao w W' a :=
  ⟨h.f.but2 hp hb hs hw, ⟨h.q.r.but hb fun x hx e => by have := h.q.n.at hx; have := hs _ e; omega, h.q.n.mono hp.size, hw⟩, h.s⟩
theorem Aw.but2 {S : Nat → Prop} {B0 w W W' : World} {a : Av} (h : Aw B0 W a) (hp : Below w.heap.size w B0) (hb : But S W W') (hs : ∀ k, S k → k < B0.heap.size) (hw : Below w.heap.size w W') : Aw w W' a :=
  ⟨h.k.but hb fun x hx _ e => by have := h.nk.at hx; have := hs _ e; omega,
   h.m.but hb (fun x hx e => by have := h.nm.at hx; have := hs _ e; omega) fun r hr => ⟨fun x hx e => by have := (h.nr r hr).1.at hx; have := hs _ e; omega, fun x hx e => by have := (h.nr r hr).2.at hx; have := hs _ e; omega⟩,
   h.nk.mono hp.size, h.nm.mono hp.size, fun r hr => ⟨(h.nr r hr).1.mono hp.size, (h.nr r hr).2.mono hp.size⟩, hw, h.s⟩
/-- a round, ahead of spoil -/
structure LA (wr V1 W : World) (o p : Ov) (want a b : Av) (g4 g5 g6 g7 : Nat) : Prop where
  sp : Sp wr W o p
  m4 : W.heap[g4]? = some (.cells p.cs 29 (0, 0))
  m5 : W.heap[g5]? = some (.cells want.cs 32 (0, 0))
  m6 : W.heap[g6]? = some (.cells a.cs 32 (0, 0))
  m7 : W.heap[g7]? = some (.cells b.cs 32 (0, 0))
  w : Aw V1 W want
  f : Fam V1 W (ra a ++ ra b)
  a : Ao V1 W a
  b : Ao V1 W b
  v : Below wr.heap.size wr V1
  r : ∀ t ∈ rowsO p, ∀ x, t.a = some x → x.block < V1.heap.size
theorem LA.keep {wr V1 W W' : World} {o p : Ov} {want a b : Av} {g4 g5 g6 g7 : Nat} (h : LA wr V1 W o p want a b g4 g5 g6 g7) (hb : Below W.heap.size W W') : LA wr V1 W' o p want a b g4 g5 g6 g7 :=
  ⟨h.sp.keep hb, blk_keep h.m4 hb, blk_keep h.m5 hb, blk_keep h.m6 hb, blk_keep h.m7 hb, h.w.keep hb, h.f.keep hb, h.a.keep hb, h.b.keep hb, h.v, h.r⟩
/-- a round, behind spoil -/
structure LB (wr W : World) (p : Ov) (want a b : Av) (g4 g5 g6 g7 : Nat) : Prop where
  i : Oi W p
  o : Ob p
  m4 : W.heap[g4]? = some (.cells p.cs 29 (0, 0))
  m5 : W.heap[g5]? = some (.cells want.cs 32 (0, 0))
  m6 : W.heap[g6]? = some (.cells a.cs 32 (0, 0))
  m7 : W.heap[g7]? = some (.cells b.cs 32 (0, 0))
  w : Aw wr W want
  f : Fam wr W (ra a ++ ra b)
  a : Ao wr W a
  b : Ao wr W b
theorem LB.keep {wr W W' : World} {p : Ov} {want a b : Av} {g4 g5 g6 g7 : Nat} (h : LB wr W p want a b g4 g5 g6 g7) (hb : Below W.heap.size W W') : LB wr W' p want a b g4 g5 g6 g7 :=
  ⟨h.i.keep hb, h.o, blk_keep h.m4 hb, blk_keep h.m5 hb, blk_keep h.m6 hb, blk_keep h.m7 hb, h.w.keep hb, h.f.keep hb, h.a.keep hb, h.b.keep hb⟩
theorem Sp.fam {w W : World} {o p : Ov} (h : Sp w W o p) : Fam w W (rowsO p) := by rw [← rowsO_eq]; exact h.f.fam
theorem Sp.qw {w W : World} {o p : Ov} (h : Sp w W o p) : Qw W p.aM p.cM p.M := by
  obtain ⟨gM, D, e1, e2, _, hq, _⟩ := h.q
  rw [e1, e2]
  rcases hq.front with h1 | h1
  · exact h1
  · cases h1
theorem Sp.short {w W : World} {o p : Ov} (h : Sp w W o p) : ∀ t ∈ rowsO p, t.l.length ≤ 1048576 := fun t ht => (h.f.s t (by rw [rowsO_eq]; exact ht)).n
theorem LA.spoil {wr V1 W W' : World} {o p p' : Ov} {want a b : Av} {g4 g5 g6 g7 : Nat} (h : LA wr V1 W o p want a b g4 g5 g6 g7) (hi : Oi W' p') (ho : Ob p') (hc : p'.cs = p.cs) (hb : But (InRows (rowsO p).length (tA (rowsO p))) W W') : LB wr W' p' want a b g4 g5 g6 g7 := by
  have hs : ∀ k, InRows (rowsO p).length (tA (rowsO p)) k → k < V1.heap.size := fun k ⟨i, hi, x, hx, e⟩ => by
    have := h.r _ (t_mem hi) x hx
    omega
  have fm := h.sp.fam
  have hw : Below wr.heap.size wr W' := ((But.ofBelow (S := InRows (rowsO p).length (tA (rowsO p))) h.sp.f.b).trans hb fun _ _ e => e).below fun k hk ⟨i, hi, x, hx, e⟩ => by
    have := (fm.own _ (t_mem hi)).1.fresh hx
    omega
  have kp : ∀ {g : Nat} {cs : Array Value} {t : TypeId}, t ≠ 5 → W.heap[g]? = some (.cells cs t (0, 0)) → W'.heap[g]? = some (.cells cs t (0, 0)) := fun ht hg =>
    (hb.block _ (Array.getElem?_eq_some_iff.1 hg).1 fun ⟨i, hi, x, hx, e⟩ => (fm.own _ (t_mem hi)).1.r.notKind hg ht hx e).trans hg
  exact ⟨hi, ho, by rw [hc]; exact kp (by decide) h.m4, kp (by decide) h.m5, kp (by decide) h.m6, kp (by decide) h.m7, h.w.but2 h.v hb hs hw, h.f.but2 h.v hb hs hw, h.a.but2 h.v hb hs hw, h.b.but2 h.v hb hs hw⟩
theorem LA.make {wr w1 w2 w3 w4 : World} {o p : Ov} {want a b : Av} (sp : Sp wr w1 o p) (hw : Aw (w1.alloc (.cells p.cs 29)) w2 want) (ha : Ao (w2.alloc (.cells want.cs 32)) w3 a) (hb : Ao (w3.alloc (.cells a.cs 32)) w4 b) :
    LA wr (w1.alloc (.cells p.cs 29)) (w4.alloc (.cells b.cs 32)) o p want a b w1.heap.size w2.heap.size w3.heap.size w4.heap.size := by
  have b12 : Below (w1.alloc (.cells p.cs 29)).heap.size (w1.alloc (.cells p.cs 29)) (w2.alloc (.cells want.cs 32)) := bt hw.b (al _ _)
  have b23 : Below (w2.alloc (.cells want.cs 32)).heap.size (w2.alloc (.cells want.cs 32)) (w3.alloc (.cells a.cs 32)) := bt ha.q.b (al _ _)
  have b34 : Below (w3.alloc (.cells a.cs 32)).heap.size (w3.alloc (.cells a.cs 32)) (w4.alloc (.cells b.cs 32)) := bt hb.q.b (al _ _)
  have b13 := bt b12 b23
  have b14 := bt b13 b34
  have b24 := bt b23 b34
  have a3 := (ha.pre' b12).keep (al w3 (.cells a.cs 32))
  have a4 := a3.keep b34
  have bb := (hb.pre' b13).keep (al w4 (.cells b.cs 32))
  have b0 := bt (al w1 (.cells p.cs 29)) b14
  refine ⟨sp.keep b0, blk_keep (heap_alloc_new _ _) b14, blk_keep (heap_alloc_new _ _) b24, blk_keep (heap_alloc_new _ _) b34, heap_alloc_new _ _, (hw.keep (al _ _)).keep b24, ?_, a4, bb, bt sp.f.b (al _ _), fun t ht x hx => ?_⟩
  · exact a3.f.add (hb.keep (al w4 (.cells b.cs 32))).f b34 b13
  · have := (sp.fam.own t ht).1.r.lt hx
    rw [size_alloc]
    omega
theorem ra_val (a b : Av) (c : Av) : ∀ n, (ra a ++ ra b ++ ra c).map bv = (List.range n).map (fun i => Value.slice (tA (ra a ++ ra b ++ ra c) i) (tL (ra a ++ ra b ++ ra c) i).length (tC (ra a ++ ra b ++ ra c) i)) ∨ n ≠ (ra a ++ ra b ++ ra c).length := by
  intro n
  by_cases h : n = (ra a ++ ra b ++ ra c).length
  · left
    subst h
    apply List.ext_getElem?
    intro i
    by_cases hi : i < (ra a ++ ra b ++ ra c).length
    · rw [bv_get _ hi]; simp only [List.getElem?_map, List.getElem?_range hi, Option.map_some]
    · rw [List.getElem?_eq_none (by rw [List.length_map]; omega), List.getElem?_eq_none (by rw [List.length_map, List.length_range]; omega)]
  · exact .inr h
theorem ra_len (a : Av) : (ra a).length = 1 + 2 * a.M.length := by unfold ra; rw [List.length_cons, rowsOf_len]; omega
end Go.Proofs.Ytbobnfjbbablkaa

namespace Go.Proofs.Ytbobnfjbbablkaa
open Go.RowKit

/-- no answer has long lists -/
structure Sh (x : An) : Prop where
  k : x.k.length ≤ 1048577
  l : ∀ t ∈ x.l, t.2.1.length ≤ 1048577 ∧ t.2.2.length ≤ 1048577
theorem next_len (l : List Nat) : (next l).length ≤ 24 := by
  unfold next
  split
  · next h => simp; omega
  · have := beh_len (l.take 24)
    rw [List.length_take] at this
    omega
theorem KK.len {k : List Nat} (h : KK k) : k.length ≤ 24 := (isK_iff.1 h.1).2
theorem between_len {a b : List Nat} (hb : B8 b) : (between a b).1.length ≤ 24 := by
  unfold between
  split
  · next h => rw [(btw_spec a b h.1 hb).2.2.1]; omega
  · simp
theorem ans_sh {w : World} {o : Ov} (hi : Oi w o) (hb : Ob o) : Sh o.ans := by
  have hR := hi.r.b8
  have hl : ∀ r ∈ o.M.map Rv.rg, r.b8 := fun r hr => by
    obtain ⟨q, hq, rfl⟩ := List.mem_map.1 hr
    exact (hi.m.1 q hq).b8
  have h1 := hb.a
  have h3 := hb.rl
  have h4 := hb.rh
  have h5 := hb.sl
  have h6 := hb.sh
  have gl : (grt o.R.lo o.S.lo).length ≤ 1048577 := grt_len (by omega) (by omega)
  have ll : (lsr o.R.hi o.S.hi).length ≤ 1048577 := lsr_len (by omega) (by omega)
  have gk : (grt o.R.lo o.A).length ≤ 1048577 := grt_len (by omega) (by omega)
  have lk : (lsr o.R.hi o.A).length ≤ 1048577 := lsr_len (by omega) (by omega)
  have bl := beh_len o.A
  have e1 : splitL o.R.rg o.A = ⟨o.R.lo, if o.R.op then o.A else lsr o.R.hi o.A, false⟩ := splitL_eq o.R.lo o.R.hi o.R.op o.A
  have e2 : splitH o.R.rg o.A = ⟨grt o.R.lo o.A, if o.R.op then [] else o.R.hi, o.R.op⟩ := splitH_eq o.R.lo o.R.hi o.R.op o.A
  have cv : ∀ t ∈ (cover (o.M.map Rv.rg)).map (fun f => tpr (rgOf f)), t.2.1.length ≤ 1048577 ∧ t.2.2.length ≤ 1048577 := fun t ht => by
    obtain ⟨f, hf, rfl⟩ := List.mem_map.1 ht
    have hok := (cover_ok hl).1.1 f hf
    have k1 := hok.1.len
    refine ⟨by show f.1.length ≤ _; omega, ?_⟩
    show f.2.length ≤ _
    rcases hok.2 with h | h
    · rw [h]; simp
    · have := h.1.len; omega
  have mt : (meet o.R.rg o.S.rg).lo.length ≤ 1048577 ∧ (meet o.R.rg o.S.rg).hi.length ≤ 1048577 := by
    refine ⟨gl, ?_⟩
    show (if o.R.op then (if o.S.op then [] else o.S.hi) else (if o.S.op then o.R.hi else lsr o.R.hi o.S.hi)).length ≤ _
    split <;> split <;> first | simp | omega
  have sl : (splitL o.R.rg o.A).lo.length ≤ 1048577 ∧ (splitL o.R.rg o.A).hi.length ≤ 1048577 := by
    rw [e1]
    refine ⟨by show o.R.lo.length ≤ _; omega, ?_⟩
    show (if o.R.op then o.A else lsr o.R.hi o.A).length ≤ _
    split <;> omega
  have sh : (splitH o.R.rg o.A).lo.length ≤ 1048577 ∧ (splitH o.R.rg o.A).hi.length ≤ 1048577 := by
    rw [e2]
    refine ⟨gk, ?_⟩
    show (if o.R.op then [] else o.R.hi).length ≤ _
    split <;> first | simp | omega
  have n0 := next_len o.A
  have b0 : (between o.A o.B).1.length ≤ 24 := between_len (B8_of hi.b)
  have nil : ∀ t ∈ ([] : List (Bool × List Nat × List Nat)), t.2.1.length ≤ 1048577 ∧ t.2.2.length ≤ 1048577 := fun t ht => (List.not_mem_nil ht).elim
  unfold Ov.ans ansOf
  split
  · exact ⟨by simp, nil⟩
  split
  · exact ⟨by show (next o.A).length ≤ _; omega, nil⟩
  split
  · exact ⟨by simp, nil⟩
  split
  · exact ⟨by show (between o.A o.B).1.length ≤ _; omega, nil⟩
  split
  · exact ⟨by simp, nil⟩
  split
  · exact ⟨by simp, nil⟩
  split
  · exact ⟨by simp, nil⟩
  split
  · exact ⟨by simp, fun t ht => by rw [List.mem_singleton.1 ht]; exact mt⟩
  split
  · exact ⟨by simp, fun t ht => by rw [List.mem_singleton.1 ht]; exact ⟨by show o.A.length ≤ _; omega, by show (beh o.A).length ≤ _; omega⟩⟩
  split
  · refine ⟨by simp, fun t ht => ?_⟩
    simp only [List.mem_cons, List.not_mem_nil, or_false] at ht
    rcases ht with rfl | rfl
    · exact sl
    · exact sh
  · exact ⟨by simp, cv⟩
theorem ra_sh {a : Av} (h : Sh a.an) : ∀ t ∈ ra a, t.l.length ≤ 1048577 := by
  intro t ht
  unfold ra at ht
  rcases List.mem_cons.1 ht with rfl | ht
  · exact h.k
  · unfold rowsOf at ht
    obtain ⟨l, hl, ht⟩ := List.mem_flatten.1 ht
    obtain ⟨r, hr, rfl⟩ := List.mem_map.1 hl
    have h1 := h.l r.tp (List.mem_map.2 ⟨r, hr, rfl⟩)
    simp only [Rv.rows, List.mem_cons, List.not_mem_nil, or_false] at ht
    rcases ht with rfl | rfl
    · exact h1.1
    · exact h1.2
theorem Cp.ob {W : World} {o p : Ov} (h : Cp W o p) (hb : Ob o) : Ob p := by
  have hl : p.M.length = o.M.length := by have := congrArg List.length h.M; simpa using this
  have eR := h.R
  have eS := h.S
  simp only [Rv.rg, Rg.mk.injEq] at eR eS
  refine ⟨by rw [h.A]; exact hb.a, by rw [h.B]; exact hb.b, by rw [eR.1]; exact hb.rl, by rw [eR.2.1]; exact hb.rh, by rw [eS.1]; exact hb.sl, by rw [eS.2.1]; exact hb.sh, by rw [hl]; exact hb.m, fun r hr => ?_⟩
  obtain ⟨i, hi, e⟩ := List.mem_iff_getElem.1 hr
  have h1 := getD_map h.M (j := i) (by omega)
  have e1 : p.M.getD i Rv.zero = r := by rw [← e]; simp [hi]
  rw [e1] at h1
  have h2 := hb.ml _ (getD_memR (L := o.M) (r := i) (by omega))
  simp only [Rv.rg, Rg.mk.injEq] at h1
  exact ⟨by rw [h1.1]; exact h2.1, by rw [h1.2.1]; exact h2.2⟩
/-- a round, ahead of the lists -/
structure LC (wr W : World) (p now : Ov) (want a b c : Av) (g4 g5 g6 g7 g8 g9 : Nat) : Prop where
  l : LB wr W p want a b g4 g5 g6 g7
  m8 : W.heap[g8]? = some (.cells now.cs 29 (0, 0))
  m9 : W.heap[g9]? = some (.cells c.cs 32 (0, 0))
  n : Oi W now
  f : Fam wr W (ra a ++ ra b ++ ra c)
  c : Ao wr W c
theorem LC.keep {wr W W' : World} {p now : Ov} {want a b c : Av} {g4 g5 g6 g7 g8 g9 : Nat} (h : LC wr W p now want a b c g4 g5 g6 g7 g8 g9) (hb : Below W.heap.size W W') : LC wr W' p now want a b c g4 g5 g6 g7 g8 g9 :=
  ⟨h.l.keep hb, blk_keep h.m8 hb, blk_keep h.m9 hb, h.n.keep hb, h.f.keep hb, h.c.keep hb⟩
theorem LC.make {wr w10 w11 : World} {p now : Ov} {want a b c : Av} {g4 g5 g6 g7 : Nat} (l : LB wr w10 p want a b g4 g5 g6 g7) (n : Oi w10 now) (hc : Ao (w10.alloc (.cells now.cs 29)) w11 c) :
    LC wr (w11.alloc (.cells c.cs 32)) p now want a b c g4 g5 g6 g7 w10.heap.size w11.heap.size := by
  have b1 := al w10 (.cells now.cs 29)
  have b2 : Below (w10.alloc (.cells now.cs 29)).heap.size (w10.alloc (.cells now.cs 29)) (w11.alloc (.cells c.cs 32)) := bt hc.q.b (al _ _)
  have l1 := l.keep b1
  exact ⟨l1.keep b2, blk_keep (heap_alloc_new _ _) b2, heap_alloc_new _ _, (n.keep b1).keep b2, l1.f.add (hc.keep (al w11 (.cells c.cs 32))).f b2 l1.w.b, (hc.pre' l1.w.b).keep (al _ _)⟩
theorem Ar.at0 {w : World} {a : Option Addr} {c : Nat} {vs : List Value} (h : Ar w a c vs) (hp : 0 < vs.length) : ∃ g, a = some ⟨g, 0, none⟩ := by
  rcases h.cases with ⟨rfl, rfl, rfl⟩ | ⟨g, cur, rfl, _⟩
  · simp at hp
  · exact ⟨g, rfl⟩
theorem Ar.each {w : World} {g c : Nat} {vs : List Value} (h : Ar w (some ⟨g, 0, none⟩) c vs) : ∀ j u, vs[j]? = some u → w.cell? ((⟨g, 0, none⟩ : Addr).add j) = some u := by
  intro j u hu
  obtain ⟨g', e, hc⟩ := h.cell hu
  simp only [Option.some.injEq, Addr.mk.injEq] at e
  obtain ⟨rfl, _⟩ := e
  rw [Addr.add_mid, Nat.zero_add]
  exact hc
theorem glists_any (w : World) (a : Av) (hm : Qs w a.aM a.M) (hl : a.M.length ≤ 1048576) : Calls Try.prog 17 #[.agg a.cs] w fun e w' => ∃ g ct, e = .returned (.slice (some ⟨g, 0, none⟩) (1 + 2 * a.M.length) ct) ∧ Ax w w' (some ⟨g, 0, none⟩) ct (ra a) := by
  refine (glists_lit w a.n a.is a.aK a.cK a.k a.aM a.cM a.M hm hl).mono ?_
  rintro e w' ⟨at', ct, rfl, hx⟩
  obtain ⟨g, rfl⟩ := hx.r.at0 (by simp)
  exact ⟨g, ct, rfl, hx⟩
theorem Apart_fam (w wr : World) (a b c : Av) (g ct : Nat) (hf : Fam wr w (ra a ++ ra b ++ ra c)) (hA : Ar w (some ⟨g, 0, none⟩) ct ((ra a ++ ra b ++ ra c).map bv)) (hn : (ra a ++ ra b ++ ra c).length ≤ 6291459) (ha : Sh a.an) (hb : Sh b.an) (hc : Sh c.an) :
    Calls Try.prog 18 #[.slice (some ⟨g, 0, none⟩) (ra a ++ ra b ++ ra c).length ct] w fun x w' => x = .returned (.bool true) ∧ Below wr.heap.size wr w' := by
  have h1 : Ar w (some ⟨g, 0, none⟩) ct ((List.range (ra a ++ ra b ++ ra c).length).map (fun i => Value.slice (tA (ra a ++ ra b ++ ra c) i) (tL (ra a ++ ra b ++ ra c) i).length (tC (ra a ++ ra b ++ ra c) i))) := by
    rcases ra_val a b c (ra a ++ ra b ++ ra c).length with h | h
    · rw [← h]; exact hA
    · exact absurd rfl h
  refine (Apart_some w _ ct _ _ _ _ h1 hf.rowsG hf.distG (by omega) fun i hi => ?_).mono ?_
  · have hm := t_mem hi
    have : (tL (ra a ++ ra b ++ ra c) i).length ≤ 1048577 := by
      unfold tL
      rcases List.mem_append.1 hm with hm | hm
      · rcases List.mem_append.1 hm with hm | hm
        · exact ra_sh ha _ hm
        · exact ra_sh hb _ hm
      · exact ra_sh hc _ hm
    omega
  · rintro x w' ⟨rfl, hbut⟩
    have hfb : Below wr.heap.size wr w := by
      have := hf.own ⟨a.aK, a.cK, a.k⟩ (by simp [ra])
      exact this.1.b
    refine ⟨rfl, ((But.ofBelow (S := InRows (ra a ++ ra b ++ ra c).length (tA (ra a ++ ra b ++ ra c))) hfb).trans hbut fun _ _ e => e).below fun k hk ⟨i, hi, y, hy, e⟩ => ?_⟩
    have := (hf.own _ (t_mem hi)).1.fresh hy
    omega
end Go.Proofs.Ytbobnfjbbablkaa
