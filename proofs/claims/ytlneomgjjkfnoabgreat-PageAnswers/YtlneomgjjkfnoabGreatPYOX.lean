import Derived.Test.YtlneomgjjkfnoabGreatPYHX
import Derived.Test.YtlneomgjjkfnoabGreatPYJX
import Derived.Test.YtlneomgjjkfnoabGreatPYX
import Derived.Deep.CutRange
import Derived.Deep.RegionLaw
namespace Go.Proofs.YtlneomgjjkfnoabGreat
open Go.RowKit

def Br0 : Br := ⟨none, 0, []⟩
def tA (T : List Br) (i : Nat) : Option Addr := (T.getD i Br0).a
def tC (T : List Br) (i : Nat) : Nat := (T.getD i Br0).c
def tL (T : List Br) (i : Nat) : List Nat := (T.getD i Br0).l
theorem t_mem {T : List Br} {i : Nat} (h : i < T.length) : T.getD i Br0 ∈ T := by simp [h]
theorem Fam.rowsG {w W : World} {T : List Br} (h : Fam w W T) : RowsG W T.length (tA T) (tC T) (tL T) := fun _ hi => (h.own _ (t_mem hi)).1.r
theorem Fam.distG {w W : World} {T : List Br} (h : Fam w W T) : Dist T.length (tA T) := by
  intro i j hi hj hne x y hx hy
  have hp := List.pairwise_iff_getElem.1 h.dist
  have ei : T.getD i Br0 = T[i] := by simp [hi]
  have ej : T.getD j Br0 = T[j] := by simp [hj]
  unfold tA at hx hy
  rw [ei] at hx
  rw [ej] at hy
  rcases Nat.lt_or_gt_of_ne hne with h1 | h1
  · exact hp i j hi hj h1 x y hx hy
  · exact fun e => hp j i hj hi h1 y x hy hx e.symm
theorem bv_get (T : List Br) {i : Nat} (hi : i < T.length) : (T.map bv)[i]? = some (.slice (tA T i) (tL T i).length (tC T i)) := by
  simp [hi, bv, tA, tL, tC]
theorem set_b8 {l : List Nat} {k x : Nat} (h : B8 l) (hx : x < 256) : B8 (l.set k x) := fun y hy => by
  rcases List.mem_or_eq_of_mem_set hy with h1 | h1
  · exact h y h1
  · omega
theorem set_all {n j k z : Nat} {G L : Nat → List Nat} (h : ∀ i, i < n → (G i).length = (L i).length ∧ B8 (G i)) (hz : z < 256) : ∀ i, i < n → ((if i = j then (G j).set k z else G i).length = (L i).length ∧ B8 (if i = j then (G j).set k z else G i)) := by
  intro i hi
  by_cases e : i = j
  · subst e
    rw [if_pos rfl, List.length_set]
    exact ⟨(h i hi).1, set_b8 (h i hi).2 hz⟩
  · rw [if_neg e]; exact h i hi
theorem Rw.thaw {w : World} {g c : Nat} {l : List Nat} (h : Rw w (some ⟨g, 0, none⟩) c l) (i : Nat) : w.frozen? ⟨g, i, none⟩ = false := by
  rcases h.cases with ⟨h0, _⟩ | ⟨g', cur, h0, hg, _⟩
  · cases h0
  · simp only [Option.some.injEq, Addr.mk.injEq] at h0
    obtain ⟨rfl, _⟩ := h0
    exact frozen_of_row _ _ _ _ _ hg
theorem getD_lt {l : List Nat} (h : B8 l) (i : Nat) : l.getD i 0 < 256 := by
  by_cases hi : i < l.length
  · rw [getD_at l hi]; exact h _ (List.getElem_mem _)
  · simp [List.getD_eq_getElem?_getD, List.getElem?_eq_none (by omega : l.length ≤ i)]
/-- the lists of bytes of a call -/
def ro (o : Ov) : List Br := rp o.p ++ [⟨o.aB, o.cB, o.B⟩]
theorem ro_len (o : Ov) : (ro o).length = 1 + 2 * o.p.items.length + 1 := by unfold ro; rw [List.length_append, rp_len]; rfl
/-- how long a call's lists are -/
structure Ob (o : Ov) : Prop where
  d : o.p.data.length ≤ 140737488355264
  i : o.p.items.length ≤ 1048576
  x : ∀ r ∈ o.p.items, r.key.length ≤ 140737488355264 ∧ r.val.length ≤ 140737488355264
  b : o.B.length ≤ 1048576
/-- the spared call -/
structure So (w W : World) (o p : Ov) : Prop where
  kd : p.kd = o.kd
  no : p.no = o.no
  gen : p.gen = o.gen
  sp : Sp w W o.p p.p
  eb : p.B = o.B
  f : Sf w W (ro p)
theorem So.b {w W : World} {o p : Ov} (h : So w W o p) : Below w.heap.size w W := h.sp.b
theorem So.keep {w W W' : World} {o p : Ov} (h : So w W o p) (hb : Below W.heap.size W W') : So w W' o p := ⟨h.kd, h.no, h.gen, h.sp.keep hb, h.eb, h.f.keep hb⟩
theorem So.sb {w W : World} {o p : Ov} (h : So w W o p) : Sl W p.aB p.cB p.B := h.f.s ⟨p.aB, p.cB, p.B⟩ (by simp [ro])
theorem So.oi {w W W' : World} {o p : Ov} (h : So w W o p) (hi : Oi W' o) (hb : Ob o) : Oi W p := ⟨h.sp.pi hi.p hb.i, h.sb.bs, h.sb.rw'.cap⟩
theorem So.ans {w W : World} {o p : Ov} (h : So w W o p) : p.ans = o.ans := by
  unfold Ov.ans
  rw [h.kd, h.no, h.gen, h.sp.e, h.eb]
theorem So.short {w W : World} {o p : Ov} (h : So w W o p) : ∀ t ∈ ro p, t.l.length ≤ 140737488355264 := fun t ht => (h.f.s t ht).n
theorem So.ob {w W : World} {o p : Ov} (h : So w W o p) (hb : Ob o) : Ob p := by
  have hs := h.short
  refine ⟨hs ⟨p.p.aD, p.p.cD, p.p.data⟩ (by simp [ro, rp]), by rw [h.sp.len]; exact hb.i, fun r hr => ?_, by rw [h.eb]; exact hb.b⟩
  have hm := (rows_sub hr).subset
  exact ⟨hs ⟨r.aK, r.cK, r.key⟩ (List.mem_append_left _ (List.mem_cons_of_mem _ (hm (by simp [Iv.rows])))), hs ⟨r.aV, r.cV, r.val⟩ (List.mem_append_left _ (List.mem_cons_of_mem _ (hm (by simp [Iv.rows]))))⟩
/-- the call behind the spoiling: other bytes, where they lay -/
def spo (p : Ov) (G : Nat → List Nat) : Ov :=
  ⟨p.kd, p.no, p.gen, ⟨p.p.kind, p.p.level, p.p.aI, p.p.cI, (List.range p.p.items.length).map fun i => ⟨(p.p.items.getD i Iv.zero).aK, (p.p.items.getD i Iv.zero).cK, G (1 + 2 * i), (p.p.items.getD i Iv.zero).aV, (p.p.items.getD i Iv.zero).cV, G (1 + 2 * i + 1), (p.p.items.getD i Iv.zero).child, (p.p.items.getD i Iv.zero).size⟩, p.p.aD, p.p.cD, G 0, p.p.next⟩, p.aB, p.cB, G (1 + 2 * p.p.items.length)⟩
theorem spo_getD (p : Ov) (G : Nat → List Nat) {i : Nat} (hi : i < p.p.items.length) : (spo p G).p.items.getD i Iv.zero = ⟨(p.p.items.getD i Iv.zero).aK, (p.p.items.getD i Iv.zero).cK, G (1 + 2 * i), (p.p.items.getD i Iv.zero).aV, (p.p.items.getD i Iv.zero).cV, G (1 + 2 * i + 1), (p.p.items.getD i Iv.zero).child, (p.p.items.getD i Iv.zero).size⟩ := by
  unfold spo
  simp [hi]
theorem spo_len (p : Ov) (G : Nat → List Nat) : (spo p G).p.items.length = p.p.items.length := by unfold spo; simp
theorem rowsOf_get : ∀ (M : List Iv) (i : Nat), i < M.length → (rowsOf M).getD (2 * i) Br0 = ⟨(M.getD i Iv.zero).aK, (M.getD i Iv.zero).cK, (M.getD i Iv.zero).key⟩ ∧ (rowsOf M).getD (2 * i + 1) Br0 = ⟨(M.getD i Iv.zero).aV, (M.getD i Iv.zero).cV, (M.getD i Iv.zero).val⟩
  | [], i, h => by simp at h
  | r :: M, 0, _ => by rw [rowsOf_cons]; exact ⟨rfl, rfl⟩
  | r :: M, i + 1, h => by
    have ih := rowsOf_get M i (by simpa using h)
    rw [rowsOf_cons, show 2 * (i + 1) = 2 * i + 2 by omega]
    exact ih
theorem ro_get (p : Ov) (i : Nat) (h : i < p.p.items.length) : (ro p).getD (1 + 2 * i) Br0 = ⟨(p.p.items.getD i Iv.zero).aK, (p.p.items.getD i Iv.zero).cK, (p.p.items.getD i Iv.zero).key⟩ ∧ (ro p).getD (1 + 2 * i + 1) Br0 = ⟨(p.p.items.getD i Iv.zero).aV, (p.p.items.getD i Iv.zero).cV, (p.p.items.getD i Iv.zero).val⟩ := by
  have h1 := rowsOf_get p.p.items i h
  have hl := rowsOf_len p.p.items
  have e : ∀ k, k < 2 * p.p.items.length → (ro p).getD (1 + k) Br0 = (rowsOf p.p.items).getD k Br0 := fun k hk => by
    unfold ro rp
    rw [show 1 + k = k + 1 by omega, List.cons_append, List.getD_cons_succ, List.getD_eq_getElem?_getD, List.getElem?_append_left (by omega), ← List.getD_eq_getElem?_getD]
  rw [Nat.add_assoc, e _ (by omega), e _ (by omega)]
  exact h1
theorem ro_last (p : Ov) : (ro p).getD (1 + 2 * p.p.items.length) Br0 = ⟨p.aB, p.cB, p.B⟩ := by
  have := rp_len p.p
  unfold ro
  rw [List.getD_eq_getElem?_getD, List.getElem?_append_right (by omega), this, Nat.sub_self]
  rfl
theorem spo_oi {w W W' : World} {p : Ov} {G : Nat → List Nat} (hf : Fam w W (ro p)) (hq : Jw W p.p.aI p.p.cI p.p.items) (hi : Oi W p) (hb0 : Ob p) (hg : ∀ i, i < (ro p).length → (G i).length = (tL (ro p) i).length ∧ B8 (G i)) (hR : RowsG W' (ro p).length (tA (ro p)) (tC (ro p)) G) (hb : But (InRows (ro p).length (tA (ro p))) W W') :
    Oi W' (spo p G) ∧ Ob (spo p G) ∧ (spo p G).cs = p.cs := by
  have hn := ro_len p
  have bs : ∀ i, i < 1 + 2 * p.p.items.length + 1 → Bs W' (tA (ro p) i) (G i) ∧ (G i).length ≤ tC (ro p) i := fun i hi => by
    have h1 := hR i (by omega)
    exact ⟨h1.bs (hg i (by omega)).2 h1.len_le, h1.cap⟩
  have ln : ∀ i, i < 1 + 2 * p.p.items.length + 1 → (G i).length = ((ro p).getD i Br0).l.length := fun i hi => (hg i (by omega)).1
  have l0 := ln 0 (by omega)
  have lB := ln (1 + 2 * p.p.items.length) (by omega)
  have bB := bs (1 + 2 * p.p.items.length) (by omega)
  unfold tA tC at bB
  rw [ro_last] at lB bB
  have lm : ∀ i, i < p.p.items.length → (G (1 + 2 * i)).length = (p.p.items.getD i Iv.zero).key.length ∧ (G (1 + 2 * i + 1)).length = (p.p.items.getD i Iv.zero).val.length := fun i hi => by
    have h1 := ln (1 + 2 * i) (by omega)
    have h2 := ln (1 + 2 * i + 1) (by omega)
    rw [(ro_get p i hi).1] at h1
    rw [(ro_get p i hi).2] at h2
    exact ⟨h1, h2⟩
  have bm : ∀ i, i < p.p.items.length → Ii W' ((spo p G).p.items.getD i Iv.zero) := fun i hj => by
    have h1 := bs (1 + 2 * i) (by omega)
    have h2 := bs (1 + 2 * i + 1) (by omega)
    unfold tA tC at h1 h2
    rw [(ro_get p i hj).1] at h1
    rw [(ro_get p i hj).2] at h2
    rw [spo_getD p G hj]
    have h3 := hi.p.it.1 _ (getD_memR hj)
    exact ⟨h1.1, h1.2, h2.1, h2.2, h3.nc, h3.ns⟩
  have sl := spo_len p G
  have mem : ∀ r ∈ (spo p G).p.items, ∃ i, i < p.p.items.length ∧ r = (spo p G).p.items.getD i Iv.zero := fun r hr => by
    obtain ⟨i, hi, rfl⟩ := List.mem_iff_getElem.1 hr
    exact ⟨i, by omega, by simp [hi]⟩
  have hQ2 : Js W' p.p.aI (spo p G).p.items := by
    refine ⟨fun r hr => ?_, by rw [sl]; have := hb0.i; omega, ?_⟩
    · obtain ⟨i, hi, rfl⟩ := mem r hr
      exact bm i hi
    · by_cases h0 : p.p.items = []
      · left
        apply List.eq_nil_of_length_eq_zero
        rw [sl, h0]; rfl
      · right
        obtain ⟨g, e, _⟩ := hq.addr (List.length_pos_iff.2 h0)
        have hq' := hq
        rw [e] at hq'
        have q2 : Jw W' (some ⟨g, 0, none⟩) p.p.cI p.p.items := hq'.but hb fun x hx ⟨i, hi, y, hy, ee⟩ => hq'.ne (hf.own _ (t_mem hi)).1.r hx hy ee.symm
        have q3 := q2.qs (L := p.p.items)
        refine ⟨g, 0, e, fun r hr => ?_⟩
        rw [sl] at hr
        have hh := (q2.item4 hr).1
        rw [spo_getD p G hr]
        have h2 := lm r hr
        intro j u hu
        have hj : j < 4 := (List.getElem?_eq_some_iff.1 hu).1
        unfold Iv.cs at hu
        dsimp only at hu
        rw [h2.1, h2.2] at hu
        rw [Nat.zero_add]
        match j, hj with
        | 0, _ => simp at hu; subst hu; exact hh.1
        | 1, _ => simp at hu; subst hu; exact hh.2.1
        | 2, _ => simp at hu; subst hu; exact hh.2.2.1
        | 3, _ => simp at hu; subst hu; exact hh.2.2.2
  refine ⟨⟨⟨hQ2, by rw [sl]; exact hi.p.ci, (bs 0 (by omega)).1, (bs 0 (by omega)).2, hi.p.nk, hi.p.nl, hi.p.nn⟩, bB.1, bB.2⟩, ⟨Nat.le_trans (Nat.le_of_eq l0) hb0.d, by rw [sl]; exact hb0.i, fun r hr => ?_, Nat.le_trans (Nat.le_of_eq lB) hb0.b⟩, ?_⟩
  · obtain ⟨i, hi, rfl⟩ := mem r hr
    rw [spo_getD p G hi]
    have h1 := lm i hi
    have h2 := hb0.x _ (getD_memR hi)
    exact ⟨by rw [h1.1]; exact h2.1, by rw [h1.2]; exact h2.2⟩
  · unfold Ov.cs
    rw [sl]
    have e0 : (spo p G).p.data.length = p.p.data.length := l0
    have e1 : (spo p G).B.length = p.B.length := lB
    rw [e0, e1]
    rfl
end Go.Proofs.YtlneomgjjkfnoabGreat

namespace Go.Proofs.YtlneomgjjkfnoabGreat
open Go.RowKit

/-- no answer has long lists -/
structure Sh (x : An) : Prop where
  b : x.b.length ≤ 1048577
  d : x.pg.data.length ≤ 1048577
  i : ∀ t ∈ x.pg.items, t.key.length ≤ 1048577 ∧ t.val.length ≤ 1048577
  l : x.l.length ≤ 1048577
theorem sound_sh {p : Pg} (h : Sound p) : p.data.length ≤ 1048577 ∧ ∀ t ∈ p.items, t.key.length ≤ 1048577 ∧ t.val.length ≤ 1048577 := by
  have hk := Pg.kindOk_iff.1 h.k
  refine ⟨?_, fun t ht => ?_⟩
  · rcases hk with k | k | k
    · have := (h.node (.inl k)).1; rw [this]; simp
    · have := (h.node (.inr k)).1; rw [this]; simp
    · have := (h.blob k).2.2.2.1; omega
  · have hf := h.fits ht
    have h1 := hf.key
    refine ⟨by omega, ?_⟩
    rcases hk with k | k | k
    · obtain ⟨h2, h3, h4, h5⟩ := hf.leaf k
      by_cases hz : t.size ≤ 32
      · have := (h4 hz).1; omega
      · have := (h5 (by omega)).1; rw [this]; simp
    · have := (hf.index k).1; rw [this]; simp
    · have := (h.blob k).2.1; rw [this] at ht; cases ht
theorem ans_sh {w : World} {o : Ov} (_ : Oi w o) (hb : Ob o) : Sh o.ans := by
  have z : ∀ t ∈ Pg.zero.items, t.key.length ≤ 1048577 ∧ t.val.length ≤ 1048577 := fun t ht => by cases ht
  unfold Ov.ans ansOf
  split
  · exact ⟨by simp, by simp [Pg.zero], z, by simp⟩
  split
  · refine ⟨?_, by simp [Pg.zero], z, by simp⟩
    dsimp only
    unfold encB
    split
    · rename_i h
      have hs : Sound o.p.pg := Pg.check_zero.1 (by
        unfold encE at h
        split at h
        · cases h
        split at h
        · cases h
        · exact h)
      rw [hs.blk_length]
      decide
    · simp
  split
  · unfold decP
    split
    · rename_i h
      have hs := (goodB_iff.1 (decE_zero h).2.2.2.2).2.2.1
      exact ⟨by simp, (sound_sh hs).1, (sound_sh hs).2, by simp⟩
    · exact ⟨by simp, by simp [Pg.zero], z, by simp⟩
  · refine ⟨by simp, by simp [Pg.zero], z, ?_⟩
    dsimp only
    have h1 := kids_le o.p.pg
    have h2 : o.p.pg.items.length = o.p.items.length := by simp [Pv.pg]
    have := hb.i
    omega
theorem ra_sh {a : Av} (h : Sh a.an) : ∀ t ∈ ra a, t.l.length ≤ 1048577 := by
  intro t ht
  unfold ra rp at ht
  rcases List.mem_append.1 ht with ht | ht
  · rcases List.mem_cons.1 ht with rfl | ht
    · exact h.d
    · unfold rowsOf at ht
      obtain ⟨l, hl, ht⟩ := List.mem_flatten.1 ht
      obtain ⟨r, hr, rfl⟩ := List.mem_map.1 hl
      have h1 := h.i r.it (List.mem_map.2 ⟨r, hr, rfl⟩)
      simp only [Iv.rows, List.mem_cons, List.not_mem_nil, or_false] at ht
      rcases ht with rfl | rfl
      · exact h1.1
      · exact h1.2
  · rw [List.mem_singleton.1 ht]; exact h.b
/-- two rows of numbers lie apart -/
def iApart (a b : Av) : Prop := ∀ x y, a.aL = some x → b.aL = some y → x.block ≠ y.block
/-- a round, ahead of the spoiling -/
structure LA (B0 V1 W : World) (o p : Ov) (want a b : Av) (g4 g5 g6 g7 g8 : Nat) : Prop where
  so : So B0 W o p
  m4 : Bx W 29 g4 o.cs
  m5 : Bx W 29 g5 p.cs
  m6 : Bx W 36 g6 want.cs
  m7 : Bx W 36 g7 a.cs
  m8 : Bx W 36 g8 b.cs
  fw : Ao V1 W want
  f : Fam V1 W (ra a ++ ra b)
  fa : Ao V1 W a
  fb : Ao V1 W b
  li : iApart a b
  v : Below B0.heap.size B0 V1
  r : ∀ t ∈ ro p, ∀ x, t.a = some x → x.block < V1.heap.size
theorem LA.keep {B0 V1 W W' : World} {o p : Ov} {want a b : Av} {g4 g5 g6 g7 g8 : Nat} (h : LA B0 V1 W o p want a b g4 g5 g6 g7 g8) (hb : Below W.heap.size W W') : LA B0 V1 W' o p want a b g4 g5 g6 g7 g8 :=
  ⟨h.so.keep hb, h.m4.keep hb, h.m5.keep hb, h.m6.keep hb, h.m7.keep hb, h.m8.keep hb, h.fw.keep hb, h.f.keep hb, h.fa.keep hb, h.fb.keep hb, h.li, h.v, h.r⟩
/-- a round, behind the spoiling -/
structure LB (B0 W : World) (o p : Ov) (want a b : Av) (g4 g5 g6 g7 g8 : Nat) : Prop where
  oi : Oi W p
  ob : Ob p
  m4 : Bx W 29 g4 o.cs
  m5 : Bx W 29 g5 p.cs
  m6 : Bx W 36 g6 want.cs
  m7 : Bx W 36 g7 a.cs
  m8 : Bx W 36 g8 b.cs
  fw : Ao B0 W want
  f : Fam B0 W (ra a ++ ra b)
  fa : Ao B0 W a
  fb : Ao B0 W b
  li : iApart a b
theorem LB.keep {B0 W W' : World} {o p : Ov} {want a b : Av} {g4 g5 g6 g7 g8 : Nat} (h : LB B0 W o p want a b g4 g5 g6 g7 g8) (hb : Below W.heap.size W W') : LB B0 W' o p want a b g4 g5 g6 g7 g8 :=
  ⟨h.oi.keep hb, h.ob, h.m4.keep hb, h.m5.keep hb, h.m6.keep hb, h.m7.keep hb, h.m8.keep hb, h.fw.keep hb, h.f.keep hb, h.fa.keep hb, h.fb.keep hb, h.li⟩
theorem LA.spoil {B0 V1 W W' : World} {o p p' : Ov} {want a b : Av} {g4 g5 g6 g7 g8 : Nat} (h : LA B0 V1 W o p want a b g4 g5 g6 g7 g8) (hi : Oi W' p') (ho : Ob p') (hc : p'.cs = p.cs) (hb : But (InRows (ro p).length (tA (ro p))) W W') : LB B0 W' o p' want a b g4 g5 g6 g7 g8 := by
  have hs : ∀ k, InRows (ro p).length (tA (ro p)) k → k < V1.heap.size := fun k ⟨i, hi, x, hx, e⟩ => by
    have := h.r _ (t_mem hi) x hx
    omega
  have fm := h.so.f.f
  have hw : Below B0.heap.size B0 W' := ((But.ofBelow (S := InRows (ro p).length (tA (ro p))) h.so.b).trans hb fun _ _ e => e).below fun k hk ⟨i, hi, x, hx, e⟩ => by
    have := (fm.own _ (t_mem hi)).1.fresh hx
    omega
  have kp : ∀ {g : Nat} {cs : Array Value} {t : TypeId}, t ≠ 5 → Bx W t g cs → Bx W' t g cs := fun ht hg => hg.but hb fun ⟨i, hi, x, hx, e⟩ => (fm.own _ (t_mem hi)).1.r.nty hg ht hx e
  exact ⟨hi, ho, kp (by decide) h.m4, by rw [hc]; exact kp (by decide) h.m5, kp (by decide) h.m6, kp (by decide) h.m7, kp (by decide) h.m8, h.fw.but2 h.v hb hs hw, h.f.but2 h.v hb hs hw, h.fa.but2 h.v hb hs hw, h.fb.but2 h.v hb hs hw, h.li⟩
theorem iApart.of {w W w' W' : World} {a b : Av} (ha : Ao w W a) (hb : Ao w' W' b) (h : W.heap.size ≤ w'.heap.size) : iApart a b := fun x y hx hy e => by
  have h1 := ha.l.r.lt hx
  have h2 := new_at hb.l.n hy
  omega
theorem LA.make {B0 V1 w2 w3 w4 : World} {o p : Ov} {want a b : Av} {g4 g5 : Nat} (so : So B0 V1 o p) (m4 : Bx V1 29 g4 o.cs) (m5 : Bx V1 29 g5 p.cs) (hw : Ao V1 w2 want) (ha : Ao (w2.alloc (.cells want.cs 36)) w3 a) (hb : Ao (w3.alloc (.cells a.cs 36)) w4 b) :
    LA B0 V1 (w4.alloc (.cells b.cs 36)) o p want a b g4 g5 w2.heap.size w3.heap.size w4.heap.size := by
  have b12 : Below V1.heap.size V1 (w2.alloc (.cells want.cs 36)) := bt hw.b (al _ _)
  have b23 : Below (w2.alloc (.cells want.cs 36)).heap.size (w2.alloc (.cells want.cs 36)) (w3.alloc (.cells a.cs 36)) := bt ha.b (al _ _)
  have b34 : Below (w3.alloc (.cells a.cs 36)).heap.size (w3.alloc (.cells a.cs 36)) (w4.alloc (.cells b.cs 36)) := bt hb.b (al _ _)
  have b13 := bt b12 b23
  have b14 := bt b13 b34
  have b24 := bt b23 b34
  have a3 := (Ao.pre b12 ha).keep (al w3 (.cells a.cs 36))
  have a4 := a3.keep b34
  have bb := (Ao.pre b13 hb).keep (al w4 (.cells b.cs 36))
  refine ⟨so.keep b14, m4.keep b14, m5.keep b14, (Bx.new _ _ _).keep b24, (Bx.new _ _ _).keep b34, Bx.new _ _ _, (hw.keep (al _ _)).keep b24, a3.f.add (hb.keep (al w4 (.cells b.cs 36))).f b34 b13, a4, bb, iApart.of ha hb (by rw [size_alloc]; omega), so.b, fun t ht x hx => (so.f.f.own t ht).1.r.lt hx⟩
/-- a round, ahead of the lists -/
structure LC (B0 W : World) (o p now : Ov) (want a b c : Av) (g4 g5 g6 g7 g8 g9 g10 : Nat) : Prop where
  l : LB B0 W o p want a b g4 g5 g6 g7 g8
  m9 : Bx W 29 g9 now.cs
  m10 : Bx W 36 g10 c.cs
  n : Oi W now
  f : Fam B0 W (ra a ++ ra b ++ ra c)
  fc : Ao B0 W c
  la : iApart a c
  lb : iApart b c
theorem LC.keep {B0 W W' : World} {o p now : Ov} {want a b c : Av} {g4 g5 g6 g7 g8 g9 g10 : Nat} (h : LC B0 W o p now want a b c g4 g5 g6 g7 g8 g9 g10) (hb : Below W.heap.size W W') : LC B0 W' o p now want a b c g4 g5 g6 g7 g8 g9 g10 :=
  ⟨h.l.keep hb, h.m9.keep hb, h.m10.keep hb, h.n.keep hb, h.f.keep hb, h.fc.keep hb, h.la, h.lb⟩
theorem LC.make {B0 w10 w11 : World} {o p now : Ov} {want a b c : Av} {g4 g5 g6 g7 g8 g9 : Nat} (l : LB B0 w10 o p want a b g4 g5 g6 g7 g8) (n : Oi w10 now) (m9 : Bx w10 29 g9 now.cs) (hc : Ao w10 w11 c) :
    LC B0 (w11.alloc (.cells c.cs 36)) o p now want a b c g4 g5 g6 g7 g8 g9 w11.heap.size := by
  have b2 : Below w10.heap.size w10 (w11.alloc (.cells c.cs 36)) := bt hc.b (al _ _)
  exact ⟨l.keep b2, m9.keep b2, Bx.new _ _ _, n.keep b2, l.f.add (hc.keep (al w11 (.cells c.cs 36))).f b2 l.fw.b, (Ao.pre l.fw.b hc).keep (al _ _), iApart.of l.fa hc (Nat.le_refl _), iApart.of l.fb hc (Nat.le_refl _)⟩
theorem rows_val (T : List Br) : T.map bv = (List.range T.length).map (fun i => Value.slice (tA T i) (tL T i).length (tC T i)) := by
  apply List.ext_getElem?
  intro i
  by_cases hi : i < T.length
  · rw [bv_get _ hi]; simp only [List.getElem?_map, List.getElem?_range hi, Option.map_some]
  · rw [List.getElem?_eq_none (by rw [List.length_map]; omega), List.getElem?_eq_none (by rw [List.length_map, List.length_range]; omega)]
theorem Apart_fam (w B0 : World) (a b c : Av) (g ct : Nat) (hf : Fam B0 w (ra a ++ ra b ++ ra c)) (hw : Below B0.heap.size B0 w) (hA : Ar w (some ⟨g, 0, none⟩) ct ((ra a ++ ra b ++ ra c).map bv)) (hn : (ra a ++ ra b ++ ra c).length ≤ 6291459) (ha : Sh a.an) (hb : Sh b.an) (hc : Sh c.an) :
    Calls Tryz.prog 17 #[.slice (some ⟨g, 0, none⟩) (ra a ++ ra b ++ ra c).length ct] w fun x w' => x = .returned (.bool true) ∧ But (InRows (ra a ++ ra b ++ ra c).length (tA (ra a ++ ra b ++ ra c))) w w' ∧ Below B0.heap.size B0 w' := by
  rw [rows_val] at hA
  refine (Apart_some w _ ct _ _ _ _ hA hf.rowsG hf.distG (by omega) fun i hi => ?_).mono ?_
  · have hm := t_mem hi
    have : (tL (ra a ++ ra b ++ ra c) i).length ≤ 1048577 := by
      unfold tL
      rcases List.mem_append.1 hm with hm | hm
      · rcases List.mem_append.1 hm with hm | hm
        · exact ra_sh ha _ hm
        · exact ra_sh hb _ hm
      · exact ra_sh hc _ hm
    omega
  · rintro x w' ⟨rfl, hbut⟩
    refine ⟨rfl, hbut, ((But.ofBelow (S := InRows (ra a ++ ra b ++ ra c).length (tA (ra a ++ ra b ++ ra c))) hw).trans hbut fun _ _ e => e).below fun k hk ⟨i, hi, y, hy, e⟩ => ?_⟩
    have := (hf.own _ (t_mem hi)).1.fresh hy
    omega
/-- the three rows of numbers -/
def nA (a b c : Av) (i : Nat) : Option Addr := if i = 0 then a.aL else if i = 1 then b.aL else c.aL
def nC (a b c : Av) (i : Nat) : Nat := if i = 0 then a.cL else if i = 1 then b.cL else c.cL
def nL (a b c : Av) (i : Nat) : List Int := if i = 0 then a.l else if i = 1 then b.l else c.l
theorem ApartInts3 (W B0 : World) (a b c : Av) (g : Nat) (hg : W.heap[g]? = some (.cells #[.slice a.aL a.l.length a.cL, .slice b.aL b.l.length b.cL, .slice c.aL c.l.length c.cL] 33 (0, 0))) (ha : IOwn B0 W a.aL a.cL a.l) (hb : IOwn B0 W b.aL b.cL b.l) (hc : IOwn B0 W c.aL c.cL c.l) (h1 : iApart a b) (h2 : iApart a c) (h3 : iApart b c) (s1 : Sh a.an) (s2 : Sh b.an) (s3 : Sh c.an) :
    Calls Tryz.prog 18 #[.slice (some ⟨g, 0, none⟩) 3 3] W fun x w' => x = .returned (.bool true) ∧ Below B0.heap.size B0 w' := by
  have hA : Ai W (some ⟨g, 0, none⟩) 3 ((List.range 3).map fun i => Value.slice (nA a b c i) (nL a b c i).length (nC a b c i)) :=
    Ai.mk (vs := [.slice a.aL a.l.length a.cL, .slice b.aL b.l.length b.cL, .slice c.aL c.l.length c.cL]) hg (Nat.le_refl 3) (by unfold maxLen; omega) rfl rfl
  have three : ∀ i, i < 3 → i = 0 ∨ i = 1 ∨ i = 2 := fun i hi => by omega
  have hR : RowsI W 3 (nA a b c) (nC a b c) (nL a b c) := fun i hi => by
    rcases three i hi with rfl | rfl | rfl
    · exact ha.r
    · exact hb.r
    · exact hc.r
  have hD : Dist 3 (nA a b c) := fun i j hi hj hne x y hx hy => by
    rcases three i hi with rfl | rfl | rfl <;> rcases three j hj with rfl | rfl | rfl
    · exact absurd rfl hne
    · exact h1 x y hx hy
    · exact h2 x y hx hy
    · exact fun e => h1 y x hy hx e.symm
    · exact absurd rfl hne
    · exact h3 x y hx hy
    · exact fun e => h2 y x hy hx e.symm
    · exact fun e => h3 y x hy hx e.symm
    · exact absurd rfl hne
  have l1 : a.l.length ≤ 1048577 := s1.l
  have l2 : b.l.length ≤ 1048577 := s2.l
  have l3 : c.l.length ≤ 1048577 := s3.l
  refine (ApartInts_some W _ 3 3 (nA a b c) (nC a b c) (nL a b c) hA hR hD (by decide) fun i hi => ?_).mono ?_
  · rcases three i hi with rfl | rfl | rfl
    · show a.l.length ≤ _; omega
    · show b.l.length ≤ _; omega
    · show c.l.length ≤ _; omega
  · rintro x w' ⟨rfl, hbut⟩
    refine ⟨rfl, ((But.ofBelow (S := InRows 3 (nA a b c)) ha.b).trans hbut fun _ _ e => e).below fun k hk ⟨i, hi, y, hy, e⟩ => ?_⟩
    rcases three i hi with rfl | rfl | rfl
    · have := new_at ha.n hy; omega
    · have := new_at hb.n hy; omega
    · have := new_at hc.n hy; omega
/-- rows of numbers stay where lists of bytes are written -/
theorem IOwn.bytes {B0 W W' : World} {a : Option Addr} {c : Nat} {l : List Int} {T : List Br} (h : IOwn B0 W a c l) (hf : Fam B0 W T) (hb : But (InRows T.length (tA T)) W W') (hw : Below B0.heap.size B0 W') : IOwn B0 W' a c l :=
  ⟨h.r.but hb fun x hx ⟨i, hi, y, hy, e⟩ => by
    rcases h.r.cases with ⟨h0, _⟩ | ⟨g, cur, h0, hg, _⟩
    · rw [h0] at hx; cases hx
    · rw [h0, Option.some.injEq] at hx
      subst hx
      exact (hf.own _ (t_mem hi)).1.r.nty (show Bx W 3 g cur from hg) (by decide) hy e, h.n, hw⟩
end Go.Proofs.YtlneomgjjkfnoabGreat

namespace Go.Proofs.YtlneomgjjkfnoabGreat
open Go.RowKit

theorem but_set9 (g : Nat) (w : World) (v0 v1 v2 v3 v4 v5 v6 v7 v8 : Value) : But (fun k => k = g) w (((((((((w.setCell ⟨g, 0, none⟩ v0).setCell ⟨g, 1, none⟩ v1).setCell ⟨g, 2, none⟩ v2).setCell ⟨g, 3, none⟩ v3).setCell ⟨g, 4, none⟩ v4).setCell ⟨g, 5, none⟩ v5).setCell ⟨g, 6, none⟩ v6).setCell ⟨g, 7, none⟩ v7).setCell ⟨g, 8, none⟩ v8) :=
  ((((but_set5 g w v0 v1 v2 v3 v4).setCell (p := ⟨g, 5, none⟩) (fun _ => rfl) v5).setCell (p := ⟨g, 6, none⟩) (fun _ => rfl) v6).setCell (p := ⟨g, 7, none⟩) (fun _ => rfl) v7).setCell (p := ⟨g, 8, none⟩) (fun _ => rfl) v8
theorem bx_set9 {w : World} {g : Nat} {t : TypeId} {o0 o1 o2 o3 o4 o5 o6 o7 o8 : Value} (h : Bx w t g #[o0, o1, o2, o3, o4, o5, o6, o7, o8]) (v0 v1 v2 v3 v4 v5 v6 v7 v8 : Value) : Bx (((((((((w.setCell ⟨g, 0, none⟩ v0).setCell ⟨g, 1, none⟩ v1).setCell ⟨g, 2, none⟩ v2).setCell ⟨g, 3, none⟩ v3).setCell ⟨g, 4, none⟩ v4).setCell ⟨g, 5, none⟩ v5).setCell ⟨g, 6, none⟩ v6).setCell ⟨g, 7, none⟩ v7).setCell ⟨g, 8, none⟩ v8) t g #[v0, v1, v2, v3, v4, v5, v6, v7, v8] := by
  have h9 := ((((((((h.setc 0 v0).setc 1 v1).setc 2 v2).setc 3 v3).setc 4 v4).setc 5 v5).setc 6 v6).setc 7 v7).setc 8 v8
  have e : (((((((((#[o0, o1, o2, o3, o4, o5, o6, o7, o8] : Array Value).setIfInBounds 0 v0).setIfInBounds 1 v1).setIfInBounds 2 v2).setIfInBounds 3 v3).setIfInBounds 4 v4).setIfInBounds 5 v5).setIfInBounds 6 v6).setIfInBounds 7 v7).setIfInBounds 8 v8 = #[v0, v1, v2, v3, v4, v5, v6, v7, v8] := by simp
  rw [e] at h9
  exact h9
theorem fr9 {w : World} {g : Nat} {t : TypeId} {cs : Array Value} (h : Bx w t g cs) : w.frozen? ⟨g, 0, none⟩ = false ∧ w.frozen? ⟨g, 1, none⟩ = false ∧ w.frozen? ⟨g, 2, none⟩ = false ∧ w.frozen? ⟨g, 3, none⟩ = false ∧ w.frozen? ⟨g, 4, none⟩ = false ∧ w.frozen? ⟨g, 5, none⟩ = false ∧ w.frozen? ⟨g, 6, none⟩ = false ∧ w.frozen? ⟨g, 7, none⟩ = false ∧ w.frozen? ⟨g, 8, none⟩ = false :=
  ⟨frozen_of_row _ _ _ _ _ h, frozen_of_row _ _ _ _ _ h, frozen_of_row _ _ _ _ _ h, frozen_of_row _ _ _ _ _ h, frozen_of_row _ _ _ _ _ h, frozen_of_row _ _ _ _ _ h, frozen_of_row _ _ _ _ _ h, frozen_of_row _ _ _ _ _ h, frozen_of_row _ _ _ _ _ h⟩
theorem below_set9 {v W : World} (h : Below v.heap.size v W) {g : Nat} (hg : v.heap.size ≤ g) (v0 v1 v2 v3 v4 v5 v6 v7 v8 : Value) : Below v.heap.size v (((((((((W.setCell ⟨g, 0, none⟩ v0).setCell ⟨g, 1, none⟩ v1).setCell ⟨g, 2, none⟩ v2).setCell ⟨g, 3, none⟩ v3).setCell ⟨g, 4, none⟩ v4).setCell ⟨g, 5, none⟩ v5).setCell ⟨g, 6, none⟩ v6).setCell ⟨g, 7, none⟩ v7).setCell ⟨g, 8, none⟩ v8) :=
  ((But.ofBelow (S := fun _ => False) h).trans (but_set9 g W v0 v1 v2 v3 v4 v5 v6 v7 v8) fun y hy e => by omega).below fun _ _ h => h
def Ov.zero : Ov := ⟨0, 0, 0, Pv.zero, none, 0, []⟩
theorem Sp.pre {w w0 W : World} {p q : Pv} (hb : Below w.heap.size w w0) (h : Sp w0 W p q) : Sp w W p q := by
  obtain ⟨g, D, e1, e2, e3, e4, e5⟩ := h.it
  exact ⟨h.e, Sf.pre hb h.s, ⟨g, D, e1, e2, e3, e4, by have := hb.size; omega⟩, bt hb h.b⟩
theorem Sp.box {w W W' : World} {p q : Pv} {k : Nat} {t : TypeId} {cs : Array Value} (h : Sp w W p q) (hk : Bx W t k cs) (h1 : t ≠ 5) (h2 : t ≠ 55) (hg : w.heap.size ≤ k) (hb : But (fun x => x = k) W W') : Sp w W' p q := by
  have hw : Below w.heap.size w W' := ((But.ofBelow (S := fun _ => False) h.b).trans hb fun y hy e => by omega).below fun _ _ h => h
  obtain ⟨g, D, e1, e2, e3, e4, e5⟩ := h.it
  exact ⟨h.e, h.s.but hb hw fun t ht x hx e => (h.s.f.own t ht).1.r.nty hk h1 hx e, ⟨g, D, e1, e2, e3.but hb fun x hx e => e3.nty hk h2 hx e, e4, e5⟩, hw⟩
theorem So.of {B0 w1 w2 : World} {o : Ov} {q : Pv} {gB : Nat} (h : Sp B0 w1 o.p q) (hs : Sl w2 (some ⟨gB, 0, none⟩) (o.B.length + 64) o.B) (hg : w1.heap.size ≤ gB) (hb : Below w1.heap.size w1 w2) : So B0 w2 o ⟨o.kd, o.no, o.gen, q, some ⟨gB, 0, none⟩, o.B.length + 64, o.B⟩ :=
  ⟨rfl, rfl, rfl, h.keep hb, rfl, h.s.add (Sf.one hs hg hb) hb h.b⟩
theorem So.box {B0 W W' : World} {o p : Ov} {k : Nat} {t : TypeId} {cs : Array Value} (h : So B0 W o p) (hk : Bx W t k cs) (h1 : t ≠ 5) (h2 : t ≠ 55) (hg : B0.heap.size ≤ k) (hb : But (fun x => x = k) W W') : So B0 W' o p := by
  have k2 := h.sp.box hk h1 h2 hg hb
  exact ⟨h.kd, h.no, h.gen, k2, h.eb, h.f.but hb k2.b fun t ht x hx e => (h.f.f.own t ht).1.r.nty hk h1 hx e⟩
set_option maxRecDepth 8000 in
set_option maxHeartbeats 3200000 in
theorem CopyPage_pn (w : World) (r : Pv) (hR : Pi w r) (hd : r.data.length ≤ 140737488355264) (hi : r.items.length ≤ 1048576) (hs : ∀ x ∈ r.items, x.key.length ≤ 140737488355264 ∧ x.val.length ≤ 140737488355264) :
    Calls Tryz.prog 14 #[r.vl] w fun e w' => ∃ q : Pv, e = .returned q.vl ∧ Pn w w' q ∧ q.items.length = r.items.length ∧ q.pg = r.pg ∧ Below w.heap.size w w' := by
  have S1 := hide fun w1 (hb : Below w.heap.size w w1) => CopyItems_any w1 r.aI r.items.length r.cI r.items (hR.it.keep hb) rfl hi hs
  have S2 := hide fun w1 (hb : Below w.heap.size w w1) => CopyBytes_at w1 r.aD r.data.length r.cD r.data (hR.bd.keep hb) rfl hd
  have L8 := hide hR.bd.1
  have NK := hide (And.intro hR.nk (And.intro hR.nl hR.nn))
  clear hR
  unfold Pv.vl
  obtain ⟨kind, level, aI, cI, items, aD, cD, data, next⟩ := r
  have IT := hide fun (W : World) (h : W.heap[w.heap.size]? = some (.cells (Pv.cs ⟨kind, level, aI, cI, items, aD, cD, data, next⟩) 27)) => Bx.page (p := ⟨kind, level, aI, cI, items, aD, cD, data, next⟩) h
  have IS := hide fun (W : World) (h : W.heap[w.heap.size]? = some (.cells (Pv.cs ⟨kind, level, aI, cI, items, aD, cD, data, next⟩) 27)) (a b c d f : Value) => Bx.page (p := ⟨kind, level, aI, cI, items, aD, cD, data, next⟩) ((show Bx W 27 w.heap.size _ from h).but (but_set5 (w.heap.size + 1) W a b c d f) (by omega))
  have TZ := hide fun (W : World) (h : W.heap[w.heap.size + 1]? = some (.cells (Pv.cs Pv.zero) 27)) => And.intro (Bx.page (p := Pv.zero) h) (fr4 (show Bx W 27 (w.heap.size + 1) _ from h))
  have TM := hide fun (W : World) (h : W.heap[w.heap.size + 1]? = some (.cells (Pv.cs Pv.zero) 27)) (a b c d f : Value) => bx_set5 (show Bx W 27 (w.heap.size + 1) _ from h) a b c d f
  dsimp only [Pv.cs, Pv.zero, List.length_nil] at *
  go_enter Tryz.func14, Tryz.ntmps14
  go_wp2
  have T0 : Hid (Below ((w.alloc (.cells #[.int .i64 kind, .int .i64 level, .slice aI items.length cI, .slice aD data.length cD, .int .i64 next] 27)).alloc (.cells #[.int .i64 0, .int .i64 0, .slice none 0 0, .slice none 0 0, .int .i64 0] 27)).heap.size ((w.alloc (.cells #[.int .i64 kind, .int .i64 level, .slice aI items.length cI, .slice aD data.length cD, .int .i64 next] 27)).alloc (.cells #[.int .i64 0, .int .i64 0, .slice none 0 0, .slice none 0 0, .int .i64 0] 27)) ((w.alloc (.cells #[.int .i64 kind, .int .i64 level, .slice aI items.length cI, .slice aD data.length cD, .int .i64 next] 27)).alloc (.cells #[.int .i64 0, .int .i64 0, .slice none 0 0, .slice none 0 0, .int .i64 0] 27)).drew) := (Below.refl _ _).drew
  have C0 := IT.out _ (two_blocks w _ _ T0.out).1
  have hn : w.heap.size + 1 ≠ w.heap.size := by omega
  go_region_held3 (fun w' => w'.cell? ⟨w.heap.size, 0, none⟩ = some (.int .i64 kind) ∧ w'.cell? ⟨w.heap.size, 1, none⟩ = some (.int .i64 level) ∧ w'.cell? ⟨w.heap.size, 2, none⟩ = some (.slice aI items.length cI) ∧ w'.cell? ⟨w.heap.size, 3, none⟩ = some (.slice aD data.length cD) ∧ w'.cell? ⟨w.heap.size, 4, none⟩ = some (.int .i64 next))
    (first | with_reducible exact C0 | with_reducible exact IS.out _ (two_blocks w _ _ T0.out).1 _ _ _ _ _)
    (first | (go_at_call 31; with_reducible refine (S1.out _ (two_blocks w _ _ T0.out).2.2.1).mono ?_; rintro e w1 ⟨g1, d1, M, rfl, o1⟩; have hb1 := o1.j.b; have S0 := hide (Nat.le_trans (Nat.le_trans (Nat.le_succ _) (Nat.le_succ _)) (two_blocks w _ _ T0.out).2.2.2); have RL := hide (fun t (ht : t ∈ rowsOf M) x (hx : t.a = some x) => (o1.f.own t ht).1.r.lt hx); have T0 := hide (bt T0.out hb1); have C0 := IT.out _ (two_blocks w _ _ T0.out).1; have R1 := hide o1; clear hb1 o1) | (go_at_call 15; with_reducible refine (S2.out _ (two_blocks w _ _ T0.out).2.2.1).mono ?_; rintro e w2 ⟨g2, d2, rfl, o2⟩; have hb2 := o2.b; have S1' := hide (Nat.le_trans S0.out R1.out.j.b.size); have RF := hide (fun y (hy : g2 = some y) => o2.fresh hy); have T0 := hide (bt T0.out hb2); have C0 := IT.out _ (two_blocks w _ _ T0.out).1; obtain ⟨⟨y0, y1, y2, y3, y4⟩, f0, f1, f2, f3, f4⟩ := TZ.out _ (two_blocks w _ _ T0.out).2.1; have R1 := hide (R1.out.keep hb2); have R2 := hide o2.r; clear hb2 o2))
  clear C0
  have M1 := hide (TM.out _ (two_blocks w _ _ T0.out).2.1 (.int .i64 kind) (.int .i64 level) (.slice g1 items.length d1) (.slice g2 data.length d2) (.int .i64 next))
  have BB := hide (but_set5 (w.heap.size + 1) w2 (.int .i64 kind) (.int .i64 level) (.slice g1 items.length d1) (.slice g2 data.length d2) (.int .i64 next))
  have TB := hide (two_blocks w _ _ T0.out).2.2.1
  have X1 : Hid (Bx w2 27 (w.heap.size + 1) _) := (two_blocks w _ _ T0.out).2.1
  clear y0 y1 y2 y3 y4 f0 f1 f2 f3 f4 T0
  go_wp2
  refine bodyPost_ret (v := .agg _) (results_cell_row Tryz.results14 _ _ (w.heap.size + 1) 27 _ (0, 0) _ rfl M1.out Tryz.underlying27 rfl sizePage) rfl ?_
  have bel : Below w.heap.size w _ := ((But.ofBelow (S := fun k => k = w.heap.size + 1) TB.out).trans BB.out fun _ _ e => e).below fun k hk e => by omega
  have r2 := R2.out.but BB.out fun x hx e => R2.out.nty X1.out (by decide) hx e
  have j2 := R1.out.j.r.but BB.out fun x hx e => R1.out.j.r.nty X1.out (by decide) hx e
  have hml := R1.out.len
  have hrw : ∀ {a c l}, Rw w2 a c l → Rw _ a c l := fun hr => hr.but BB.out fun x hx e => hr.nty X1.out (by decide) hx e
  refine ⟨⟨kind, level, g1, d1, M, g2, d2, data, next⟩, by rw [← hml], ⟨j2, R1.out.j.n.mono S0.out, r2, fun y hy => .inr (by have h1 := RF.out y hy; have h2 := S1'.out; omega), fun t ht => ?_, ?_, L8.out, R1.out.n, NK.out.1, NK.out.2.1, NK.out.2.2⟩, hml, ?_, bel⟩
  · obtain ⟨o, o8⟩ := R1.out.f.own t ht
    exact ⟨hrw o.r, o.n.mono S0.out, o8⟩
  · refine List.pairwise_cons.2 ⟨fun t ht x y hx hy e => ?_, R1.out.f.dist⟩
    have h1 := RF.out x hx
    have h2 := RL.out t ht y hy
    omega
  unfold Pv.pg
  dsimp only
  rw [R1.out.e]
/-- the copied call -/
structure Nw (V W : World) (now p : Ov) : Prop where
  pn : Pn V W now.p
  il : now.p.items.length ≤ 1048576
  rb : Rw W now.aB now.cB now.B
  b8 : B8 now.B
  e : now.ans = p.ans
theorem Nw.box {V W W' : World} {now p : Ov} {k : Nat} {t : TypeId} {cs : Array Value} (h : Nw V W now p) (hk : Bx W t k cs) (h1 : t ≠ 5) (h2 : t ≠ 55) (hb : But (fun x => x = k) W W') : Nw V W' now p :=
  ⟨h.pn.but hb fun x hx => by subst hx; exact ⟨t, cs, hk, h1, h2⟩, h.il, h.rb.but hb fun x hx e => h.rb.nty hk h1 hx e, h.b8, h.e⟩
theorem Nw.keep {V W W' : World} {now p : Ov} (h : Nw V W now p) (hb : Below W.heap.size W W') : Nw V W' now p := ⟨h.pn.keep hb, h.il, h.rb.keep hb, h.b8, h.e⟩
theorem Nw.oi {V W : World} {now p : Ov} (h : Nw V W now p) : Oi W now := ⟨h.pn.pi (by have := h.il; omega), h.rb.bs h.b8 h.rb.len_le, h.rb.cap⟩
theorem Nw.of {V w1 w2 : World} {p : Ov} {kd no gen : Int} {q : Pv} {gB : Option Addr} {dB : Nat} (h : Pn V w1 q) (hl : q.items.length = p.p.items.length) (hp : p.p.items.length ≤ 1048576) (he : q.pg = p.p.pg) (o : Own w1 w2 gB dB p.B) (h8 : B8 p.B) (e1 : kd = p.kd) (e2 : no = p.no) (e3 : gen = p.gen) : Nw V w2 ⟨kd, no, gen, q, gB, dB, p.B⟩ p :=
  ⟨h.keep o.b, by dsimp only; omega, o.r, h8, by unfold Ov.ans; dsimp only; rw [he, e1, e2, e3]⟩
/-- how long the lists of a call that came in are -/
structure Oc (o : Ov) : Prop where
  d : o.p.data.length ≤ 140737488355264
  x : ∀ r ∈ o.p.items, r.key.length ≤ 140737488355264 ∧ r.val.length ≤ 140737488355264
/-- calls that came in -/
def Oz (w : World) (a : Option Addr) (L : List Ov) : Prop :=
  (∀ o ∈ L, Oi w o ∧ Oc o) ∧ L.length ≤ 140737488355328 ∧ (L = [] ∨ ∃ b off, a = some ⟨b, off, none⟩ ∧ ∀ r, r < L.length → w.rangeAt b (off + r * 9) (L.getD r Ov.zero).cs.toList)
theorem getD_memO {L : List Ov} {r : Nat} (h : r < L.length) : L.getD r Ov.zero ∈ L := by simp [h]
theorem Oz.at {w : World} {a : Option Addr} {L : List Ov} (h : Oz w a L) {r : Nat} (hr : r < L.length) : ∃ b off, a = some ⟨b, off, none⟩ ∧ w.rangeAt b (off + r * 9) (L.getD r Ov.zero).cs.toList := by
  rcases h.2.2 with rfl | ⟨b, off, e, hc⟩
  · simp at hr
  · exact ⟨b, off, e, hc r hr⟩
theorem range9 {w : World} {b k : Nat} {o : Ov} (h : w.rangeAt b k o.cs.toList) : w.cell? ⟨b, k, none⟩ = some (.int .i64 o.kd) ∧ w.cell? ⟨b, k + 1, none⟩ = some (.int .i64 o.no) ∧ w.cell? ⟨b, k + 2, none⟩ = some (.int .i64 o.gen) ∧ w.cell? ⟨b, k + 3, none⟩ = some (.int .i64 o.p.kind) ∧ w.cell? ⟨b, k + 4, none⟩ = some (.int .i64 o.p.level) ∧ w.cell? ⟨b, k + 5, none⟩ = some (.slice o.p.aI o.p.items.length o.p.cI) ∧ w.cell? ⟨b, k + 6, none⟩ = some (.slice o.p.aD o.p.data.length o.p.cD) ∧ w.cell? ⟨b, k + 7, none⟩ = some (.int .i64 o.p.next) ∧ w.cell? ⟨b, k + 8, none⟩ = some (.slice o.aB o.B.length o.cB) :=
  ⟨h 0 _ rfl, h 1 _ rfl, h 2 _ rfl, h 3 _ rfl, h 4 _ rfl, h 5 _ rfl, h 6 _ rfl, h 7 _ rfl, h 8 _ rfl⟩
end Go.Proofs.YtlneomgjjkfnoabGreat
