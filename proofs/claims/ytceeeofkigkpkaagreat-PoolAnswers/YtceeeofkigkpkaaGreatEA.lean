import Derived.Test.YtceeeofkigkpkaaGreatUF
import Derived.Test.YtceeeofkigkpkaaGreatUI
import Derived.Test.YtceeeofkigkpkaaGreatUQ
namespace Go.Proofs.YtceeeofkigkpkaaGreat
set_option linter.unusedVariables false
open Go.RowKit

/-! ### rows of any kind, in blocks of their own -/
def Gw (e : TypeId) (sz : Nat) (w : World) (a : Option Addr) (cap n : Nat) (C : List Value) : Prop := w.ownsRow 0 e sz (.slice a n cap) n C
theorem Gw.nil (e : TypeId) (sz : Nat) (w : World) : Gw e sz w none 0 0 [] := World.ownsRow_nil w 0 e sz
theorem Gw.length {e : TypeId} {sz : Nat} {w : World} {a : Option Addr} {cap n : Nat} {C : List Value} (h : Gw e sz w a cap n C) : C.length = n * sz := h.1
theorem Gw.cases {e : TypeId} {sz : Nat} {w : World} {a : Option Addr} {cap n : Nat} {C : List Value} (h : Gw e sz w a cap n C) : (a = none ∧ cap = 0 ∧ n = 0 ∧ C = []) ∨
    ∃ g cur, a = some ⟨g, 0, none⟩ ∧ w.heap[g]? = some (.cells cur e (0, 0)) ∧ n ≤ cap ∧ cap ≤ maxLen ∧ cur.size = cap * sz ∧ cur.toList.take (n * sz) = C := by
  have hl := h.1
  obtain ⟨_, h2⟩ := h
  rcases h2 with ⟨hv, h0⟩ | ⟨g, cap', cur, hv, _, hg, hn, hm, hs, ht⟩
  · simp only [Value.slice.injEq] at hv
    refine .inl ⟨hv.1, hv.2.2, h0, List.length_eq_zero_iff.1 ?_⟩
    rw [hl, h0, Nat.zero_mul]
  · simp only [Value.slice.injEq] at hv
    obtain ⟨h1, _, rfl⟩ := hv
    exact .inr ⟨g, cur, h1, hg, hn, hm, hs, ht⟩
theorem Gw.mk {e : TypeId} {sz : Nat} {w : World} {g cap n : Nat} {cur : Array Value} {C : List Value} (hl : C.length = n * sz) (hg : w.heap[g]? = some (.cells cur e (0, 0))) (hn : n ≤ cap) (hm : cap ≤ maxLen) (hs : cur.size = cap * sz) (ht : cur.toList.take (n * sz) = C) : Gw e sz w (some ⟨g, 0, none⟩) cap n C :=
  ⟨hl, .inr ⟨g, cap, cur, rfl, Nat.zero_le _, hg, hn, hm, hs, ht⟩⟩
theorem Gw.lt {e : TypeId} {sz : Nat} {w : World} {a : Option Addr} {cap n : Nat} {C : List Value} (h : Gw e sz w a cap n C) {x : Addr} (hx : a = some x) : x.block < w.heap.size := by
  rcases h.cases with ⟨rfl, _⟩ | ⟨g, cur, rfl, hg, _⟩
  · cases hx
  · cases hx; exact (Array.getElem?_eq_some_iff.1 hg).1
theorem Gw.but {e : TypeId} {sz : Nat} {S : Nat → Prop} {w w' : World} {a : Option Addr} {cap n : Nat} {C : List Value} (h : Gw e sz w a cap n C) (hb : But S w w') (hn : ∀ x, a = some x → ¬ S x.block) : Gw e sz w' a cap n C := by
  have hl := h.length
  rcases h.cases with ⟨rfl, rfl, rfl, rfl⟩ | ⟨g, cur, rfl, hg, h1, h2, h3, h4⟩
  · exact Gw.nil e sz w'
  · exact Gw.mk hl (hb.same hg (hn _ rfl)) h1 h2 h3 h4
theorem Gw.keep {e : TypeId} {sz : Nat} {w w' : World} {a : Option Addr} {cap n : Nat} {C : List Value} (h : Gw e sz w a cap n C) (hb : Below w.heap.size w w') : Gw e sz w' a cap n C :=
  h.but (S := fun _ => False) (But.ofBelow hb) (fun _ _ hf => hf)
theorem Gw.addr {e : TypeId} {sz : Nat} {w : World} {a : Option Addr} {cap n : Nat} {C : List Value} (h : Gw e sz w a cap n C) (h0 : 0 < n) : ∃ g, a = some ⟨g, 0, none⟩ := by
  rcases h.cases with ⟨rfl, rfl, rfl, rfl⟩ | ⟨g, cur, rfl, hg, h1, h2, h3, h4⟩
  · omega
  · exact ⟨g, rfl⟩
theorem Gw.cell {e : TypeId} {sz : Nat} {w : World} {g cap n : Nat} {C : List Value} (h : Gw e sz w (some ⟨g, 0, none⟩) cap n C) {i : Nat} {u : Value} (hi : C[i]? = some u) : w.cell? ⟨g, i, none⟩ = some u := by
  rcases h.cases with ⟨h0, _⟩ | ⟨g', cur, h0, hg, h1, h2, h3, h4⟩
  · cases h0
  · simp only [Option.some.injEq, Addr.mk.injEq, and_true] at h0
    subst h0
    have hlt := (List.getElem?_eq_some_iff.1 hi).1
    rw [← h4, List.getElem?_take] at hi
    split at hi
    · rw [cell_of_row _ _ _ _ _ _ hg]
      simpa using hi
    · cases hi
theorem Gw.capLe {e : TypeId} {sz : Nat} {w : World} {a : Option Addr} {cap n : Nat} {C : List Value} (h : Gw e sz w a cap n C) : n ≤ cap ∧ cap ≤ maxLen := by
  rcases h.cases with ⟨rfl, rfl, rfl, rfl⟩ | ⟨g, cur, rfl, hg, h1, h2, h3, h4⟩
  · exact ⟨Nat.le_refl _, Nat.zero_le _⟩
  · exact ⟨h1, h2⟩
/-- one element is appended -/
theorem run_apG {T e : TypeId} {sz by' : Nat} {z : Value} (hu : Tryz.prog.underlying T = some (.slice e)) (hi : (Tryz.prog.info? e).map (fun i => (i.zero, i.size, i.bytes)) = some (some z, sz, by')) (hzs : z.cells.size = sz) (hsz : 0 < sz)
    (w : World) (ty : TypeId) (a : Option Addr) (n cap : Nat) (C : List Value) (hR : Gw e sz w a cap n C) (ad : Addr) (c : Nat) (V : List Value) (hV : V.length = sz) (hc : ∀ j u, V[j]? = some u → w.cell? (ad.add j) = some u) (h1 : ∀ u ∈ V, u.oneCell' = true) (hlen : n + 1 ≤ 4398046511104) (hby : by' ≤ 32) :
    ∃ g cap' w', (Builtin.append_ #[T, T] ty #[.slice a n cap, .slice (some ad) 1 c]).run Tryz.prog w = .ok (.slice (some ⟨g, 0, none⟩) (n + 1) cap') w' ∧
      Gw e sz w' (some ⟨g, 0, none⟩) cap' (n + 1) (C ++ V) ∧ New w a (some ⟨g, 0, none⟩) ∧ But (InA a) w w' := by
  obtain ⟨i0, hi, hz0, hz1, hz2⟩ := info_parts hi
  have hb : (n + 1) * by' ≤ 140737488355328 := Nat.le_trans (Nat.mul_le_mul hlen hby) (by decide)
  obtain ⟨g, cap', w', hr, h1, h2, h3, h4⟩ := run_append_lies (P := Tryz.prog) w T ty 0 e i0 z sz by' hu hi hz0 hz1 hz2 hzs hsz (.slice a n cap) n C hR ad 1 c V (by rw [hV, Nat.one_mul]) hc h1 (by decide) (by unfold maxLen; omega) hb (Nat.zero_le _) w.heap.size rfl
  rw [ob_eq] at h2 h3
  refine ⟨g, cap', w', hr, h1, ?_, But.inA h2⟩
  intro y hy
  simp only [Option.some.injEq] at hy
  subst hy
  rcases h3 with h3 | h3
  · obtain ⟨z, hz, e⟩ := map_some h3
    exact .inl ⟨z, hz, e⟩
  · exact .inr (by show _ ≤ g; omega)

/-! ### the numbers of a set; First -/
def cnt (r : Rn) : Nat := (r.2 - r.1 + 1).toNat
def rnum (x : Int) (c : Nat) : List Int := (List.range c).map fun i => x + ((i : Nat) : Int)
theorem rnum_length (x : Int) (c : Nat) : (rnum x c).length = c := by simp [rnum]
theorem rnum_succ (x : Int) (c : Nat) : rnum x (c + 1) = rnum x c ++ [x + c] := by simp [rnum, List.range_succ]
theorem rnum_take (x : Int) (c j : Nat) (h : j ≤ c) : (rnum x c).take j = rnum x j := by
  unfold rnum
  rw [← List.map_take, List.take_range, Nat.min_eq_left h]
def nums (L : List Rn) : List Int := (L.map fun r => rnum r.1 (cnt r)).flatten
theorem nums_snoc {L : List Rn} {k : Nat} (hk : k < L.length) : nums (L.take (k + 1)) = nums (L.take k) ++ rnum (L.getD k Rn.zero).1 (cnt (L.getD k Rn.zero)) := by
  unfold nums
  rw [take_next L Rn.zero hk, List.map_append, List.flatten_append]
  simp
def ic (X : List Int) : List Value := X.map fun x => Value.int .i64 x
theorem ic_append (X Y : List Int) : ic (X ++ Y) = ic X ++ ic Y := by simp [ic]
theorem ic_get (X : List Int) {i : Nat} (h : i < X.length) : (ic X)[i]? = some (.int .i64 (X.getD i 0)) := by simp [ic, h]
/-- a new row of ints -/
structure Xw (w wx : World) (a : Option Addr) (c : Nat) (X : List Int) : Prop where
  row : Gw 3 1 wx a c X.length (ic X)
  na : New w none a
  b : Below w.heap.size w wx
theorem Xw.keep {w wx wy : World} {a : Option Addr} {c : Nat} {X : List Int} (h : Xw w wx a c X) (hb : Below wx.heap.size wx wy) : Xw w wy a c X := ⟨h.row.keep hb, h.na, bt h.b hb⟩
theorem infoInt : (Tryz.prog.info? 3).map (fun i => (i.zero, i.size, i.bytes)) = some (some (.int .i64 0), 1, 8) := by kernel_rfl
theorem Xw.next {w wx : World} {a : Option Addr} {n c : Nat} {X : List Int} (h : Xw w wx a c X) (hn : n = X.length) (x : Int) (hl : n + 1 ≤ 4294967296) :
    ∃ g cap' w', (Builtin.append_ #[22, 22] 22 #[.slice a n c, .slice (some ⟨wx.heap.size, 0, none⟩) 1 1]).run Tryz.prog (wx.alloc (.cells #[.int .i64 x] 3)) = .ok (.slice (some ⟨g, 0, none⟩) (n + 1) cap') w' ∧ Xw w w' (some ⟨g, 0, none⟩) cap' (X ++ [x]) := by
  subst hn
  have h6 := h.keep (al wx (.cells #[.int .i64 x] 3))
  obtain ⟨g, cap', w1, hr, v1, v2, v3⟩ := run_apG Tryz.underlying22 infoInt rfl (by decide) (wx.alloc (.cells #[.int .i64 x] 3)) 22 a X.length c (ic X) h6.row ⟨wx.heap.size, 0, none⟩ 1 [.int .i64 x] rfl
    (by intro j u hj
        match j, hj with
        | 0, hj => simp at hj; subst hj; exact cell_alloc_new wx _ _) (by intro u hu; simp at hu; subst hu; rfl) (Nat.le_trans hl (by decide)) (by decide)
  refine ⟨g, cap', w1, hr, ⟨by rw [ic_append, List.length_append]; exact v1, h6.na.trans v2 h6.b.size, ?_⟩⟩
  refine ((But.ofBelow (S := fun _ => False) h6.b).trans v3 (fun k hk ⟨y, hy, e⟩ => ?_)).below (fun _ _ h => h)
  rcases h6.na y hy with ⟨z, hz, _⟩ | h2
  · cases hz
  · omega
end Go.Proofs.YtceeeofkigkpkaaGreat
