import Derived.Test.YticcpkdhfdefpaaNVA
import Derived.Test.YticcpkdhfdefpaaNXW
import Derived.Test.YticcpkdhfdefpaaNXB
import Derived.Test.YticcpkdhfdefpaaNYM
namespace Go.Proofs.Yticcpkdhfdefpaa
open Go.RowKit

/-! ### lists that Spare made -/
structure Ks (W : World) (s : Br) : Prop where
  g : ∃ g, s.a = some ⟨g, 0, none⟩ ∧ W.rowIs g 5 s.c (spF s.l)
  c : s.c = s.l.length + 64
theorem Ks.keep {W W' : World} {s : Br} (h : Ks W s) (hb : Below W.heap.size W W') : Ks W' s := by
  obtain ⟨⟨g, h1, h2⟩, h3⟩ := h
  exact ⟨⟨g, h1, rowIs_below h2 hb⟩, h3⟩
theorem Ks.but {S : Nat → Prop} {W W' : World} {s : Br} (h : Ks W s) (hb : But S W W') (hn : ∀ x, s.a = some x → ¬ S x.block) : Ks W' s := by
  obtain ⟨⟨g, h1, h2⟩, h3⟩ := h
  exact ⟨⟨g, h1, rowIs_but h2 hb (hn _ h1)⟩, h3⟩
theorem rowIs_rw {W : World} {g N : Nat} {l : List Nat} (h : W.rowIs g 5 N (spF l)) (hN : N = l.length + 64) (hm : N ≤ maxLen) : Rw W (some ⟨g, 0, none⟩) N l := by
  obtain ⟨cur, hg, hs, hf⟩ := h
  refine Rw.mk (cur := cur) hg (by omega) hm hs ?_
  apply List.ext_getElem?
  intro i
  by_cases hi : i < l.length
  · rw [List.getElem?_take, if_pos hi, vb_get l i hi]
    have := hf i (by omega)
    unfold spF at this
    rw [if_pos hi] at this
    simpa using this
  · rw [List.getElem?_eq_none (by rw [List.length_take]; omega), List.getElem?_eq_none (by rw [vb_length]; omega)]
/-- a byte of one of them is another one -/
theorem Lb.set {w W : World} {a : Option Addr} {c : Nat} {S : List Br} (h : Lb w W a c S) {j g n x : Nat} (hj : j < S.length) (hg : (S.getD j Br0).a = some ⟨g, 0, none⟩) (hx : x < 256) :
    Lb w (W.setCell ⟨g, n, none⟩ (.int .u8 (x : Int))) a c (S.set j ⟨(S.getD j Br0).a, (S.getD j Br0).c, (S.getD j Br0).l.set n x⟩) := by
  have hB : But (fun k => k = g) W (W.setCell ⟨g, n, none⟩ (.int .u8 (x : Int))) := (But.refl (fun k => k = g) W).setCell (p := ⟨g, n, none⟩) (fun _ => rfl) _
  have hoj := h.f.own _ (Br0_mem hj)
  have hgl := hoj.1.fresh hg
  have hw : Below w.heap.size w (W.setCell ⟨g, n, none⟩ (.int .u8 (x : Int))) := ((But.ofBelow (S := fun _ => False) h.x.b).trans hB fun y hy e => by simp only at hgl; omega).below fun _ _ h => h
  have hmap : (S.set j ⟨(S.getD j Br0).a, (S.getD j Br0).c, (S.getD j Br0).l.set n x⟩).map bv = S.map bv := by
    rw [List.map_set]
    have e : bv ⟨(S.getD j Br0).a, (S.getD j Br0).c, (S.getD j Br0).l.set n x⟩ = (S.map bv)[j]'(by rw [List.length_map]; exact hj) := by
      simp [bv, hj]
    rw [e]
    exact List.set_getElem_self _
  have hd := h.f.distG
  refine ⟨⟨by rw [hmap]; exact h.x.r.but hB fun y hy e => (h.x.r.ne hoj.1.r hy hg) e, h.x.n, hw⟩, ⟨fun t ht => ?_, ?_⟩⟩
  · obtain ⟨i, hi, rfl⟩ := List.getElem_of_mem ht
    rw [List.length_set] at hi
    by_cases e : i = j
    · subst e
      rw [List.getElem_set_self]
      refine ⟨⟨?_, hoj.1.n, hw⟩, setB8 hoj.2 hx⟩
      have hr := hoj.1.r
      rw [hg] at hr ⊢
      exact hr.set n x
    · rw [List.getElem_set_ne (by omega)]
      have hm : S[i] ∈ S := List.getElem_mem _
      refine ⟨(h.f.own _ hm).1.but hB hw fun y hy e2 => ?_, (h.f.own _ hm).2⟩
      have := hd i j hi hj e y ⟨g, 0, none⟩ (by unfold tA; simpa [hi] using hy) (by unfold tA; exact hg)
      exact this e2
  · refine List.pairwise_iff_getElem.2 fun i k hi hk hik => ?_
    rw [List.length_set] at hi hk
    have hp := List.pairwise_iff_getElem.1 h.f.dist i k hi hk hik
    intro y z hy hz
    refine hp y z ?_ ?_
    · by_cases e : j = i
      · subst e; rw [List.getElem_set_self] at hy; simpa [hj] using hy
      · rw [List.getElem_set_ne e] at hy; exact hy
    · by_cases e : j = k
      · subst e; rw [List.getElem_set_self] at hz; simpa [hj] using hz
      · rw [List.getElem_set_ne e] at hz; exact hz
/-! ### lists of numbers, each of its own -/
structure Bi where
  a : Option Addr
  c : Nat
  l : List Int
def Bi0 : Bi := ⟨none, 0, []⟩
def biv (u : Bi) : Value := .slice u.a u.l.length u.c
structure Fi (w W : World) (U : List Bi) : Prop where
  own : ∀ u ∈ U, IOwn w W u.a u.c u.l
  dist : U.Pairwise fun s t => ∀ x y, s.a = some x → t.a = some y → x.block ≠ y.block
theorem Fi.keep {w W W' : World} {U : List Bi} (h : Fi w W U) (hb : Below W.heap.size W W') : Fi w W' U := ⟨fun u hu => (h.own u hu).keep hb, h.dist⟩
theorem Fi.add {w W W' : World} {U : List Bi} {u : Bi} (h : Fi w W U) (hu : IOwn W W' u.a u.c u.l) (hw : Below w.heap.size w W) : Fi w W' (U ++ [u]) := by
  refine ⟨fun t ht => ?_, List.pairwise_append.2 ⟨h.dist, List.pairwise_singleton _ _, fun s hs t ht x y hx hy e => ?_⟩⟩
  · rcases List.mem_append.1 ht with h1 | h1
    · exact (h.own t h1).keep hu.b
    · rw [List.mem_singleton.1 h1]; exact ⟨hu.r, hu.n.mono hw.size, bt hw hu.b⟩
  · rw [List.mem_singleton.1 ht] at hy
    have h1 := (h.own s hs).r.lt hx
    have h2 := new_at hu.n hy
    omega
theorem Fi.but {S : Nat → Prop} {w W W' : World} {U : List Bi} (h : Fi w W U) (hb : But S W W') (hw : Below w.heap.size w W') (hn : ∀ u ∈ U, ∀ x, u.a = some x → ¬ S x.block) : Fi w W' U := ⟨fun u hu => ⟨(h.own u hu).r.but hb (hn u hu), (h.own u hu).n, hw⟩, h.dist⟩
theorem Fi.apart (w B0 : World) (U : List Bi) (a : Option Addr) (ct : Nat) (hf : Fi B0 w U) (hw : Below B0.heap.size B0 w) (hA : Ai w a ct (U.map biv)) (hn : U.length ≤ 5864062014636) (hl : ∀ u ∈ U, u.l.length ≤ 268435436) :
    Calls Try.prog 23 #[.slice a U.length ct] w fun x w' => x = .returned (.bool true) ∧ Below B0.heap.size B0 w' := by
  have hv : U.map biv = (List.range U.length).map (fun i => Value.slice (U.getD i Bi0).a (U.getD i Bi0).l.length (U.getD i Bi0).c) := by
    apply List.ext_getElem?
    intro i
    by_cases hi : i < U.length
    · simp [hi, biv]
    · rw [List.getElem?_eq_none (by rw [List.length_map]; omega), List.getElem?_eq_none (by rw [List.length_map, List.length_range]; omega)]
  rw [hv] at hA
  have hmem : ∀ i, i < U.length → U.getD i Bi0 ∈ U := fun i hi => by simp [hi]
  refine (ApartInts_some w a ct U.length _ _ _ hA (fun i hi => (hf.own _ (hmem i hi)).r) (fun i j hi hj hne x y hx hy => ?_) hn fun i hi => hl _ (hmem i hi)).mono ?_
  · have hp := List.pairwise_iff_getElem.1 hf.dist
    have ei : U.getD i Bi0 = U[i] := by simp [hi]
    have ej : U.getD j Bi0 = U[j] := by simp [hj]
    rw [ei] at hx
    rw [ej] at hy
    rcases Nat.lt_or_gt_of_ne hne with h1 | h1
    · exact hp i j hi hj h1 x y hx hy
    · exact fun e => hp j i hj hi h1 y x hy hx e.symm
  · rintro x w' ⟨rfl, hbut⟩
    refine ⟨rfl, ((But.ofBelow (S := InRows U.length fun i => (U.getD i Bi0).a) hw).trans hbut fun _ _ e => e).below fun k hk ⟨i, hi, y, hy, e⟩ => ?_⟩
    have := new_at (hf.own _ (hmem i hi)).n hy
    omega
end Go.Proofs.Yticcpkdhfdefpaa
