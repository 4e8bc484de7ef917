import Derived.Test.YtifhkfghjifecaaJY
import Derived.Test.YtifhkfghjifecaaJR
namespace Go.Proofs.Ytifhkfghjifecaa
open Go.RowKit

structure Rr where
  a : Option Addr
  c : Nat
  l : List Ro
def Rr0 : Rr := ⟨none, 0, []⟩
def jv (t : Rr) : Value := .slice t.a t.l.length t.c
/-- lists of roots, each of its own -/
structure FamJ (w W : World) (T : List Rr) : Prop where
  own : ∀ t ∈ T, JOwn w W t.a t.c t.l
  dist : T.Pairwise fun s t => ∀ x y, s.a = some x → t.a = some y → x.block ≠ y.block
theorem JOwn.fresh {w W : World} {a : Option Addr} {c : Nat} {l : List Ro} (h : JOwn w W a c l) {x : Addr} (hx : a = some x) : w.heap.size ≤ x.block := new_at h.n hx
theorem FamJ.keep {w W W' : World} {T : List Rr} (h : FamJ w W T) (hb : Below W.heap.size W W') : FamJ w W' T := ⟨fun t ht => (h.own t ht).keep hb, h.dist⟩
theorem FamJ.but {S : Nat → Prop} {w W W' : World} {T : List Rr} (h : FamJ w W T) (hb : But S W W') (hw : Below w.heap.size w W') (hn : ∀ t ∈ T, ∀ x, t.a = some x → ¬ S x.block) : FamJ w W' T := ⟨fun t ht => ⟨(h.own t ht).r.but hb (hn t ht), (h.own t ht).n, hw⟩, h.dist⟩
theorem FamJ.nil (w W : World) : FamJ w W [] := ⟨fun _ h => (List.not_mem_nil h).elim, List.Pairwise.nil⟩
theorem FamJ.snoc {w W W' : World} {T : List Rr} {a : Option Addr} {c : Nat} {l : List Ro} (h : FamJ w W T) (hw : Below w.heap.size w W) (k : JOwn W W' a c l) : FamJ w W' (T ++ [⟨a, c, l⟩]) := by
  refine ⟨fun t ht => ?_, ?_⟩
  · rcases List.mem_append.1 ht with h1 | h1
    · exact (h.own t h1).keep k.b
    · rw [List.mem_singleton] at h1
      subst h1
      exact JOwn.pre hw k
  · refine List.pairwise_append.2 ⟨h.dist, List.pairwise_singleton _ _, fun s hs t ht x y hx hy => ?_⟩
    rw [List.mem_singleton] at ht
    subst ht
    have h1 := (h.own s hs).r.lt hx
    have h2 := new_at k.n hy
    omega
def uA (T : List Rr) (i : Nat) : Option Addr := (T.getD i Rr0).a
def uC (T : List Rr) (i : Nat) : Nat := (T.getD i Rr0).c
def uL (T : List Rr) (i : Nat) : List Ro := (T.getD i Rr0).l
theorem u_mem {T : List Rr} {i : Nat} (h : i < T.length) : T.getD i Rr0 ∈ T := by simp [h]
theorem FamJ.rowsG {w W : World} {T : List Rr} (h : FamJ w W T) : RowsJ W T.length (uA T) (uC T) (uL T) := fun _ hi => (h.own _ (u_mem hi)).r
theorem FamJ.distG {w W : World} {T : List Rr} (h : FamJ w W T) : Dist T.length (uA T) := by
  intro i j hi hj hne x y hx hy
  have hp := List.pairwise_iff_getElem.1 h.dist
  have ei : T.getD i Rr0 = T[i] := by simp [hi]
  have ej : T.getD j Rr0 = T[j] := by simp [hj]
  unfold uA at hx hy
  rw [ei] at hx
  rw [ej] at hy
  rcases Nat.lt_or_gt_of_ne hne with h1 | h1
  · exact hp i j hi hj h1 x y hx hy
  · exact fun e => hp j i hj hi h1 y x hy hx e.symm
theorem jv_get (T : List Rr) {i : Nat} (hi : i < T.length) : (T.map jv)[i]? = some (.slice (uA T i) (uL T i).length (uC T i)) := by
  simp [hi, jv, uA, uL, uC]
theorem jrows_val (T : List Rr) : T.map jv = (List.range T.length).map (fun i => Value.slice (uA T i) (uL T i).length (uC T i)) := by
  apply List.ext_getElem?
  intro i
  by_cases hi : i < T.length
  · rw [jv_get _ hi]; simp only [List.getElem?_map, List.getElem?_range hi, Option.map_some]
  · rw [List.getElem?_eq_none (by rw [List.length_map]; omega), List.getElem?_eq_none (by rw [List.length_map, List.length_range]; omega)]
theorem apart_fam (w B0 : World) (T : List Rr) (a : Option Addr) (ct : Nat) (hf : FamJ B0 w T) (hw : Below B0.heap.size B0 w) (hA : Aj w a ct (T.map jv)) (hn : T.length ≤ 1000) (hl : ∀ t ∈ T, t.l.length ≤ 1000) :
    Calls Try.prog 10 #[.slice a T.length ct] w fun x w' => x = .returned (.bool true) ∧ Below B0.heap.size B0 w' := by
  rw [jrows_val] at hA
  refine (apart_some w _ ct _ _ _ _ hA hf.rowsG hf.distG (by omega) fun i hi => ?_).mono ?_
  · have := hl _ (u_mem hi)
    unfold uL
    omega
  · rintro x w' ⟨rfl, hbut⟩
    refine ⟨rfl, ((But.ofBelow (S := InRows T.length (uA T)) hw).trans hbut fun _ _ e => e).below fun k hk ⟨i, hi, y, hy, e⟩ => ?_⟩
    have := (hf.own _ (u_mem hi)).fresh hy
    omega

theorem rowIs_rw {W : World} {g N : Nat} {l : List Nat} (h : W.rowIs g 5 N (spF l)) (hN : N = l.length + 64) (hm : N ≤ maxLen) : Rw W (some ⟨g, 0, none⟩) N l := by
  obtain ⟨cur, hg, hs, hf⟩ := h
  refine Rw.mk (cur := cur) hg (by omega) hm hs ?_
  apply List.ext_getElem?
  intro i
  by_cases hi : i < l.length
  · rw [List.getElem?_take, if_pos hi, vb_get l i hi]
    have := hf i (by omega)
    unfold spF at this
    rw [if_pos hi] at this
    simpa using this
  · rw [List.getElem?_eq_none (by rw [List.length_take]; omega), List.getElem?_eq_none (by rw [vb_length]; omega)]
theorem b8_set {l : List Nat} (h : B8 l) (k : Nat) {x : Nat} (hx : x < 256) : B8 (l.set k x) := fun y hy => by
  rcases List.mem_or_eq_of_mem_set hy with h1 | h1
  · exact h y h1
  · omega
/-- what is held while the bytes are being written over -/
structure Gz (w W : World) (g6 g8 g10 g12 : Nat) (D6 D8 D10 D12 : Array Value) (n : Nat) (X : List Nat) (T : List Rr) : Prop where
  b6 : Bx W 28 g6 D6
  b8 : Bx W 28 g8 D8
  b10 : Bx W 28 g10 D10
  b12 : Bx W 28 g12 D12
  x : Rw W (some ⟨w.heap.size, 0, none⟩) (n + 64) X
  xl : X.length = n
  x8 : B8 X
  f : FamJ w W T
  b : Below w.heap.size w W
theorem bx_offB {w : World} {g g' cap : Nat} {l : List Nat} {D : Array Value} (h : Bx w 28 g' D) (hR : Rw w (some ⟨g, 0, none⟩) cap l) : ¬ g' = g := by
  rcases hR.cases with ⟨h0, _⟩ | ⟨g2, cur, h0, hg, _⟩
  · cases h0
  · cases h0
    exact h.ne hg (by decide)
theorem Gz.keep {w W W' : World} {g6 g8 g10 g12 : Nat} {D6 D8 D10 D12 : Array Value} {n : Nat} {X : List Nat} {T : List Rr} (h : Gz w W g6 g8 g10 g12 D6 D8 D10 D12 n X T) (hb : Below W.heap.size W W') : Gz w W' g6 g8 g10 g12 D6 D8 D10 D12 n X T :=
  ⟨h.b6.keep hb, h.b8.keep hb, h.b10.keep hb, h.b12.keep hb, h.x.keep hb, h.xl, h.x8, h.f.keep hb, bt h.b hb⟩
theorem Gz.set {w W : World} {g6 g8 g10 g12 : Nat} {D6 D8 D10 D12 : Array Value} {n : Nat} {X : List Nat} {T : List Rr} (h : Gz w W g6 g8 g10 g12 D6 D8 D10 D12 n X T) (k : Nat) {v : Nat} (hv : v < 256) :
    Gz w (W.setCell ⟨w.heap.size, k, none⟩ (.int .u8 ((v : Nat) : Int))) g6 g8 g10 g12 D6 D8 D10 D12 n (X.set k v) T := by
  have hB : But (fun x => x = w.heap.size) W (W.setCell ⟨w.heap.size, k, none⟩ (.int .u8 ((v : Nat) : Int))) := (But.refl (fun x => x = w.heap.size) W).setCell (p := ⟨w.heap.size, k, none⟩) (fun _ => rfl) _
  have hb : Below w.heap.size w (W.setCell ⟨w.heap.size, k, none⟩ (.int .u8 ((v : Nat) : Int))) := ((But.ofBelow (S := fun _ => False) h.b).trans hB fun x hx e => by omega).below fun _ _ h => h
  refine ⟨h.b6.but hB (bx_offB h.b6 h.x), h.b8.but hB (bx_offB h.b8 h.x), h.b10.but hB (bx_offB h.b10 h.x), h.b12.but hB (bx_offB h.b12 h.x), h.x.set k v, by rw [List.length_set]; exact h.xl, b8_set h.x8 k hv, h.f.but hB hb fun t ht x hx e => ?_, hb⟩
  have hj := (h.f.own t ht).r
  rcases hj.cases with ⟨h0, _⟩ | ⟨g', cur, h0, hg, _⟩
  · rw [h0] at hx; cases hx
  · rw [h0] at hx
    cases hx
    rw [h0] at hj
    exact hj.offB h.x rfl e.symm
end Go.Proofs.Ytifhkfghjifecaa
