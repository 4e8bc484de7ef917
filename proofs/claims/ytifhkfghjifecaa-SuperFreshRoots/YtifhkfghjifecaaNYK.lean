import Derived.Test.YtifhkfghjifecaaNYJ
import Derived.Test.YtifhkfghjifecaaPWX
namespace Go.Proofs.Ytifhkfghjifecaa
open Go.RowKit


def mkA (i k : Nat) : Nat := (i * 31 + k * 7 + 1) % 256
def fl (i n : Nat) : List Nat := (List.range n).map (mkA i)
theorem fl_length (i n : Nat) : (fl i n).length = n := by simp [fl]
theorem fl_succ (i n : Nat) : fl i (n + 1) = fl i n ++ [mkA i n] := by simp [fl, List.range_succ]
theorem fl_get (i n k : Nat) (h : k < n) : (fl i n).getD k 0 = mkA i k := by simp [fl, h]
theorem fl_lt (i n : Nat) : ∀ x ∈ fl i n, x < 256 := by
  intro x hx
  obtain ⟨k, _, rfl⟩ := List.mem_map.1 hx
  exact Nat.mod_lt _ (by decide)
theorem set_step (i k : Nat) (l : List Nat) (h : k < l.length) : (fl i k ++ l.drop k).set k (mkA i k) = fl i (k + 1) ++ l.drop (k + 1) := by
  rw [List.set_append_right _ _ (by rw [fl_length]; exact Nat.le_refl _), fl_length, Nat.sub_self, List.drop_eq_getElem_cons h, List.set_cons_zero, fl_succ, List.append_assoc]
  rfl
/-- rows of bytes -/
def RowsG (w : World) (n : Nat) (A : Nat → Option Addr) (C : Nat → Nat) (G : Nat → List Nat) : Prop := ∀ i, i < n → Rw w (A i) (C i) (G i)
def Dist (n : Nat) (A : Nat → Option Addr) : Prop := ∀ i j, i < n → j < n → i ≠ j → ∀ x y, A i = some x → A j = some y → x.block ≠ y.block
def InRows (n : Nat) (A : Nat → Option Addr) (k : Nat) : Prop := ∃ i, i < n ∧ ∃ x, A i = some x ∧ x.block = k
theorem RowsG.congr {w : World} {n : Nat} {A : Nat → Option Addr} {C : Nat → Nat} {G G' : Nat → List Nat} (h : RowsG w n A C G) (e : ∀ i, i < n → G i = G' i) : RowsG w n A C G' := fun i hi => by rw [← e i hi]; exact h i hi
theorem RowsG.set {w : World} {n : Nat} {A : Nat → Option Addr} {C : Nat → Nat} {G : Nat → List Nat} (h : RowsG w n A C G) (hd : Dist n A) {j g : Nat} (hj : j < n) (hA : A j = some ⟨g, 0, none⟩) (k v : Nat) :
    RowsG (w.setCell ⟨g, k, none⟩ (.int .u8 ((v : Nat) : Int))) n A C (fun i => if i = j then (G j).set k v else G i) := by
  intro i hi
  by_cases e : i = j
  · subst e
    dsimp only
    rw [if_pos rfl, hA]
    have := h i hi
    rw [hA] at this
    exact this.set k v
  · dsimp only
    rw [if_neg e]
    exact (h i hi).but (But.cell1 w g k _) fun x hx => hd i j hi hj e x _ hx hA

/-- behind the second loop's first rounds -/
def P2 (w wx : World) (n : Nat) (A : Nat → Option Addr) (C : Nat → Nat) (N : Nat → Nat) (j : Nat) (ag : Option Addr) (cg : Nat) (B : Nat → Option Addr) (D : Nat → Nat) : Prop :=
  Ar wx ag cg ((List.range j).map fun i => Value.slice (B i) (N i + 20) (D i)) ∧
  (∀ i, i < j → Rw wx (B i) (D i) (fl i (N i + 20)) ∧ Bs wx (A i) (fl i (N i)) ∧ New w (A i) (B i)) ∧
  (∀ i, j ≤ i → i < n → Rw wx (A i) (C i) (fl i (N i))) ∧
  (∀ i i', i < i' → i' < j → ∀ x y, B i = some x → B i' = some y → x.block ≠ y.block) ∧
  But (InRows n A) w wx ∧ New w none ag
theorem grown_but {w w2 : World} {a : Option Addr} (h : w.grownBy w2 (a.map Addr.block)) : But (fun q => ∃ x, a = some x ∧ x.block = q) w w2 :=
  (But.refl _ _).grown h fun _ hk _ => map_some hk
theorem P2.next {w wx w3 wr : World} {n : Nat} {A : Nat → Option Addr} {C N : Nat → Nat} {j : Nat} {ag ag' gj : Option Addr} {cg cg' cj : Nat} {B : Nat → Option Addr} {D : Nat → Nat} {o : Obj}
    (hd : Dist n A) (hA0 : ∀ i, i < n → ∀ x, A i = some x → x.block < w.heap.size) (hj : j < n) (h : P2 w wr n A C N j ag cg B D) (hin : But (fun q => ∃ x, A j = some x ∧ x.block = q) wr wx)
    (hRg : Rw wx gj cj (fl j (N j + 20))) (hBs : Bs wx (A j) (fl j (N j))) (hgj : gj = A j ∨ ∀ x, gj = some x → wr.heap.size ≤ x.block)
    (hAr : Ar w3 ag' cg' (((List.range j).map fun i => Value.slice (B i) (N i + 20) (D i)) ++ [.slice gj (N j + 20) cj])) (hN : New (wx.alloc o) ag ag') (hg : (wx.alloc o).grownBy w3 (ag.map Addr.block)) :
    P2 w w3 n A C N (j + 1) ag' cg' (fun i => if i = j then gj else B i) (fun i => if i = j then cj else D i) := by
  obtain ⟨h1, h2, h3, h4, h5, h6⟩ := h
  have hsz := h5.size
  have hsz2 := hin.size
  -- the array is none of the rows
  have hagx : Ar wx ag cg ((List.range j).map fun i => Value.slice (B i) (N i + 20) (D i)) := h1.but hin fun x hx ⟨y, hy, e⟩ => h1.ne (h3 j (Nat.le_refl _) hj) hx hy e.symm
  have step : But (fun q => ∃ x, ag = some x ∧ x.block = q) wx w3 := ((But.refl _ wx).alloc o).trans (grown_but hg) fun _ _ h => h
  have row : ∀ {a c l}, Rw wx a c l → Rw w3 a c l := fun hr => hr.but step fun x hx ⟨y, hy, e⟩ => hagx.ne hr hy hx e
  have bs : ∀ {a : Option Addr} {l : List Nat}, Bs wx a l → (∀ x, a = some x → x.block < w.heap.size) → Bs w3 a l := fun hb hlt => hb.but step fun x hx _ ⟨y, hy, e⟩ => by
    have h7 := hlt x hx
    rcases h6 y hy with ⟨z, hz, _⟩ | h8
    · cases hz
    · omega
  have hBold : ∀ i, i < j → ∀ x, B i = some x → ¬ ∃ y, A j = some y ∧ y.block = x.block := by
    rintro i hi x hx ⟨y, hy, e⟩
    rcases (h2 i hi).2.2 x hx with ⟨z, hz, e2⟩ | h7
    · exact hd i j (by omega) hj (by omega) z y hz hy (e2.trans e.symm)
    · have := hA0 j hj y hy; omega
  refine ⟨?_, ?_, ?_, ?_, ?_, ?_⟩
  · rw [List.range_succ, List.map_append]
    have e : ((List.range j).map fun i => Value.slice (if i = j then gj else B i) (N i + 20) (if i = j then cj else D i)) = (List.range j).map fun i => Value.slice (B i) (N i + 20) (D i) := by
      apply List.map_congr_left
      intro i hi
      have := List.mem_range.1 hi
      simp [show i ≠ j by omega]
    rw [e]
    simpa using hAr
  · intro i hi
    by_cases e : i = j
    · subst e
      dsimp only
      rw [if_pos rfl, if_pos rfl]
      refine ⟨row hRg, bs hBs (hA0 i hj), ?_⟩
      intro x hx
      rcases hgj with h7 | h7
      · exact .inl ⟨x, by rw [← h7]; exact hx, rfl⟩
      · exact .inr (by have := h7 x hx; omega)
    · dsimp only
      rw [if_neg e, if_neg e]
      obtain ⟨k1, k2, k3⟩ := h2 i (by omega)
      refine ⟨row (k1.but hin fun x hx => hBold i (by omega) x hx), bs (k2.but hin fun x hx _ ⟨y, hy, e2⟩ => hd i j (by omega) hj e x y hx hy e2.symm) (hA0 i (by omega)), k3⟩
  · intro i hi hin'
    exact row ((h3 i (by omega) hin').but hin fun x hx ⟨y, hy, e2⟩ => hd i j hin' hj (by omega) x y hx hy e2.symm)
  · intro i i' hii hi' x y hx hy
    dsimp only at hx hy
    rw [if_neg (by omega)] at hx
    by_cases e : i' = j
    · rw [if_pos e] at hy
      subst e
      rcases hgj with h7 | h7
      · rw [h7] at hy
        exact fun e2 => hBold i hii x hx ⟨y, hy, e2.symm⟩
      · have h8 := h7 y hy
        have h9 := (h2 i hii).1.lt hx
        omega
    · rw [if_neg e] at hy
      exact h4 i i' hii (by omega) x y hx hy
  · refine (h5.trans hin fun x _ ⟨y, hy, e⟩ => ⟨j, hj, y, hy, e⟩).trans step ?_
    rintro x hx ⟨y, hy, e⟩
    rcases h6 y hy with ⟨z, hz, _⟩ | h8
    · cases hz
    · omega
  · exact h6.trans hN (by rw [size_alloc]; omega)

/-- a byte is appended to a row: what of the row that it grew out of -/
theorem inner_step {wr wx w2 : World} {aj gj : Option Addr} {g : Nat} {cap' : Nat} {l m : List Nat} {x : Nat} {o : Obj} (hlt : ∀ y, aj = some y → y.block < wr.heap.size) (hb8 : ∀ z ∈ l ++ m ++ [x], z < 256) (hlen : l.length ≤ 9223372036854775807)
    (hin : But (fun q => ∃ y, aj = some y ∧ y.block = q) wr wx) (hBs : Bs wx aj l) (hgj : gj = aj ∨ ∀ y, gj = some y → wr.heap.size ≤ y.block)
    (hR : Rw w2 (some ⟨g, 0, none⟩) cap' (l ++ m ++ [x])) (hg : (wx.alloc o).grownBy w2 (gj.map Addr.block)) (hc : gj = some ⟨g, 0, none⟩ ∨ (wx.alloc o).heap.size ≤ g ∧ Below (wx.alloc o).heap.size (wx.alloc o) w2) :
    But (fun q => ∃ y, aj = some y ∧ y.block = q) wr w2 ∧ Bs w2 aj l ∧ (some ⟨g, 0, none⟩ = aj ∨ ∀ y, some (⟨g, 0, none⟩ : Addr) = some y → wr.heap.size ≤ y.block) := by
  have hsz := hin.size
  refine ⟨?_, ?_, ?_⟩
  · refine (hin.alloc o).trans (grown_but hg) ?_
    rintro q hq ⟨y, hy, e⟩
    rcases hgj with h | h
    · exact ⟨y, by rw [← h]; exact hy, e⟩
    · have := h y hy; omega
  · rcases hc with hc | ⟨_, hb⟩
    · rcases hgj with h | h
      · rw [← h, hc]
        rw [List.append_assoc] at hR hb8
        rcases hR.front with h7 | h7
        · exact h7.bs (fun z hz => hb8 z (List.mem_append_left _ hz)) hlen
        · cases h7
      · refine (hBs.keep ((Below.refl _ _).alloc (Nat.le_refl _) o)).but (grown_but hg) ?_
        rintro y hy _ ⟨z, hz, e⟩
        have h8 := h z hz
        have h9 := hlt y hy
        omega
    · exact (hBs.keep ((Below.refl _ _).alloc (Nat.le_refl _) o)).keep hb
  · rcases hc with hc | ⟨hc, _⟩
    · rw [← hc]
      rcases hgj with h | h
      · exact .inl h
      · exact .inr h
    · refine .inr fun y hy => ?_
      simp only [Option.some.injEq] at hy
      subst hy
      rw [size_alloc] at hc
      show _ ≤ g
      omega

end Go.Proofs.Ytifhkfghjifecaa
