import Derived.Test.YtlneomgjjkfnoabGreatPD
namespace Go.Proofs.YtlneomgjjkfnoabGreat
open Go.RowKit

theorem Jc_replicate (n : Nat) : ∀ i, i < n * 4 → (Jc (List.replicate n Iv.zero))[i]? = Iv.zero.cs.toList[i % 4]? := by
  intro i hi
  have h := Jc_get (List.replicate n Iv.zero) (i / 4) (i % 4) (by rw [List.length_replicate]; omega) (by omega)
  rw [show i / 4 * 4 + i % 4 = i by omega] at h
  rw [h]
  congr 1
  have : (List.replicate n Iv.zero).getD (i / 4) Iv.zero = Iv.zero := by
    rw [List.getD_eq_getElem?_getD, List.getElem?_replicate]
    split <;> rfl
  rw [this]
theorem made_item (n : Nat) : (madeCells Iv.zero.cs (n * 4)).toList = Jc (List.replicate n Iv.zero) := by
  apply List.ext_getElem?
  intro i
  by_cases hi : i < n * 4
  · rw [Jc_replicate n i hi, Array.getElem?_toList]
    unfold madeCells
    simp [hi, Iv.zero, Iv.cs]
    have : i % 4 = 0 ∨ i % 4 = 1 ∨ i % 4 = 2 ∨ i % 4 = 3 := by omega
    rcases this with h | h | h | h <;> rw [h] <;> rfl
  · rw [List.getElem?_eq_none (by simp [size_madeCells]; omega), List.getElem?_eq_none (by rw [Jc_length, List.length_replicate]; omega)]
theorem Jw.start {W : World} {n : Nat} (hn : n ≤ 1048579) : Jw (W.alloc (.cells (madeCells Iv.zero.cs (n * 4)) 55)) (some ⟨W.heap.size, 0, none⟩) n (List.replicate n Iv.zero) := by
  refine Jw.mk (heap_alloc_new _ _) (by simp) (by unfold maxLen; omega) (by simp [size_madeCells]) ?_
  rw [List.length_replicate, List.take_of_length_le (by simp [size_madeCells]), made_item]
theorem make_items (n : Nat) (hn : n ≤ 1048579) (w : World) : (Instr.makeSlice 24 (.int .i64 (n : Int)) (.int .i64 (n : Int))).run Tryz.prog w = .ok (.slice (some ⟨w.heap.size, 0, none⟩) n n) (w.alloc (.cells (madeCells Iv.zero.cs (n * 4)) 55)) := by
  obtain ⟨i0, hi, hz0, hz1, hz2⟩ := info_parts infoItem
  have hr := run_make (P := Tryz.prog) w 24 55 i0 (.agg Iv.zero.cs) Tryz.underlying24 hi hz0 .i64 .i64 n n (by omega) (by omega) (by rw [hz2]; omega) (by omega)
  simp only [Int.toNat_natCast, hz1] at hr
  exact hr
theorem make_items8 (n : Nat) (hn : n ≤ 1048579) (w : World) : (Instr.makeSlice 24 (.int .u8 (n : Int)) (.int .u8 (n : Int))).run Tryz.prog w = .ok (.slice (some ⟨w.heap.size, 0, none⟩) n n) (w.alloc (.cells (madeCells Iv.zero.cs (n * 4)) 55)) := by
  obtain ⟨i0, hi, hz0, hz1, hz2⟩ := info_parts infoItem
  have hr := run_make (P := Tryz.prog) w 24 55 i0 (.agg Iv.zero.cs) Tryz.underlying24 hi hz0 .u8 .u8 n n (by omega) (by omega) (by rw [hz2]; omega) (by omega)
  simp only [Int.toNat_natCast, hz1] at hr
  exact hr
theorem set_zero {D : List Iv} {n j : Nat} (hD : D.length = j) (hj : j < n) (v : Iv) : (D ++ List.replicate (n - j) Iv.zero).set j v = (D ++ [v]) ++ List.replicate (n - (j + 1)) Iv.zero := by
  subst hD
  rw [List.set_append_right _ _ (Nat.le_refl _), Nat.sub_self, show n - D.length = (n - (D.length + 1)) + 1 by omega, List.replicate_succ, List.set_cons_zero, List.append_assoc]
  rfl
theorem Jw.four {w : World} {g cap : Nat} {L : List Iv} (h : Jw w (some ⟨g, 0, none⟩) cap L) {k : Nat} (hk : k < L.length) : w.there g (k * 4) 4 := by
  have := h.there
  intro i hi
  have h2 := this (k * 4 + i) (by have : (k + 1) * 4 ≤ L.length * 4 := Nat.mul_le_mul_right _ hk; omega)
  simpa using h2
theorem set_zeroT {D : List It} {n j : Nat} (hD : D.length = j) (hj : j < n) (v : It) : (D ++ List.replicate (n - j) It.zero).set j v = (D ++ [v]) ++ List.replicate (n - (j + 1)) It.zero := by
  subst hD
  rw [List.set_append_right _ _ (Nat.le_refl _), Nat.sub_self, show n - D.length = (n - (D.length + 1)) + 1 by omega, List.replicate_succ, List.set_cons_zero, List.append_assoc]
  rfl
theorem step_store_mid {w : World} {ops : Array Oper} {o : Oper} {a : Act} {K : Act → World → Prop} {Q : Exit → Act → World → Prop} {E : Prop} (hgd : o.guard = none) (ty : TypeId) (x y : Operand) (ho : o.op = .store ty x y) (b off : Nat) (cells : Array Value) (hx : a.eval x = .pointer (some ⟨b, off, none⟩)) (hy : a.eval y = .agg cells)
    (ht : w.there b off cells.size) (hi : (Tryz.prog.info? ty).map (·.size) = some cells.size) (h1 : cells.all (·.oneCell') = true) (h : K (a.put o.dst undef) (w.setCells b off cells.toList)) :
    if Region.wanted o (yielded ops a.tmps) = true then Oper.wp Tryz.prog o a w K Q else E := by
  have hw : Region.wanted o (yielded ops a.tmps) = true := by simp [Region.wanted, hgd]
  rw [if_pos hw]
  exact wp_store_mid ty x y ho b off cells hx hy ht hi h1 h
theorem but_setCells (g : Nat) : ∀ (vs : List Value) (w : World) (o : Nat), But (fun k => k = g) w (w.setCells g o vs)
  | [], _, _ => But.refl _ _
  | v :: vs, w, o => ((But.refl (fun k => k = g) w).setCell (p := ⟨g, o, none⟩) (fun _ => rfl) v).trans (but_setCells g vs _ (o + 1)) fun _ _ h => h
end Go.Proofs.YtlneomgjjkfnoabGreat
