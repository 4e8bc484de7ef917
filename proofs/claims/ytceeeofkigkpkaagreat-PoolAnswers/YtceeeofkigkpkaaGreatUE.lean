import Derived.Test.YtceeeofkigkpkaaGreatUD
import Derived.Deep.RegionHeld3
import Derived.Deep.QuietTactic
namespace Go.Proofs.YtceeeofkigkpkaaGreat
open Go.RowKit

/-! ### a set in memory; which runs meet -/
theorem drews (w : World) (n : Nat) : Below w.heap.size w (w.drewN n) := ⟨rfl, rfl, rfl, Nat.le_refl _, fun _ _ => rfl⟩
structure St (w : World) (b : Nat) (a : Option Addr) (cap : Nat) (L : List Rn) : Prop where
  blk : w.heap[b]? = some (.cells #[.slice a L.length cap] 90 (0, 0))
  row : Vw w a cap L
  can : Can L
  bnd : ∀ r ∈ L, Nm r.1 ∧ Nm r.2
  len : L.length ≤ 11000000000000
theorem al (w : World) (o : Obj) : Below w.heap.size w (w.alloc o) := (Below.refl _ _).alloc (Nat.le_refl _) o
theorem St.ne {w : World} {b : Nat} {a : Option Addr} {cap : Nat} {L : List Rn} (h : St w b a cap L) {x : Addr} (hx : a = some x) : x.block ≠ b := by
  rcases h.row.cases with ⟨rfl, _⟩ | ⟨g, Y, rfl, hg, _⟩
  · cases hx
  · cases hx
    intro e
    have h1 := h.blk
    rw [← show g = b from e, show w.heap[g]? = _ from hg] at h1
    simp at h1
theorem St.keep {w w' : World} {b : Nat} {a : Option Addr} {cap : Nat} {L : List Rn} (h : St w b a cap L) (hb : Below w.heap.size w w') : St w' b a cap L :=
  ⟨(hb.block b (Array.getElem?_eq_some_iff.1 h.blk).1).trans h.blk, h.row.keep hb, h.can, h.bnd, h.len⟩
theorem St.but {S : Nat → Prop} {w w' : World} {b : Nat} {a : Option Addr} {cap : Nat} {L : List Rn} (h : St w b a cap L) (hb : But S w w') (hn : ¬ S b) (ha : ∀ x, a = some x → ¬ S x.block) : St w' b a cap L :=
  ⟨hb.same h.blk hn, h.row.but hb ha, h.can, h.bnd, h.len⟩
theorem St.lt {w : World} {b : Nat} {a : Option Addr} {cap : Nat} {L : List Rn} (h : St w b a cap L) : b < w.heap.size := (Array.getElem?_eq_some_iff.1 h.blk).1
theorem St.cell {w : World} {b : Nat} {a : Option Addr} {cap : Nat} {L : List Rn} (h : St w b a cap L) : w.cell? ⟨b, 0, none⟩ = some (.slice a L.length cap) := by
  rw [cell_of_row _ _ _ _ _ _ h.blk]
  rfl
theorem getD_mem {L : List Rn} {i : Nat} (h : i < L.length) : L.getD i Rn.zero ∈ L := by simp [h]

theorem wrapK {n : Int} (h1 : (-9223372036854775808) ≤ n) (h2 : n ≤ 9223372036854775807) : IntKind.i64.wrap n = n := by
  simp [IntKind.wrap, IntKind.bits, IntKind.signed]
  first
    | omega
    | (split <;> omega)
theorem before_any (w : World) (x : Int) (hx : Nm x) : Calls Tryz.prog 70 #[.int .i64 x] w fun e w' => e = .returned (.int .i64 (max (-9223372036854775808) (x - 1))) ∧ w' = w := by
  obtain ⟨h1, h2⟩ := hx
  by_cases h0 : x = (-9223372036854775808)
  · have hw : IntKind.i64.wrap (x - 1) = 9223372036854775807 := by rw [h0]; decide
    have hv : wrap64 (x - 1) = 9223372036854775807 := by rw [h0]; decide +kernel
    have e1 : max (-9223372036854775808) (x - 1) = x := by omega
    have e2 : ¬ 9223372036854775807 < x := by omega
    rw [e1]
    clear h0 e1
    go_enter Tryz.func70, Tryz.ntmps70
    go_wp2
    go_ret
    exact ⟨rfl, rfl⟩
  · have hw : IntKind.i64.wrap (x - 1) = x - 1 := wrapK (by omega) (by omega)
    have e1 : max (-9223372036854775808) (x - 1) = x - 1 := by omega
    have e2 : ¬ x ≤ x - 1 := by omega
    rw [e1]
    go_enter Tryz.func70, Tryz.ntmps70
    go_wp2
    go_ret
    exact ⟨rfl, rfl⟩
theorem behind_any (w : World) (x : Int) (hx : Nm x) : Calls Tryz.prog 71 #[.int .i64 x] w fun e w' => e = .returned (.int .i64 (min 9223372036854775807 (x + 1))) ∧ w' = w := by
  obtain ⟨h1, h2⟩ := hx
  by_cases h0 : x = 9223372036854775807
  · have hw : IntKind.i64.wrap (x + 1) = (-9223372036854775808) := by rw [h0]; decide
    have hv : wrap64 (x + 1) = (-9223372036854775808) := by rw [h0]; decide +kernel
    have e1 : min 9223372036854775807 (x + 1) = x := by omega
    have e2 : ¬ x < (-9223372036854775808) := by omega
    rw [e1]
    clear h0 e1
    go_enter Tryz.func71, Tryz.ntmps71
    go_wp2
    go_ret
    exact ⟨rfl, rfl⟩
  · have hw : IntKind.i64.wrap (x + 1) = x + 1 := wrapK (by omega) (by omega)
    have e1 : min 9223372036854775807 (x + 1) = x + 1 := by omega
    have e2 : ¬ x + 1 ≤ x := by omega
    rw [e1]
    go_enter Tryz.func71, Tryz.ntmps71
    go_wp2
    go_ret
    exact ⟨rfl, rfl⟩
set_option maxHeartbeats 1000000 in
theorem Search_any (w : World) (n : Nat) (g : Nat) (cb : Array Value) (p : Nat → Bool) (k : Nat) (hk : k ≤ n) (h1 : ∀ i, i < k → p i = false) (h2 : ∀ i, k ≤ i → i < n → p i = true) (hn : n ≤ 11000000000000)
    (eg : ∀ args w, (callFunc g args).run Tryz.prog w = .ok (.enter g args) w)
    (hf : ∀ i W, i < n → Below w.heap.size w W → Calls Tryz.prog g (#[.int .i64 ((i : Nat) : Int)] ++ cb) W fun e w' => e = .returned (.bool (p i)) ∧ Below W.heap.size W w') :
    Calls Tryz.prog 84 #[.int .i64 ((n : Nat) : Int), .func (.func g) #[] cb] w fun e w' => e = .returned (.int .i64 ((k : Nat) : Int)) ∧ Below w.heap.size w w' := by
  have C := hide hf
  clear hf
  go_enter Tryz.func84, Tryz.ntmps84
  go_wp2
  go_loopw [5, 6] (fun i j wx => ∃ x y : Nat, i = .int .i64 x ∧ j = .int .i64 y ∧ x ≤ k ∧ k ≤ y ∧ y ≤ n ∧ Below w.heap.size w wx) (fun i j _ => (intOf j).toNat - (intOf i).toNat)
  case atStart => exact ⟨0, n, rfl, rfl, Nat.zero_le _, hk, Nat.le_refl _, Below.refl _ _⟩
  case round =>
    obtain ⟨x, y, rfl, rfl, hx, hy, hyn, hb⟩ := hrel
    by_cases hlt : x < y
    · go_wp2
      obtain ⟨h, hh⟩ : ∃ h : Nat, h = (x + y) / 2 := ⟨_, rfl⟩
      have eh : ((x : Int) + (y : Int)) / 2 = (h : Int) := by omega
      rw [eh]
      have b1 : x ≤ h := by omega
      have b2 : h < y := by omega
      clear eh hh
      refine (C.out h wr (by omega) hb).mono ?_
      rintro e w1 ⟨rfl, hb1⟩
      by_cases hp : h < k
      · rw [h1 h hp]
        go_wp2
        go_roundw
        case rel => exact ⟨h + 1, y, by simp, rfl, by omega, hy, hyn, bt hb hb1⟩
        case measure => simp [intOf]; omega
      · rw [h2 h (by omega) (by omega)]
        go_wp2
        go_roundw
        case rel => exact ⟨x, h, rfl, rfl, hx, by omega, by omega, bt hb hb1⟩
        case measure => simp [intOf]; omega
    · obtain rfl : x = k := by omega
      go_wp2
      go_ret
      exact ⟨rfl, hb⟩

/-! ### the two looks of meeting -/
set_option maxHeartbeats 1000000 in
theorem meeting1_any (w : World) (b B1 B2 : Nat) (a : Option Addr) (cap : Nat) (L : List Rn) (lo : Int) (i : Nat) (hS : St w b a cap L) (c1 : w.cell? ⟨B1, 0, none⟩ = some (.pointer (some ⟨b, 0, none⟩))) (c2 : w.cell? ⟨B2, 0, none⟩ = some (.int .i64 lo)) (hi : i < L.length) :
    Calls Tryz.prog 85 #[.int .i64 ((i : Nat) : Int), .pointer (some ⟨B1, 0, none⟩), .pointer (some ⟨B2, 0, none⟩)] w fun e w' => e = .returned (.bool (decide (lo ≤ (L.getD i Rn.zero).2))) ∧ Below w.heap.size w w' := by
  obtain ⟨bb, o, rfl, d1, d2⟩ := hS.row.vs.at hi
  have hc := hS.cell
  have hl := hS.len
  generalize L.getD i Rn.zero = r at *
  go_enter Tryz.func85, Tryz.ntmps85
  go_wp2
  go_quiet (fail)
  go_wp2
  go_ret
  exact ⟨rfl, drews _ _⟩
set_option maxHeartbeats 1000000 in
theorem meeting2_any (w : World) (b B1 B2 : Nat) (a : Option Addr) (cap : Nat) (L : List Rn) (hi' : Int) (i : Nat) (hS : St w b a cap L) (c1 : w.cell? ⟨B1, 0, none⟩ = some (.pointer (some ⟨b, 0, none⟩))) (c2 : w.cell? ⟨B2, 0, none⟩ = some (.int .i64 hi')) (hi : i < L.length) :
    Calls Tryz.prog 86 #[.int .i64 ((i : Nat) : Int), .pointer (some ⟨B1, 0, none⟩), .pointer (some ⟨B2, 0, none⟩)] w fun e w' => e = .returned (.bool (decide (hi' < (L.getD i Rn.zero).1))) ∧ Below w.heap.size w w' := by
  obtain ⟨bb, o, rfl, d1, d2⟩ := hS.row.vs.at hi
  have hc := hS.cell
  have hl := hS.len
  generalize L.getD i Rn.zero = r at *
  go_enter Tryz.func86, Tryz.ntmps86
  go_wp2
  go_quiet (fail)
  go_wp2
  go_ret
  exact ⟨rfl, drews _ _⟩

theorem getD_split {A M B : List Rn} (i : Nat) : (i < A.length → (A ++ M ++ B).getD i Rn.zero ∈ A) ∧ (A.length ≤ i → i < A.length + M.length → (A ++ M ++ B).getD i Rn.zero ∈ M) ∧ (A.length + M.length ≤ i → i < A.length + M.length + B.length → (A ++ M ++ B).getD i Rn.zero ∈ B) := by
  refine ⟨fun h => ?_, fun h1 h2 => ?_, fun h1 h2 => ?_⟩
  · rw [List.append_assoc, List.getD_eq_getElem?_getD, List.getElem?_append_left h]
    simp [h]
  · rw [List.getD_eq_getElem?_getD, List.getElem?_append_left (by simp; omega), List.getElem?_append_right h1]
    have : i - A.length < M.length := by omega
    simp [this]
  · rw [List.getD_eq_getElem?_getD, List.getElem?_append_right (by simp; omega)]
    have : i - (A.length + M.length) < B.length := by omega
    simp [this]
/-- three boxes -/
def w3 (w : World) (b : Nat) (lo hi : Int) : World := ((w.alloc (.cells #[.pointer (some ⟨b, 0, none⟩)] 65)).alloc (.cells #[.int .i64 lo] 3)).alloc (.cells #[.int .i64 hi] 3)
theorem w3_below (w : World) (b : Nat) (lo hi : Int) : Below w.heap.size w (w3 w b lo hi) := bt (bt (al _ _) (al _ _)) (al _ _)
theorem w3_size (w : World) (b : Nat) (lo hi : Int) : (w3 w b lo hi).heap.size = w.heap.size + 1 + 1 + 1 := by unfold w3; rw [size_alloc, size_alloc, size_alloc]
theorem cell_alloc_new (w : World) (v : Value) (t : TypeId) : (w.alloc (.cells #[v] t)).cell? ⟨w.heap.size, 0, none⟩ = some v := by
  rw [cell_of_row _ _ _ _ _ _ (World.alloc_heap_new w _)]
  rfl
theorem w3_cells (w : World) (b : Nat) (lo hi : Int) : (w3 w b lo hi).cell? ⟨w.heap.size, 0, none⟩ = some (.pointer (some ⟨b, 0, none⟩)) ∧ (w3 w b lo hi).cell? ⟨w.heap.size + 1, 0, none⟩ = some (.int .i64 lo) ∧ (w3 w b lo hi).cell? ⟨w.heap.size + 1 + 1, 0, none⟩ = some (.int .i64 hi) := by
  have c1 := cell_alloc_new w (.pointer (some ⟨b, 0, none⟩)) 65
  have c2 := cell_alloc_new (w.alloc (.cells #[.pointer (some ⟨b, 0, none⟩)] 65)) (.int .i64 lo) 3
  have c3 := cell_alloc_new ((w.alloc (.cells #[.pointer (some ⟨b, 0, none⟩)] 65)).alloc (.cells #[.int .i64 lo] 3)) (.int .i64 hi) 3
  rw [size_alloc] at c2
  rw [size_alloc, size_alloc] at c3
  refine ⟨?_, ?_, c3⟩
  · exact ((bt (al _ _) (al _ _)).cell (p := ⟨w.heap.size, 0, none⟩) (block_lt_of_cell c1)).trans c1
  · exact ((al _ _).cell (p := ⟨w.heap.size + 1, 0, none⟩) (block_lt_of_cell c2)).trans c2
set_option maxHeartbeats 1000000 in
theorem meeting_any (w : World) (b : Nat) (a : Option Addr) (cap : Nat) (L : List Rn) (lo hi : Int) (A M B : List Rn) (hS : St w b a cap L) (sp : Spl L lo hi A M B) (hle : lo ≤ hi) :
    Calls Tryz.prog 69 #[.pointer (some ⟨b, 0, none⟩), .int .i64 lo, .int .i64 hi] w fun e w' => e = .returned (.tuple #[.int .i64 ((A.length : Nat) : Int), .int .i64 ((A.length + M.length : Nat) : Int)]) ∧ Below w.heap.size w w' := by
  have hLl : L.length = A.length + M.length + B.length := by rw [sp.eq]; simp [Nat.add_assoc]
  have hc := hS.cell
  have hn := hS.len
  have hb := hS.lt
  have S1 := hide fun (W : World) (B1 B2 : Nat) (hW : St W b a cap L) (c1 : W.cell? ⟨B1, 0, none⟩ = some (.pointer (some ⟨b, 0, none⟩))) (c2 : W.cell? ⟨B2, 0, none⟩ = some (.int .i64 lo)) =>
    Search_any W L.length 85 #[.pointer (some ⟨B1, 0, none⟩), .pointer (some ⟨B2, 0, none⟩)] (fun i => decide (lo ≤ (L.getD i Rn.zero).2)) A.length (by omega)
      (fun i hi => decide_eq_false (by have h1 := (getD_split (A := A) (M := M) (B := B) i).1 hi; rw [← sp.eq] at h1; have := sp.a _ h1; omega))
      (fun i hi1 hi2 => decide_eq_true (by
        by_cases h3 : i < A.length + M.length
        · have h1 := (getD_split (A := A) (M := M) (B := B) i).2.1 hi1 h3; rw [← sp.eq] at h1; exact (sp.m _ h1).1
        · have h1 := (getD_split (A := A) (M := M) (B := B) i).2.2 (by omega) (by omega); rw [← sp.eq] at h1
          have h4 := sp.b _ h1
          have h5 := hS.can.1 _ (getD_mem hi2)
          omega)) hn (enters_of Tryz.func85 (by kernel_rfl) rfl)
      (fun i W' hi hW' => meeting1_any W' b B1 B2 a cap L lo i (hW.keep hW') ((hW'.cell (p := ⟨B1, 0, none⟩) (block_lt_of_cell c1)).trans c1) ((hW'.cell (p := ⟨B2, 0, none⟩) (block_lt_of_cell c2)).trans c2) hi)
  have S2 := hide fun (W : World) (B1 B2 : Nat) (hW : St W b a cap L) (c1 : W.cell? ⟨B1, 0, none⟩ = some (.pointer (some ⟨b, 0, none⟩))) (c2 : W.cell? ⟨B2, 0, none⟩ = some (.int .i64 hi)) =>
    Search_any W L.length 86 #[.pointer (some ⟨B1, 0, none⟩), .pointer (some ⟨B2, 0, none⟩)] (fun i => decide (hi < (L.getD i Rn.zero).1)) (A.length + M.length) (by omega)
      (fun i hi1 => decide_eq_false (by
        by_cases h3 : i < A.length
        · have h1 := (getD_split (A := A) (M := M) (B := B) i).1 h3; rw [← sp.eq] at h1
          have h4 := sp.a _ h1
          have h5 := hS.can.1 _ (getD_mem (show i < L.length by omega))
          omega
        · have h1 := (getD_split (A := A) (M := M) (B := B) i).2.1 (by omega) hi1; rw [← sp.eq] at h1; have := (sp.m _ h1).2; omega))
      (fun i hi1 hi2 => decide_eq_true (by
        have h1 := (getD_split (A := A) (M := M) (B := B) i).2.2 (by omega) (by omega); rw [← sp.eq] at h1; exact sp.b _ h1)) hn (enters_of Tryz.func86 (by kernel_rfl) rfl)
      (fun i W' hi' hW' => meeting2_any W' b B1 B2 a cap L hi i (hW.keep hW') ((hW'.cell (p := ⟨B1, 0, none⟩) (block_lt_of_cell c1)).trans c1) ((hW'.cell (p := ⟨B2, 0, none⟩) (block_lt_of_cell c2)).trans c2) hi')
  have hS' := hide hS
  clear hS
  obtain ⟨n1, hn1⟩ : ∃ n1 : Nat, n1 = A.length + M.length := ⟨_, rfl⟩
  rw [← hn1] at S2 ⊢
  generalize A.length = n0 at *
  clear hn1 sp hLl
  have kb := w3_below w b lo hi
  have ks := w3_size w b lo hi
  obtain ⟨k1, k2, k3⟩ := w3_cells w b lo hi
  have k4 := (kb.cell (p := ⟨b, 0, none⟩) hb).trans hc
  have hS3 := hide (hS'.out.keep kb)
  unfold w3 at kb ks k1 k2 k3 k4 hS3
  go_enter Tryz.func69, Tryz.ntmps69
  go_wp2_with fail
  refine (S1.out _ _ _ hS3.out k1 k2).mono ?_
  rintro e W1 ⟨rfl, hb1⟩
  have m1 := (hb1.cell (p := ⟨w.heap.size, 0, none⟩) (block_lt_of_cell k1)).trans k1
  have m3 := (hb1.cell (p := ⟨w.heap.size + 1 + 1, 0, none⟩) (block_lt_of_cell k3)).trans k3
  have m4 := (hb1.cell (p := ⟨b, 0, none⟩) (block_lt_of_cell k4)).trans k4
  go_wp2_with fail
  refine (S2.out _ _ _ (hS3.out.keep hb1) m1 m3).mono ?_
  rintro e W2 ⟨rfl, hb2⟩
  go_wp2
  go_ret2
  exact ⟨rfl, bt (bt kb hb1) hb2⟩
theorem can_len (b : Int) : ∀ (L : List Rn) (a : Int), Can L → (∀ r ∈ L, a ≤ r.1 ∧ r.2 ≤ b) → a ≤ b + 2 → 2 * (L.length : Int) ≤ b - a + 2
  | [], a, _, _, h => by
    rw [List.length_nil]
    omega
  | r :: L, a, hc, hb, h => by
    have h1 := hb r (by simp)
    have h2 := hc.1 r (by simp)
    have h3 := (List.pairwise_cons.1 hc.2).1
    have ih := can_len b L (r.2 + 2) hc.tail (fun x hx => ⟨by have := h3 x hx; omega, (hb x (by simp [hx])).2⟩) (by omega)
    rw [List.length_cons]
    omega
end Go.Proofs.YtceeeofkigkpkaaGreat
