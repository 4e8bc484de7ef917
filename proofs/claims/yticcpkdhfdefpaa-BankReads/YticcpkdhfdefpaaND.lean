import Derived.Test.YticcpkdhfdefpaaNC
import Derived.Test.YticcpkdhfdefpaaNA
import Derived.Test.YticcpkdhfdefpaaNI
namespace Go.Proofs.Yticcpkdhfdefpaa
open Go.RowKit

/-! ### small calls -/
set_option maxHeartbeats 400000 in
theorem nGen_any (w : World) (n : Int) : Calls Try.prog 26 #[.int .i64 n] w fun e w' => e = .returned (.bool (isGen n)) ∧ w' = w := by
  unfold isGen
  by_cases h1 : 0 ≤ n
  · have h1' : decide (0 ≤ n) = true := by simpa using h1
    go_enter Try.func26, Try.ntmps26
    go_wp2
    go_ret
    exact ⟨by simp [h1], rfl⟩
  · have h1' : decide (0 ≤ n) = false := by simpa using h1
    go_enter Try.func26, Try.ntmps26
    go_wp2
    go_ret
    exact ⟨by simp, rfl⟩
set_option maxHeartbeats 400000 in
theorem nPg_any (w : World) (n : Int) : Calls Try.prog 32 #[.int .i64 n] w fun e w' => e = .returned (.bool (isPg n)) ∧ w' = w := by
  unfold isPg
  by_cases h1 : 0 ≤ n
  · have h1' : decide (0 ≤ n) = true := by simpa using h1
    go_enter Try.func32, Try.ntmps32
    go_wp2
    go_ret
    exact ⟨by simp [h1], rfl⟩
  · have h1' : decide (0 ≤ n) = false := by simpa using h1
    go_enter Try.func32, Try.ntmps32
    go_wp2
    go_ret
    exact ⟨by simp, rfl⟩
set_option maxHeartbeats 400000 in
theorem nBad_any (w : World) (n : Int) : Calls Try.prog 28 #[.int .i64 n] w fun e w' => e = .returned (.bool (badC n)) ∧ w' = w := by
  unfold badC
  by_cases h1 : n < 0
  · have h1' : decide (n < 0) = true := by simpa using h1
    go_enter Try.func28, Try.ntmps28
    go_wp2
    go_ret
    exact ⟨by simp [h1], rfl⟩
  · have h1' : decide (n < 0) = false := by simpa using h1
    go_enter Try.func28, Try.ntmps28
    go_wp2
    go_ret
    exact ⟨by simp, rfl⟩
theorem nbl_int {p : Int} (h : 1 ≤ p) : (p - 1) / 240 + 1 = ((nbl p.toNat : Nat) : Int) := by unfold nbl; omega
theorem nbl_none {p : Int} (h : p < 1) : nbl p.toNat = 0 := by unfold nbl; omega
set_option maxHeartbeats 400000 in
theorem Blocks_any (w : World) (p : Int) (hp : p ≤ 9223372036854775807) : Calls Try.prog 8 #[.int .i64 p] w fun e w' => e = .returned (.int .i64 ((nbl p.toNat : Nat) : Int)) ∧ w' = w := by
  by_cases h1 : p < 1
  · rw [nbl_none h1]
    go_enter Try.func8, Try.ntmps8
    go_wp2
    go_ret
    exact ⟨rfl, rfl⟩
  · have h1' : 1 ≤ p := by omega
    have HN := hide (nbl_int h1')
    generalize ((nbl p.toNat : Nat) : Int) = N at *
    have ht : (p - 1).tdiv 240 = (p - 1) / 240 := Int.tdiv_eq_ediv_of_nonneg (by omega)
    go_enter Try.func8, Try.ntmps8
    go_wp2
    go_ret
    exact ⟨by rw [← HN.out]; rfl, rfl⟩
theorem cin_int {p i : Nat} (h : i < nbl p) : (min ((p : Int) - (i : Int) * 240) 240) = ((cin p i : Nat) : Int) := by unfold nbl at h; unfold cin; omega
set_option maxHeartbeats 400000 in
theorem countsIn_any (w : World) (p i : Nat) (hp : p ≤ 65536) (hi : i < nbl p) : Calls Try.prog 38 #[.int .i64 (p : Int), .int .i64 (i : Int)] w fun e w' => e = .returned (.int .i64 ((cin p i : Nat) : Int)) ∧ w' = w := by
  have HC := hide (cin_int hi)
  have hi' : i ≤ 274 := by unfold nbl at hi; omega
  clear hi
  generalize ((cin p i : Nat) : Int) = C at *
  go_enter Try.func38, Try.ntmps38
  go_wp2
  · go_ret
    exact ⟨by rw [← HC.out, Int.min_eq_right (by omega)]; rfl, rfl⟩
  · go_ret
    exact ⟨by rw [← HC.out, Int.min_eq_left (by omega)]; rfl, rfl⟩
/-! ### a head -/
def hdc (gen i p : Nat) : Array Value := #[.int .u64 (gen : Int), .int .u32 (i : Int), .int .u32 (p : Int)]
theorem sizeHead : (Try.prog.info? 56).map (·.size) = some 3 := by kernel_rfl
set_option maxHeartbeats 400000 in
theorem headOf_any (w : World) (gen p i : Nat) (hg : gen < 18446744073709551616) (hp : p < 4294967296) (hi : i < 4294967296) : Calls Try.prog 37 #[.int .i64 (gen : Int), .int .i64 (p : Int), .int .i64 (i : Int)] w fun e w' => e = .returned (.agg (hdc gen i p)) ∧ Below w.heap.size w w' := by
  have c1 : IntKind.u64.wrap (gen : Int) = (gen : Int) := by rw [IntKind.wrap_u64]; omega
  have c2 : IntKind.u32.wrap (i : Int) = (i : Int) := by rw [IntKind.wrap_u32]; omega
  have c3 : IntKind.u32.wrap (p : Int) = (p : Int) := by rw [IntKind.wrap_u32]; omega
  unfold hdc
  go_enter Try.func37, Try.ntmps37
  go_wp2
  refine bodyPost_ret (v := .agg #[.int .u64 (gen : Int), .int .u32 (i : Int), .int .u32 (p : Int)]) (results_cell_row Try.results37 _ _ w.heap.size 56 _ (0, 0) _ rfl (heap_alloc_new _ _) Try.underlying56 rfl sizeHead) rfl ⟨rfl, al _ _⟩
set_option maxRecDepth 8000 in
set_option maxHeartbeats 1600000 in
theorem Hwrite_any (v w : World) (G : Nat → Prop) (b : Nat) (l : List Nat) (gen i p : Nat) (h : Wk v G w b l) (hG : Gl G w) (hg : gen < 18446744073709551616) (hi : i < 4294967296) (hp : p < 4294967296) (hl : l.length + 16 ≤ 512) :
    Calls Try.prog 52 #[.agg (hdc gen i p), .pointer (some ⟨b, 0, none⟩)] w fun y w' => y = .returned (.tuple #[]) ∧ Dk v G w w' b (l ++ (numB gen 8 ++ (numB i 4 ++ numB p 4))) := by
  have HB := hide (Bx.new w 56 (hdc gen i p))
  have K0 := hide (h.more (al w (.cells (hdc gen i p) 56)) (fun k => G k ∨ k = w.heap.size) (fun k hk => hk.imp id (fun e => Nat.le_of_eq e.symm)))
  have HG0 : Hid (Gl (fun k => G k ∨ k = w.heap.size) (w.alloc (.cells (hdc gen i p) 56))) := by
    intro k hk
    rw [size_alloc]
    rcases hk with hk | rfl
    · have := hG k hk; omega
    · omega
  have HAL := hide (al w (.cells (hdc gen i p) 56))
  have hsz := size_alloc w (.cells (hdc gen i p) 56)
  clear h hG
  unfold hdc at *
  go_enter Try.func52, Try.ntmps52
  go_wp2_with fail
  generalize w.alloc (.cells #[.int .u64 (gen : Int), .int .u32 (i : Int), .int .u32 (p : Int)] 56) = W at *
  refine (wPut64 K0.out HG0.out gen hg (by omega)).mono ?_
  rintro y w1 ⟨rfl, hd⟩
  have D := hide hd
  have c0 := D.out.box HB.out (.inr rfl)
  have c1 := Bx.cell (t := 56) c0 1 (v := .int .u32 (i : Int)) rfl
  have c2 := Bx.cell (t := 56) c0 2 (v := .int .u32 (p : Int)) rfl
  clear hd c0
  go_wp2_with fail
  refine (wPut32 D.out.k (D.out.gl HG0.out) i hi (by rw [List.length_append, numB_length]; omega)).mono ?_
  rintro y w2 ⟨rfl, hd⟩
  have D := hide (D.out.trans hd)
  have c0 := D.out.box HB.out (.inr rfl)
  have c2 := Bx.cell (t := 56) c0 2 (v := .int .u32 (p : Int)) rfl
  clear hd c0
  go_wp2_with fail
  refine (wPut32 D.out.k (D.out.gl HG0.out) p hp (by rw [List.length_append, List.length_append, numB_length, numB_length]; omega)).mono ?_
  rintro y w3 ⟨rfl, hd⟩
  have D := hide (D.out.trans hd)
  clear hd
  go_wp2
  go_end0
  refine ⟨rfl, ?_⟩
  have := D.out.back HAL.out (G := G) (fun k hk => .inl hk)
  simpa only [List.append_assoc] using this
/-- what a reader says of a head -/
def rdH (s : RS) : (Nat × Nat × Nat) × RS := (((s.get 8).1, ((s.get 8).2.get 4).1, (((s.get 8).2.get 4).2.get 4).1), (((s.get 8).2.get 4).2.get 4).2)
theorem Rk.size {v w : World} {b : Nat} {s : RS} (h : Rk v w b s) : v.heap.size ≤ w.heap.size := h.u.size
/-- a reader, and two variables: what is handed out, and what is read into -/
structure Hr (v w : World) (b : Nat) (t : TypeId) (z : Array Value) (W : World) (s : RS) (c : Array Value) : Prop where
  k : Rk v W b s
  o : Bx W t w.heap.size z
  i : Bx W t (w.heap.size + 1) c
  u : But (fun k => k = b) w W
theorem Hr.lt {v w : World} {b : Nat} {t : TypeId} {z : Array Value} {W : World} {s : RS} {c : Array Value} (h : Hr v w b t z W s c) (hv : v.heap.size ≤ w.heap.size) : b < w.heap.size := Nat.lt_of_lt_of_le h.k.blt hv
theorem Hr.set {v w : World} {b : Nat} {t : TypeId} {z : Array Value} {W : World} {s : RS} {c : Array Value} (h : Hr v w b t z W s c) (hv : v.heap.size ≤ w.heap.size) (i : Nat) (u : Value) : Hr v w b t z (W.setCell ⟨w.heap.size + 1, i, none⟩ u) s (c.setIfInBounds i u) :=
  ⟨h.k.but (S := fun k => k = w.heap.size + 1) ((But.refl (fun k => k = w.heap.size + 1) W).setCell (p := ⟨w.heap.size + 1, i, none⟩) (fun _ => rfl) u) (fun k hk => by omega), h.o.oth (p := ⟨w.heap.size + 1, i, none⟩) (by simp) u, h.i.setc i u, h.u.setCell (p := ⟨w.heap.size + 1, i, none⟩) (fun hp => by simp only at hp; omega) u⟩
theorem Hr.call {v w : World} {b : Nat} {t : TypeId} {z : Array Value} {W W' : World} {s s' : RS} {c : Array Value} (h : Hr v w b t z W s c) (hv : v.heap.size ≤ w.heap.size) (hk : Rk v W' b s') (hb : But (fun k => k = b) W W') : Hr v w b t z W' s' c :=
  ⟨hk, h.o.but hb (by have := h.lt hv; omega), h.i.but hb (by have := h.lt hv; omega), h.u.trans hb fun _ _ h => h⟩
theorem Hr.keep {v w : World} {b : Nat} {t : TypeId} {z : Array Value} {W W' : World} {s : RS} {c : Array Value} (h : Hr v w b t z W s c) (hb : Below W.heap.size W W') : Hr v w b t z W' s c := ⟨h.k.keep hb, h.o.keep hb, h.i.keep hb, h.u.andBelow hb⟩
theorem Hr.start {v w : World} {b : Nat} {s : RS} (h : Rk v w b s) (t : TypeId) (z : Array Value) : Hr v w b t z ((w.alloc (.cells z t)).alloc (.cells z t)) s z := by
  refine ⟨h.keep (bt (al w (.cells z t)) (al _ (.cells z t))), (Bx.new w t z).keep (al _ _), ?_, But.ofBelow (bt (al w (.cells z t)) (al _ (.cells z t)))⟩
  have := Bx.new (w.alloc (.cells z t)) t z
  rwa [size_alloc] at this
set_option maxRecDepth 8000 in
set_option maxHeartbeats 1600000 in
theorem readHead_any (v w : World) (b : Nat) (s : RS) (h : Rk v w b s) :
    Calls Try.prog 36 #[.pointer (some ⟨b, 0, none⟩)] w fun y w' => y = .returned (.agg (hdc (rdH s).1.1 (rdH s).1.2.1 (rdH s).1.2.2)) ∧ Rk v w' b (rdH s).2 ∧ But (fun k => k = b) w w' := by
  unfold rdH
  dsimp only
  generalize hr1 : s.get 8 = r1
  generalize hr2 : r1.2.get 4 = r2
  generalize hr3 : r2.2.get 4 = r3
  have R1 := hide hr1
  have R2 := hide hr2
  have R3 := hide hr3
  clear hr1 hr2 hr3
  have HV := hide h.size
  have H := hide (Hr.start h 56 #[.int .u64 0, .int .u32 0, .int .u32 0])
  clear h
  go_enter Try.func36, Try.ntmps36
  go_wp2_with fail
  generalize (w.alloc (.cells #[.int .u64 0, .int .u32 0, .int .u32 0] 56)).alloc (.cells #[.int .u64 0, .int .u32 0, .int .u32 0] 56) = W at *
  refine (kGet64 H.out.k).mono ?_
  rintro y w1 ⟨rfl, hk, hb⟩
  rw [R1.out] at hk ⊢
  have H := hide (H.out.call HV.out hk hb)
  clear hk hb
  have f0 := frozen_of_row _ (w.heap.size + 1) 0 _ _ H.out.i
  have e0 := H.out.i.cell 0 rfl
  go_wp2_with fail
  have H := hide (H.out.set HV.out 0 (.int .u64 (r1.1 : Int)))
  clear e0 f0
  generalize w1.setCell ⟨w.heap.size + 1, 0, none⟩ (.int .u64 (r1.1 : Int)) = W1 at *
  refine (kGet32 H.out.k).mono ?_
  rintro y w2 ⟨rfl, hk, hb⟩
  rw [R2.out] at hk ⊢
  have H := hide (H.out.call HV.out hk hb)
  clear hk hb
  have f0 := frozen_of_row _ (w.heap.size + 1) 1 _ _ H.out.i
  have e0 := H.out.i.cell 1 rfl
  go_wp2_with fail
  have H := hide (H.out.set HV.out 1 (.int .u32 (r2.1 : Int)))
  clear e0 f0
  generalize w2.setCell ⟨w.heap.size + 1, 1, none⟩ (.int .u32 (r2.1 : Int)) = W2 at *
  refine (kGet32 H.out.k).mono ?_
  rintro y w3 ⟨rfl, hk, hb⟩
  rw [R3.out] at hk ⊢
  have H := hide (H.out.call HV.out hk hb)
  clear hk hb
  have f0 := frozen_of_row _ (w.heap.size + 1) 2 _ _ H.out.i
  have e0 := H.out.i.cell 2 rfl
  have H := hide (H.out.set HV.out 2 (.int .u32 (r3.1 : Int)))
  have HI : Hid (Bx (w3.setCell ⟨w.heap.size + 1, 2, none⟩ (.int .u32 (r3.1 : Int))) 56 (w.heap.size + 1) #[.int .u64 (r1.1 : Int), .int .u32 (r2.1 : Int), .int .u32 (r3.1 : Int)]) := by
    show Bx _ _ _ _
    have := H.out.i
    simpa using this
  go_wp2_with (first
    | (refine wpList_load_row rfl 56 _ rfl (w.heap.size + 1) rfl 56 #[.int .u64 (r1.1 : Int), .int .u32 (r2.1 : Int), .int .u32 (r3.1 : Int)] (0, 0) _ HI.out Try.underlying56 rfl sizeHead ?_)
    | (refine wpList_store_row rfl 56 _ _ rfl w.heap.size _ rfl rfl 56 _ H.out.o sizeHead rfl (by simp [Value.oneCell']) ?_))
  refine bodyPost_ret (v := .agg #[.int .u64 (r1.1 : Int), .int .u32 (r2.1 : Int), .int .u32 (r3.1 : Int)]) (results_cell_row Try.results36 _ _ w.heap.size 56 _ (0, 0) _ rfl (setRow_heap _ _ _ _ _ _ H.out.o) Try.underlying56 rfl sizeHead) rfl ⟨rfl, ?_, ?_⟩
  · exact H.out.k.but (but_setRow _ _ _) fun k hk => by have := HV.out; omega
  · exact H.out.u.trans (but_setRow _ _ _) fun x hx e => by omega
end Go.Proofs.Yticcpkdhfdefpaa
