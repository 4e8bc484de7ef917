import Derived.Test.YtkhdbeambmfdfaaB
namespace Go.Proofs.Ytkhdbeambmfdfaa
open Go.RowKit

theorem hide {p : Prop} (h : p) : Hid p := h
/-- the cells of the table -/
def hc : Array Value := (M.half.map fun x => Value.int .u32 ((x : Nat) : Int)).toArray
theorem hc_size : hc.size = 16 := rfl
theorem hc_get (i : Nat) (h : i < 16) : hc[i]? = some (.int .u32 ((M.half.getD i 0 : Nat) : Int)) := by
  have hl : i < M.half.length := h
  simp [hc, hl]
theorem hc_one : hc.all (·.oneCell') = true := by decide +kernel
theorem info_half : (Try.prog.info? 45).map (·.size) = some hc.size := by rw [hc_size]; kernel_rfl
theorem half_lt (i : Nat) (h : i < 16) : M.half.getD i 0 < 4294967296 := by
  rw [M.half_st i h]; exact M.st_lt 4 (by omega)

/-- what a slice of bytes holds -/
def Bs (w : World) (a : Option Addr) (l : List Nat) : Prop :=
  (∀ x ∈ l, x < 256) ∧ l.length ≤ 9223372036854775807 ∧ (l = [] ∨ ∃ b off, a = some ⟨b, off, none⟩ ∧ ∀ i, i < l.length → w.cell? ⟨b, off + i, none⟩ = some (.int .u8 ((l.getD i 0 : Nat) : Int)))

theorem and15_32 (y : Nat) (h : y < 4294967296) : bits .and .u32 (y : Int) 15 = ((y % 16 : Nat) : Int) := by
  have h := u32_and_nat y 15 h (by decide)
  rw [M.and15] at h
  exact h
theorem div_cast (y : Nat) : ((y : Int) / 16) = ((y / 16 : Nat) : Int) := by simp
theorem nib32 (y : Nat) (h : y < 4294967296) : bits .xor .u32 ((y : Int) / 16) ((M.half.getD (y % 16) 0 : Nat) : Int) = ((M.st 4 y : Nat) : Int) := by
  rw [div_cast, xor32 _ _ (by omega) (half_lt _ (by omega)), M.nib]

theorem getD_at (l : List Nat) {k : Nat} (h : k < l.length) : l.getD k 0 = l[k] := by simp [h]

set_option maxHeartbeats 400000 in
theorem goOn_some (s : Nat) (b off cap : Nat) (l : List Nat) (w : World) (hs : s < 4294967296) (hl : ∀ x ∈ l, x < 256) (hlen : l.length ≤ 9223372036854775807)
    (hcell : ∀ i, i < l.length → w.cell? ⟨b, off + i, none⟩ = some (.int .u8 ((l.getD i 0 : Nat) : Int))) :
    Calls Try.prog 24 #[.int .u32 s, .slice (some ⟨b, off, none⟩) l.length cap] w fun e w' => e = .returned (.int .u32 (M.on s l : Nat)) ∧ Below w.heap.size w w' := by
  go_enter Try.func24, Try.ntmps24
  go_wp2_with (refine wpList_store_row rfl 45 _ _ rfl w.heap.size hc rfl rfl 45 _ (heap_alloc_new _ _) info_half rfl hc_one ?_)
  go_loopw [0, 11] (fun x i wx => ∃ k : Nat, k ≤ l.length ∧ i = .int .i64 k ∧ x = .int .u32 (M.on s (l.take k) : Nat) ∧ wx.heap[w.heap.size]? = some (.cells hc 45 (0, 0)) ∧ Below w.heap.size w wx) (fun _ i _ => l.length - (intOf i).toNat)
  case atStart =>
    exact ⟨0, Nat.zero_le _, rfl, rfl, setRow_heap _ _ _ _ _ _ (heap_alloc_new _ _), below_setRow ((Below.refl _ _).alloc (Nat.le_refl _) _) (Nat.le_refl _) _⟩
  case round =>
    obtain ⟨k, hk, rfl, rfl, hrow, hbel⟩ := hrel
    by_cases hlt : k < l.length
    · have hx0 : l.getD k 0 < 256 := by
        rw [getD_at l hlt]; exact hl _ (List.getElem_mem _)
      have hold := hcell k hlt
      have hc0 : wr.cell? ⟨b, off + k, none⟩ = some (.int .u8 ((l.getD k 0 : Nat) : Int)) := (hbel.cell (p := ⟨b, off + k, none⟩) (block_lt_of_cell hold)).trans hold
      have hon : M.on s (l.take (k + 1)) = M.st 4 (M.st 4 (M.on s (l.take k) ^^^ l.getD k 0)) := by
        rw [List.take_succ_eq_append_getElem hlt, M.on_snoc, getD_at l hlt, ← M.st_add]
      have hy0 : M.on s (l.take k) < 4294967296 := M.on_lt _ (fun x hx => hl x (List.mem_of_mem_take hx)) hs
      have HON : Hid (M.on s (l.take (k + 1)) = M.st 4 (M.st 4 (M.on s (l.take k) ^^^ l.getD k 0))) := hon
      clear hon hold hcell
      generalize l.getD k 0 = x at hc0 HON hx0
      generalize M.on s (l.take k) = y at HON hy0 ⊢
      have e1 := xor32 y x hy0 (by omega)
      have hv0 : y ^^^ x < 4294967296 := Nat.xor_lt_two_pow (n := 32) hy0 (by omega)
      generalize y ^^^ x = v at e1 HON hv0
      have e2 := and15_32 v hv0
      have e3 := nib32 v hv0
      have g1 : wr.cell? ⟨w.heap.size, v % 16, none⟩ = some (.int .u32 ((M.half.getD (v % 16) 0 : Nat) : Int)) := by
        rw [cell_of_row _ _ _ _ _ _ hrow, hc_get _ (by omega)]
      generalize M.half.getD (v % 16) 0 = t1 at g1 e3
      have hu0 : M.st 4 v < 4294967296 := M.st_lt 4 hv0
      generalize M.st 4 v = u at e3 HON hu0
      have e4 := and15_32 u hu0
      have e5 := nib32 u hu0
      have g2 : wr.cell? ⟨w.heap.size, u % 16, none⟩ = some (.int .u32 ((M.half.getD (u % 16) 0 : Nat) : Int)) := by
        rw [cell_of_row _ _ _ _ _ _ hrow, hc_get _ (by omega)]
      generalize M.half.getD (u % 16) 0 = t2 at g2 e5
      generalize M.st 4 u = z at e5 HON
      have b1 : v % 16 < 16 := by omega
      have b2 : u % 16 < 16 := by omega
      go_wp2
      go_roundw
      case rel => exact ⟨k + 1, by omega, by go_num, int_eq (by rw [HON.out]), hrow, hbel⟩
      case measure => simp [intOf]; omega
    · obtain rfl : k = l.length := by omega
      go_wp2
      go_ret
      exact ⟨ret_int (by rw [List.take_length]), hbel⟩

set_option maxHeartbeats 400000 in
theorem goOn_nil (s : Nat) (a : Option Addr) (cap : Nat) (w : World) :
    Calls Try.prog 24 #[.int .u32 s, .slice a 0 cap] w fun e w' => e = .returned (.int .u32 (s : Nat)) ∧ Below w.heap.size w w' := by
  go_enter Try.func24, Try.ntmps24
  go_wp2_with (refine wpList_store_row rfl 45 _ _ rfl w.heap.size hc rfl rfl 45 _ (heap_alloc_new _ _) info_half rfl hc_one ?_)
  go_loopw [0, 11] (fun x i wx => i = .int .i64 0 ∧ x = .int .u32 (s : Nat) ∧ Below w.heap.size w wx) (fun _ _ _ => 0)
  case atStart => exact ⟨rfl, rfl, below_setRow ((Below.refl _ _).alloc (Nat.le_refl _) _) (Nat.le_refl _) _⟩
  case round =>
    obtain ⟨rfl, rfl, hbel⟩ := hrel
    go_wp2
    go_ret
    exact ⟨rfl, hbel⟩
theorem goOn_any (s : Nat) (a : Option Addr) (n cap : Nat) (l : List Nat) (w : World) (hs : s < 4294967296) (hB : Bs w a l) (hn : n = l.length) :
    Calls Try.prog 24 #[.int .u32 s, .slice a n cap] w fun e w' => e = .returned (.int .u32 (M.on s l : Nat)) ∧ Below w.heap.size w w' := by
  subst hn
  obtain ⟨hl, hlen, h⟩ := hB
  rcases h with rfl | ⟨b, off, rfl, hcell⟩
  · exact goOn_nil s a cap w
  · exact goOn_some s b off cap l w hs hl hlen hcell

theorem not32 (a : Nat) (ha : a < 4294967296) : bits .xor .u32 4294967295 (a : Int) = ((M.neg a : Nat) : Int) := by
  have h := xor32 M.F a M.F_lt ha
  rw [show ((M.F : Nat) : Int) = 4294967295 from rfl] at h
  rw [M.neg_eq]
  exact h

set_option maxHeartbeats 400000 in
theorem More_any (s : Nat) (a : Option Addr) (n cap : Nat) (l : List Nat) (w : World) (hs : s < 4294967296) (hB : Bs w a l) (hn : n = l.length) :
    Calls Try.prog 17 #[.int .u32 s, .slice a n cap] w fun e w' => e = .returned (.int .u32 (M.more s l : Nat)) ∧ Below w.heap.size w w' := by
  have e1 := not32 s hs
  have hs' : M.neg s < 4294967296 := M.neg_lt hs
  have e2 := not32 _ (M.on_lt l hB.1 (w := M.neg s) hs')
  have hG := goOn_any (M.neg s) a n cap l w hs' hB hn
  have HG := hide hG
  have HB : Hid (M.more s l = M.neg (M.on (M.neg s) l)) := rfl
  clear hG hB hn
  generalize M.more s l = r at HB ⊢
  generalize M.neg s = s' at *
  generalize M.on s' l = t at *
  generalize M.neg t = t' at *
  have hsg : IntKind.u32.signed = false := rfl
  have hmx : IntKind.u32.max = 4294967295 := rfl
  go_enter Try.func17, Try.ntmps17
  go_wp2_with fail
  refine HG.out.mono ?_
  rintro e w1 ⟨rfl, hb1⟩
  go_wp2
  go_ret
  exact ⟨ret_int (by rw [HB.out]), hb1⟩

set_option maxHeartbeats 400000 in
theorem Of_any (a : Option Addr) (n cap : Nat) (l : List Nat) (w : World) (hB : Bs w a l) (hn : n = l.length) :
    Calls Try.prog 15 #[.slice a n cap] w fun e w' => e = .returned (.int .u32 (M.of l : Nat)) ∧ Below w.heap.size w w' := by
  have hG := More_any 0 a n cap l w (by decide) hB hn
  rw [show ((0 : Nat) : Int) = 0 from rfl] at hG
  have HG := hide hG
  have HB : Hid (M.of l = M.more 0 l) := rfl
  clear hG hB hn
  generalize M.of l = r at HB ⊢
  generalize M.more 0 l = t at *
  go_enter Try.func15, Try.ntmps15
  go_wp2_with fail
  refine HG.out.mono ?_
  rintro e w1 ⟨rfl, hb1⟩
  go_wp2
  go_ret
  exact ⟨ret_int (by rw [HB.out]), hb1⟩

set_option maxHeartbeats 400000 in
theorem Join_any (s t : Nat) (n : Int) (w : World) (hs : s < 4294967296) (ht : t < 4294967296) (hn : n ≤ 9223372036854775807) :
    Calls Try.prog 19 #[.int .u32 s, .int .u32 t, .int .i64 n] w fun e w' => e = .returned (.int .u32 (M.join s t n.toNat : Nat)) ∧ Below w.heap.size w w' := by
  have hG := overZeros_any s n w hs hn
  have HG := hide hG
  have e2 := xor32 _ t (M.st_lt (8 * n.toNat) hs) ht
  have HB : Hid (M.join s t n.toNat = M.st (8 * n.toNat) s ^^^ t) := rfl
  clear hG
  generalize M.join s t n.toNat = r at HB ⊢
  generalize M.st (8 * n.toNat) s = u at *
  generalize u ^^^ t = v at *
  go_enter Try.func19, Try.ntmps19
  go_wp2_with fail
  refine HG.out.mono ?_
  rintro e w1 ⟨rfl, hb1⟩
  go_wp2
  go_ret
  exact ⟨ret_int (by rw [HB.out]), hb1⟩

set_option maxHeartbeats 400000 in
theorem Zeros_any (n : Int) (w : World) (hn : n ≤ 9223372036854775807) :
    Calls Try.prog 21 #[.int .i64 n] w fun e w' => e = .returned (.int .u32 (M.zeros n.toNat : Nat)) ∧ Below w.heap.size w w' := by
  have hG := overZeros_any M.F n w M.F_lt hn
  rw [show ((M.F : Nat) : Int) = 4294967295 from rfl] at hG
  have HG := hide hG
  have e2 := not32 _ (M.st_lt (8 * n.toNat) M.F_lt)
  have HB : Hid (M.zeros n.toNat = M.neg (M.st (8 * n.toNat) M.F)) := rfl
  clear hG
  generalize M.zeros n.toNat = r at HB ⊢
  generalize M.st (8 * n.toNat) M.F = u at *
  generalize M.neg u = v at *
  have hsg : IntKind.u32.signed = false := rfl
  have hmx : IntKind.u32.max = 4294967295 := rfl
  go_enter Try.func21, Try.ntmps21
  go_wp2_with fail
  refine HG.out.mono ?_
  rintro e w1 ⟨rfl, hb1⟩
  go_wp2
  go_ret
  exact ⟨ret_int (by rw [HB.out]), hb1⟩
end Go.Proofs.Ytkhdbeambmfdfaa
