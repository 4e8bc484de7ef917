import Derived.Test.YthfcgfdboienkaaVD
import Derived.Deep.MidRow
namespace Go.Proofs.Ythfcgfdboienkaa
open Go.RowKit

theorem range_below {w w' : World} {b o : Nat} {cs : List Value} (h : w.rangeAt b o cs) (hb : Below w.heap.size w w') : w'.rangeAt b o cs := fun j v hv => (hb.cell (p := ⟨b, o + j, none⟩) (block_lt_of_cell (h j v hv))).trans (h j v hv)
theorem range_but {S : Nat → Prop} {w w' : World} {b o : Nat} {cs : List Value} (h : w.rangeAt b o cs) (hb : But S w w') (hn : ¬ S b) : w'.rangeAt b o cs := fun j v hv => (hb.cell (p := ⟨b, o + j, none⟩) (block_lt_of_cell (h j v hv)) hn).trans (h j v hv)
theorem there_block {w w' : World} {b o n : Nat} (h : w.there b o n) (he : w'.heap[b]? = w.heap[b]?) : w'.there b o n := fun j hj => by
  rw [World.cell?_of_block (w := w) (a := ⟨b, o + j, none⟩) he, World.frozen?_of_block (w := w) (a := ⟨b, o + j, none⟩) he]
  exact h j hj
theorem there_lt {w : World} {b o n : Nat} (h : w.there b o n) (hn : 0 < n) : b < w.heap.size := by
  have := (h 0 hn).1
  obtain ⟨v, hv⟩ := Option.isSome_iff_exists.1 this
  exact block_lt_of_cell hv
theorem there_below {w w' : World} {b o n : Nat} (h : w.there b o n) (hb : Below w.heap.size w w') : w'.there b o n := by
  by_cases hn : 0 < n
  · exact there_block h (hb.block b (there_lt h hn))
  · exact fun j hj => by omega

/-- values that can be read -/
def Ps (w : World) (a : Option Addr) (L : List VV) : Prop :=
  (∀ v ∈ L, v.ok) ∧ L.length ≤ 2199023255552 ∧ (L = [] ∨ ∃ b off, a = some ⟨b, off, none⟩ ∧ ∀ r, r < L.length → w.rangeAt b (off + r * 6) (L.getD r VV.zero).pc.toList)
def Rs (w : World) (a : Option Addr) (L : List VV) : Prop :=
  (∀ v ∈ L, v.ok) ∧ L.length ≤ 2199023255552 ∧ (L = [] ∨ ∃ b off, a = some ⟨b, off, none⟩ ∧ ∀ r, r < L.length → w.rangeAt b (off + r * 7) (L.getD r VV.zero).rc.toList)
theorem getD_mem {L : List VV} {r : Nat} (h : r < L.length) : L.getD r VV.zero ∈ L := by simp [h]
theorem Ps.keep {w w' : World} {a : Option Addr} {L : List VV} (h : Ps w a L) (hb : Below w.heap.size w w') : Ps w' a L :=
  ⟨h.1, h.2.1, h.2.2.imp id fun ⟨b, off, e, hr⟩ => ⟨b, off, e, fun r hr2 => range_below (hr r hr2) hb⟩⟩
theorem Rs.keep {w w' : World} {a : Option Addr} {L : List VV} (h : Rs w a L) (hb : Below w.heap.size w w') : Rs w' a L :=
  ⟨h.1, h.2.1, h.2.2.imp id fun ⟨b, off, e, hr⟩ => ⟨b, off, e, fun r hr2 => range_below (hr r hr2) hb⟩⟩
theorem Ps.at {w : World} {a : Option Addr} {L : List VV} (h : Ps w a L) {r : Nat} (hr : r < L.length) : ∃ b off, a = some ⟨b, off, none⟩ ∧ w.rangeAt b (off + r * 6) (L.getD r VV.zero).pc.toList := by
  rcases h.2.2 with rfl | ⟨b, off, e, hc⟩
  · simp at hr
  · exact ⟨b, off, e, hc r hr⟩
theorem Rs.at {w : World} {a : Option Addr} {L : List VV} (h : Rs w a L) {r : Nat} (hr : r < L.length) : ∃ b off, a = some ⟨b, off, none⟩ ∧ w.rangeAt b (off + r * 7) (L.getD r VV.zero).rc.toList := by
  rcases h.2.2 with rfl | ⟨b, off, e, hc⟩
  · simp at hr
  · exact ⟨b, off, e, hc r hr⟩

theorem infoVal : (Try.prog.info? 26).map (fun i => (i.zero, i.size, i.bytes)) = some (some (.agg VV.zero.pc), 6, 64) := by kernel_rfl
theorem infoV : (Try.prog.info? 30).map (fun i => (i.zero, i.size, i.bytes)) = some (some (.agg VV.zero.rc), 7, 64) := by kernel_rfl
theorem sizeVal : (Try.prog.info? 26).map (·.size) = some 6 := by kernel_rfl
theorem sizeV : (Try.prog.info? 30).map (·.size) = some 7 := by kernel_rfl
theorem load_val {w : World} {b o : Nat} {v : VV} (h : w.rangeAt b o v.pc.toList) : (Instr.loadAt 26 (.pointer (some ⟨b, o, none⟩))).run Try.prog w = .ok (.agg v.pc) w :=
  run_loadAt_mid w b o 26 v.pc.toList _ h Try.underlying26 rfl sizeVal
theorem load_v {w : World} {b o : Nat} {v : VV} (h : w.rangeAt b o v.rc.toList) : (Instr.loadAt 30 (.pointer (some ⟨b, o, none⟩))).run Try.prog w = .ok (.agg v.rc) w :=
  run_loadAt_mid w b o 30 v.rc.toList _ h Try.underlying30 rfl sizeV
theorem pc_one (v : VV) : v.pc.all (·.oneCell') = true := by simp [VV.pc, Value.oneCell']
theorem rc_one (v : VV) : v.rc.all (·.oneCell') = true := by simp [VV.rc, Value.oneCell']
theorem pc_size (v : VV) : v.pc.size = 6 := rfl
theorem rc_size (v : VV) : v.rc.size = 7 := rfl
theorem store_val {w : World} {b o : Nat} (v : VV) (h : w.there b o 6) : (Instr.storeAt 26 (.pointer (some ⟨b, o, none⟩)) (.agg v.pc)).run Try.prog w = .ok () (w.setCells b o v.pc.toList) :=
  run_storeAt_mid w b o 26 v.pc h sizeVal (pc_one v)
theorem cells_val {w : World} {b o : Nat} (v : VV) (h : w.there b o 6) : (storeCells ⟨b, o, none⟩ v.pc.toList).run Try.prog w = .ok () (w.setCells b o v.pc.toList) := by
  have := run_storeCells_cells (P := Try.prog) b o v.pc.toList 0 w (fun j hj => by simpa using (h j (by simpa [VV.pc] using hj)).1) (fun j hj => by simpa using (h j (by simpa [VV.pc] using hj)).2)
    (fun u hu => (Array.all_eq_true_iff_forall_mem.1 (pc_one v)) u (by simpa using hu))
  simpa using this
theorem make_val (n : Nat) (hn : n ≤ 2199023255560) (w : World) : (Instr.makeSlice 38 (.int .i64 (n : Int)) (.int .i64 (n : Int))).run Try.prog w = .ok (.slice (some ⟨w.heap.size, 0, none⟩) n n) (w.alloc (.cells (madeCells VV.zero.pc (n * 6)) 26)) := by
  obtain ⟨i0, hi, hz0, hz1, hz2⟩ := info_parts infoVal
  have hr := run_make (P := Try.prog) w 38 26 i0 (.agg VV.zero.pc) Try.underlying38 hi hz0 .i64 .i64 n n (by omega) (by omega) (by rw [hz2]; omega) (by omega)
  simp only [Int.toNat_natCast, hz1] at hr
  exact hr
theorem there_made (w : World) (n : Nat) : (w.alloc (.cells (madeCells VV.zero.pc n) 26)).there w.heap.size 0 n := by
  intro j hj
  have hg := heap_alloc_new w (.cells (madeCells VV.zero.pc n) 26)
  rw [Nat.zero_add]
  constructor
  · rw [cell_of_row _ _ _ _ _ _ hg]
    simp [size_madeCells, hj]
  · exact frozen_of_row _ _ _ _ _ hg
theorem six {w : World} {b o : Nat} {v : VV} (h : w.rangeAt b o v.pc.toList) : w.cell? ⟨b, o, none⟩ = some (.int .i64 v.kind) ∧ w.cell? ⟨b, o + 1, none⟩ = some (.bool v.bool) ∧ w.cell? ⟨b, o + 2, none⟩ = some (.int .i64 v.int) ∧ w.cell? ⟨b, o + 3, none⟩ = some (.float .f64 v.real) ∧ w.cell? ⟨b, o + 4, none⟩ = some (.complex .f64 v.re v.im) ∧ w.cell? ⟨b, o + 5, none⟩ = some (.string v.text) :=
  ⟨h 0 _ rfl, h 1 _ rfl, h 2 _ rfl, h 3 _ rfl, h 4 _ rfl, h 5 _ rfl⟩
theorem seven {w : World} {b o : Nat} {v : VV} (h : w.rangeAt b o v.rc.toList) : w.cell? ⟨b, o, none⟩ = some (.int .i64 v.kind) ∧ w.cell? ⟨b, o + 1, none⟩ = some (.bool v.bool) ∧ w.cell? ⟨b, o + 2, none⟩ = some (.int .i64 v.int) ∧ w.cell? ⟨b, o + 3, none⟩ = some (.int .u64 (v.real : Int)) ∧ w.cell? ⟨b, o + 4, none⟩ = some (.int .u64 (v.re : Int)) ∧ w.cell? ⟨b, o + 5, none⟩ = some (.int .u64 (v.im : Int)) ∧ w.cell? ⟨b, o + 6, none⟩ = some (.string v.text) :=
  ⟨h 0 _ rfl, h 1 _ rfl, h 2 _ rfl, h 3 _ rfl, h 4 _ rfl, h 5 _ rfl, h 6 _ rfl⟩
/-- what list lays -/
def lf (L : List VV) (r : Nat) : VV := if r < L.length then L.getD r VV.zero else mk r
/-- a list that list made -/
def Ls (w : World) (g : Nat) (L : List VV) : Prop := w.there g 0 ((L.length + 2) * 6) ∧ ∀ r, r < L.length + 2 → w.rangeAt g (r * 6) (lf L r).pc.toList
theorem Ls.keep {w w' : World} {g : Nat} {L : List VV} (h : Ls w g L) (hb : Below w.heap.size w w') : Ls w' g L := ⟨there_below h.1 hb, fun r hr => range_below (h.2 r hr) hb⟩
theorem Ls.ps {w : World} {g : Nat} {L : List VV} (h : Ls w g L) (hk : ∀ v ∈ L, v.ok) (hl : L.length ≤ 2199023255552) : Ps w (some ⟨g, 0, none⟩) L :=
  ⟨hk, hl, .inr ⟨g, 0, rfl, fun r hr => by rw [Nat.zero_add]; have := h.2 r (by omega); unfold lf at this; rw [if_pos hr] at this; exact this⟩⟩
theorem below_setCells {n b o : Nat} {w w' : World} (h : Below n w w') (hn : n ≤ b) (vs : List Value) : Below n w (w'.setCells b o vs) := by
  induction vs generalizing w' o with
  | nil => exact h
  | cons v vs ih => exact ih (h.setCell hn v)

theorem there_part {w : World} {b o n k m : Nat} (h : w.there b o n) (hk : k + m ≤ n) : w.there b (o + k) m := fun j hj => by
  have := h (k + j) (by omega)
  rw [← Nat.add_assoc] at this
  exact this
theorem there_at {w : World} {b n k m : Nat} (h : w.there b 0 n) (hk : k + m ≤ n) : w.there b k m := by
  have := there_part h hk
  rwa [Nat.zero_add] at this
theorem list_step {w wx w1 : World} {N j : Nat} {L : List VV} {v : VV} (ht : wx.there w.heap.size 0 (N * 6)) (hr : ∀ r, r < j → wx.rangeAt w.heap.size (r * 6) (lf L r).pc.toList) (hb : Below w.heap.size w wx)
    (hb1 : Below wx.heap.size wx w1) (hj : j < N) (hv : lf L j = v) :
    (w1.setCells w.heap.size (j * 6) v.pc.toList).there w.heap.size 0 (N * 6) ∧ (∀ r, r < j + 1 → (w1.setCells w.heap.size (j * 6) v.pc.toList).rangeAt w.heap.size (r * 6) (lf L r).pc.toList) ∧ Below w.heap.size w (w1.setCells w.heap.size (j * 6) v.pc.toList) := by
  have t1 := there_below ht hb1
  refine ⟨World.there_setCells t1 _ _ _, fun r hr2 => ?_, below_setCells (bt hb hb1) (Nat.le_refl _) _⟩
  by_cases e : r = j
  · subst e
    rw [hv]
    have t2 : w1.there w.heap.size (r * 6) v.pc.toList.length := by
      have := there_part (k := r * 6) (m := 6) t1 (by omega)
      rw [Nat.zero_add] at this
      exact this
    exact World.rangeAt_setCells_same _ _ _ _ t2
  · have := range_below (hr r (by omega)) hb1
    refine World.rangeAt_setCells_apart this _ _ _ (.inr (.inl ?_))
    show r * 6 + 6 ≤ j * 6
    omega

set_option maxHeartbeats 1600000 in
theorem list_any (w : World) (a : Option Addr) (n cap : Nat) (L : List VV) (hR : Rs w a L) (hn : n = L.length) :
    Calls Try.prog 16 #[.slice a n cap] w fun e w' => e = .returned (.slice (some ⟨w.heap.size, 0, none⟩) n (n + 2)) ∧ Ls w' w.heap.size L ∧ Below w.heap.size w w' := by
  subst hn
  have hlen := hR.2.1
  have hadd : IntKind.i64.wrap ((L.length : Int) + 2) = ((L.length + 2 : Nat) : Int) := by rw [wrapI (by omega) (by omega)]; omega
  have hmk := make_val (L.length + 2) (by omega)
  have V := hide value_any
  have M := hide mark_any
  have HR := hide hR
  clear hR
  generalize hN : L.length + 2 = N at *
  have HN := hide hN
  have hNb : N ≤ 2199023255554 := by omega
  clear hN
  go_enter Try.func16, Try.ntmps16
  go_wp2
  go_loopw [4] (fun i wx => ∃ j : Nat, j ≤ N ∧ i = .int .i64 j ∧ (wx.there w.heap.size 0 (N * 6) ∧ (∀ r, r < j → wx.rangeAt w.heap.size (r * 6) (lf L r).pc.toList) ∧ Below w.heap.size w wx)) (fun i _ => N - (intOf i).toNat)
  case atStart => exact ⟨0, Nat.zero_le _, rfl, there_made w (N * 6), fun r hr => by omega, (Below.refl _ _).alloc (Nat.le_refl _) _⟩
  case round =>
    obtain ⟨j, hj, rfl, hG⟩ := hrel
    have HG := hide hG
    clear hG
    by_cases hlt : j < N
    · have hi : (j : Int) < (N : Int) := by omega
      by_cases hl : j < L.length
      · have hi2 : (j : Int) < (L.length : Int) := by omega
        obtain ⟨b, off, rfl, hc⟩ := (HR.out.keep HG.out.2.2).at hl
        have HV : Hid (lf L j = L.getD j VV.zero) := by unfold lf; rw [if_pos hl]; exact rfl
        generalize L.getD j VV.zero = v at *
        have HC := hide hc
        clear hc
        go_wp2_with (refine wpList_load_mid rfl 30 _ rfl b _ rfl v.rc.toList _ HC.out Try.underlying30 rfl sizeV ?_)
        refine (V.out _ _).mono ?_
        rintro e w1 ⟨rfl, hb1⟩
        have HB1 := hide hb1
        clear hb1
        have hst := cells_val v (there_at (k := j * 6) (m := 6) (there_below HG.out.1 HB1.out) (by omega))
        go_wp2
        go_roundw
        case rel =>
          refine ⟨j + 1, by omega, by go_num, list_step HG.out.1 HG.out.2.1 HG.out.2.2 HB1.out hlt HV.out⟩
        case measure => simp [intOf]; omega
      · have hi2 : ¬ (j : Int) < (L.length : Int) := by omega
        have HV : Hid (lf L j = mk j) := by unfold lf; rw [if_neg hl]; exact rfl
        go_wp2_with fail
        refine (M.out _ _ (by have := HN.out; omega)).mono ?_
        rintro e w1 ⟨rfl, hb1⟩
        have HB1 := hide hb1
        clear hb1
        have hst := cells_val (mk j) (there_at (k := j * 6) (m := 6) (there_below HG.out.1 HB1.out) (by omega))
        go_wp2
        go_roundw
        case rel =>
          refine ⟨j + 1, by omega, by go_num, list_step HG.out.1 HG.out.2.1 HG.out.2.2 HB1.out hlt HV.out⟩
        case measure => simp [intOf]; omega
    · obtain rfl : N = j := by omega
      have hI1 : (L.length : Int) ≤ (N : Int) := by have := HN.out; omega
      go_wp2
      go_ret
      refine ⟨rfl, ?_, HG.out.2.2⟩
      have e := HN.out
      unfold Ls
      rw [e]
      exact ⟨HG.out.1, HG.out.2.1⟩
end Go.Proofs.Ythfcgfdboienkaa
