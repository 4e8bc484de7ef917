import Derived.Test.YtkhdbeambmfdfaaQ
import Derived.Deep.RegionHeld3
import Derived.Deep.DrawnRows
namespace Go.Proofs.Ytkhdbeambmfdfaa
open Go.RowKit
attribute [local go_sem ↓] Go.wp_at_zero Go.wp_at_succ

/-- a slice of slices of bytes that came in -/
def Ps (w : World) (b off : Nat) (A : Nat → Option Addr) (C : Nat → Nat) (ps : List (List Nat)) : Prop :=
  ∀ r, r < ps.length → w.cell? ⟨b, off + r, none⟩ = some (.slice (A r) (ps.getD r []).length (C r)) ∧ Bs w (A r) (ps.getD r [])
theorem Ps.keep {w w' : World} {b off : Nat} {A : Nat → Option Addr} {C : Nat → Nat} {ps : List (List Nat)} (h : Ps w b off A C ps) (hb : Below w.heap.size w w') : Ps w' b off A C ps :=
  fun r hr => ⟨(hb.cell (p := ⟨b, off + r, none⟩) (block_lt_of_cell (h r hr).1)).trans (h r hr).1, (h r hr).2.keep hb⟩
theorem getD_atL (l : List (List Nat)) {k : Nat} (h : k < l.length) : l.getD k [] = l[k] := by simp [h]
theorem pre_snoc (ps : List (List Nat)) {k : Nat} (h : k < ps.length) : (ps.take (k + 1)).flatten = (ps.take k).flatten ++ ps.getD k [] := by
  rw [List.take_succ_eq_append_getElem h, List.flatten_append, getD_atL ps h]
  simp
theorem suf_cons (ps : List (List Nat)) {k : Nat} (h : k < ps.length) : (ps.drop k).flatten = ps.getD k [] ++ (ps.drop (k + 1)).flatten := by
  rw [List.drop_eq_getElem_cons h, getD_atL ps h, List.flatten_cons]
theorem pre_le (ps : List (List Nat)) (k : Nat) : (ps.take k).flatten.length ≤ ps.flatten.length := by
  have h : ps.flatten = (ps.take k).flatten ++ (ps.drop k).flatten := by rw [← List.flatten_append, List.take_append_drop]
  rw [h, List.length_append]; omega
theorem suf_le (ps : List (List Nat)) (k : Nat) : (ps.drop k).flatten.length ≤ ps.flatten.length := by
  have h : ps.flatten = (ps.take k).flatten ++ (ps.drop k).flatten := by rw [← List.flatten_append, List.take_append_drop]
  rw [h, List.length_append]; omega
theorem mem_pre {ps : List (List Nat)} (h : ∀ p ∈ ps, ∀ x ∈ p, x < 256) (k : Nat) : ∀ x ∈ (ps.take k).flatten, x < 256 := fun x hx => by
  obtain ⟨p, hp, hx⟩ := List.mem_flatten.1 hx
  exact h p (List.mem_of_mem_take hp) x hx
theorem mem_suf {ps : List (List Nat)} (h : ∀ p ∈ ps, ∀ x ∈ p, x < 256) (k : Nat) : ∀ x ∈ (ps.drop k).flatten, x < 256 := fun x hx => by
  obtain ⟨p, hp, hx⟩ := List.mem_flatten.1 hx
  exact h p (List.mem_of_mem_drop hp) x hx
theorem parts_keep {w W W' : World} {b o n c : Nat} {a : Option Addr} (hb : Below W.heap.size W W') (h : W.cell? ⟨b, o, none⟩ = some (.slice a n c) ∧ Below w.heap.size w W) :
    W'.cell? ⟨b, o, none⟩ = some (.slice a n c) ∧ Below w.heap.size w W' :=
  ⟨(hb.cell (p := ⟨b, o, none⟩) (block_lt_of_cell h.1)).trans h.1, bt h.2 hb⟩

set_option maxRecDepth 100000 in
set_option maxHeartbeats 4000000 in
theorem parts_some (b off cap : Nat) (A : Nat → Option Addr) (C : Nat → Nat) (ps : List (List Nat)) (w : World) (hP : Ps w b off A C ps) (h8 : ∀ p ∈ ps, ∀ x ∈ p, x < 256) (hT : ps.flatten.length ≤ 1048576) (hn : ps.length ≤ 1048576) :
    Calls Try.prog 8 #[.slice (some ⟨b, off, none⟩) ps.length cap] w fun e w' => e = .returned (.bool true) ∧ Below w.heap.size w w' := by
  go_enter Try.func8, Try.ntmps8
  go_wp2_with fail
  refine (fixed_any _).mono ?_
  rintro e w1 ⟨rfl, hb1⟩
  go_wp2_with fail
  have hbel0 := bt hb1 ((Below.refl _ w1).alloc (Nat.le_refl _) (.cells #[] 5))
  have hrow0 := Bs_row (l := []) (heap_alloc_new w1 (.cells (bc []) 5)) (by simp) (by simp)
  refine (Of_any none 0 0 [] _ (Bs.nil _) rfl).mono ?_
  rintro e w2 ⟨rfl, hb2⟩
  go_wp2_with fail
  refine (Of_any none 0 0 [] _ (Bs.nil _) rfl).mono ?_
  rintro e w3 ⟨rfl, hb3⟩
  rw [M.of_nil]
  have hB0 : Bs w3 (some ⟨w1.heap.size, 0, none⟩) [] := (Bs.keep hrow0 hb2).keep hb3
  have hbel3 := bt (bt hbel0 hb2) hb3
  clear hbel0 hrow0 hb1 hb2 hb3
  go_wp2
  go_loopw [3, 4, 5, 6] (fun v m q i wx => ∃ (k : Nat) (aw : Option Addr) (cw : Nat), k ≤ ps.length ∧ i = .int .i64 k ∧ v = .slice aw (ps.take k).flatten.length cw ∧ m = .int .u32 (M.of (ps.take k).flatten : Nat) ∧ q = .int .u32 (M.of (ps.take k).flatten : Nat) ∧ Bs wx aw (ps.take k).flatten ∧ Below w.heap.size w wx) (fun _ _ _ i _ => ps.length - (intOf i).toNat)
  case atStart =>
    refine ⟨0, _, _, Nat.zero_le _, rfl, rfl, ?_, ?_, hB0, hbel3⟩
    · rw [List.take_zero, List.flatten_nil, M.of_nil]; rfl
    · rw [List.take_zero, List.flatten_nil, M.of_nil]; rfl
  case round =>
    clear hB0 hbel3
    obtain ⟨k, aw, cw, hk, rfl, rfl, rfl, rfl, hBw, hbel⟩ := hrel
    by_cases hlt : k < ps.length
    · obtain ⟨hcell, hBp⟩ := (hP.keep hbel) k hlt
      have HS := hide (pre_snoc ps hlt)
      have hle := pre_le ps (k + 1)
      rw [HS.out, List.length_append] at hle
      have h8w := mem_pre h8 (k + 1)
      rw [HS.out] at h8w
      have HM := hide (M.of_append (ps.take k).flatten (ps.getD k []))
      have HJ := hide (M.join_of (M.of (ps.take k).flatten) (ps.getD k []))
      have hlo := M.of_lt hBw.1
      have hlp := M.of_lt hBp.1
      generalize A k = ap at *
      generalize C k = cp at *
      generalize ps.getD k [] = p at *
      generalize hpre : (ps.take k).flatten = pre at *
      clear hpre
      go_wp2_with fail
      refine (joined_any aw ap pre.length p.length cw cp pre p _ hBw hBp rfl rfl (by omega)).mono ?_
      rintro e w4 ⟨v, rfl, hown, hb4⟩
      obtain ⟨a', c', hv, hBn, _⟩ := hown.bs h8w (by rw [List.length_append]; omega)
      rw [hv]
      have hc4 := (hb4.cell (p := ⟨b, off + k, none⟩) (block_lt_of_cell hcell)).trans hcell
      have hBp4 := hBp.keep hb4
      have hbel4 := bt hbel hb4
      clear hown hv hcell hBp hBw hbel hb4
      go_wp2_with fail
      refine (More_any _ ap p.length cp p _ hlo hBp4 rfl).mono ?_
      rintro e w5 ⟨rfl, hb5⟩
      have hc5 := (hb5.cell (p := ⟨b, off + k, none⟩) (block_lt_of_cell hc4)).trans hc4
      have hBp5 := hBp4.keep hb5
      have hBn5 := hBn.keep hb5
      have hbel5 := bt hbel4 hb5
      have HO := hide fun W (h : Bs W ap p) => Of_any ap p.length cp p W h rfl
      have HJC := hide fun W => Join_any (M.of pre) (M.of p) p.length W hlo hlp (by omega)
      rw [Int.toNat_natCast, HJ.out] at HJC
      clear hc4 hBp4 hBn hbel4 hb5
      have hplen : ((p.length : Nat) : Int) ≤ 1048576 := by omega
      go_wp2_with fail
      go_region_held3 (fun w' => w'.cell? ⟨b, off + k, none⟩ = some (.slice ap p.length cp) ∧ Below w.heap.size w w')
        (first | exact ⟨hc5, hbel5.drew⟩ | (refine parts_keep hb7 ?_; assumption) | (refine parts_keep hb6 ?_; assumption))
        (first | (go_at_call 15; refine (HO.out _ ?_).mono ?_; exact hBp5; rintro e w6 ⟨rfl, hb6⟩) | (go_at_call 19; refine (HJC.out _).mono ?_; rintro e w7 ⟨rfl, hb7⟩))
      have hbel7 := bt (bt hbel5.drew hb6) hb7
      have hBn7 := (Bs.keep (w := w5.drew) hBn5 hb6).keep hb7
      clear hb6 hb7 hBn5 hbel5 hBp5 hc5
      go_wp2
      go_roundw
      case rel =>
        refine ⟨k + 1, a', c', by omega, by go_num, ?_, ?_, ?_, ?_, hbel7⟩
        · rw [HS.out, List.length_append]
        · rw [HS.out, HM.out]
        · rw [HS.out, HM.out]
        · rw [HS.out]; exact hBn7
      case measure => simp [intOf]; omega
    · obtain rfl : k = ps.length := by omega
      rw [List.take_length] at hBw ⊢
      have hlT := M.of_lt hBw.1
      have hPr := hP.keep hbel
      go_wp2_with fail
      refine (Of_any none 0 0 [] _ (Bs.nil _) rfl).mono ?_
      rintro e w4 ⟨rfl, hb4⟩
      rw [M.of_nil]
      have hbel4 := bt hbel hb4
      have hBw4 := hBw.keep hb4
      have hP4 := hPr.keep hb4
      clear hbel hBw hPr hk hlt hb4 hP
      go_wp2
      go_loopw [7, 8, 9] (fun q t i wx => ∃ k : Nat, k ≤ ps.length ∧ i = .int .i64 ((k : Int) - 1) ∧ q = .int .u32 (M.of (ps.drop k).flatten : Nat) ∧ t = .int .i64 (ps.drop k).flatten.length ∧ Below w4.heap.size w4 wx) (fun _ _ i _ => (intOf i + 1).toNat)
      case atStart =>
        refine ⟨ps.length, Nat.le_refl _, rfl, ?_, ?_, Below.refl _ _⟩
        · rw [List.drop_length, List.flatten_nil, M.of_nil]; rfl
        · rw [List.drop_length, List.flatten_nil]; rfl
      case round =>
        obtain ⟨k, hk, rfl, rfl, rfl, hbl⟩ := hrel
        by_cases hpos : 0 < k
        · obtain ⟨k, rfl⟩ : ∃ j, k = j + 1 := ⟨k - 1, by omega⟩
          have hlt : k < ps.length := by omega
          obtain ⟨hcell, hBp⟩ := (hP4.keep hbl) k hlt
          have HS := hide (suf_cons ps hlt)
          have hle := suf_le ps k
          rw [HS.out, List.length_append] at hle
          have h8s := mem_suf h8 (k + 1)
          have HM := hide (M.of_append (ps.getD k []) (ps.drop (k + 1)).flatten)
          have HJ := hide (M.join_of (M.of (ps.getD k [])) (ps.drop (k + 1)).flatten)
          have hlo := M.of_lt h8s
          have hlp := M.of_lt hBp.1
          rw [show ((k + 1 : Nat) : Int) - 1 = (k : Int) by omega]
          generalize A k = ap at *
          generalize C k = cp at *
          generalize ps.getD k [] = p at *
          generalize hsuf : (ps.drop (k + 1)).flatten = suf at *
          clear hsuf
          go_wp2_with fail
          refine (Of_any ap p.length cp p _ hBp rfl).mono ?_
          rintro e w5 ⟨rfl, hb5⟩
          have hc5 := (hb5.cell (p := ⟨b, off + k, none⟩) (block_lt_of_cell hcell)).trans hcell
          have hb5' := bt hbl hb5
          clear hcell hBp hbl hb5
          go_wp2_with fail
          refine (Join_any (M.of p) (M.of suf) suf.length _ hlp hlo (by omega)).mono ?_
          rintro e w6 ⟨rfl, hb6⟩
          rw [Int.toNat_natCast, HJ.out]
          have hc6 := (hb6.cell (p := ⟨b, off + k, none⟩) (block_lt_of_cell hc5)).trans hc5
          have hb6' := bt hb5' hb6
          clear hc5 hb5' hb6
          have hplen : ((p.length : Nat) : Int) + (suf.length : Int) ≤ 1048576 := by omega
          go_wp2
          go_roundw
          case rel =>
            refine ⟨k, by omega, rfl, ?_, ?_, hb6'⟩
            · rw [HS.out, HM.out]
            · rw [HS.out, List.length_append]; exact int_eq (by omega)
          case measure => simp [intOf]
        · obtain rfl : k = 0 := by omega
          rw [show (ps.drop 0) = ps from rfl]
          go_wp2_with fail
          refine (Of_any aw (List.map List.length ps).sum cw ps.flatten _ (hBw4.keep hbl) List.length_flatten.symm).mono ?_
          rintro e w5 ⟨rfl, hb5⟩
          go_wp2
          go_ret
          exact ⟨rfl, bt (bt hbel4 hbl) hb5⟩
end Go.Proofs.Ytkhdbeambmfdfaa
