import Derived.Test.YthfcgfdboienkabXE
import Derived.Laws.IdiomStrings
import Derived.Laws.BytesArg
namespace Go.Proofs.Ythfcgfdboienkab
open Go.RowKit

theorem wrap64_sint (y : Nat) (h : y < 18446744073709551616) : wrap64 (y : Int) = sint y := by
  unfold sint wrap64
  split <;> omega
theorem or_below (n x : Nat) (hn : n ≤ 8) (hx : x < 256 ^ n) : bits .or .u64 (x : Int) (IntKind.u64.wrap (18446744073709551615 * 2 ^ (8 * n))) = ((18446744073709551616 - 256 ^ n + x : Nat) : Int) := by
  have key : ∀ (c i : Nat), c = 18446744073709551616 - 256 ^ n → 256 ^ n = 2 ^ i → c % 2 ^ i = 0 → c < 18446744073709551616 → IntKind.u64.wrap (18446744073709551615 * 2 ^ (8 * n)) = (c : Int) → x < 18446744073709551616 → bits .or .u64 (x : Int) (IntKind.u64.wrap (18446744073709551615 * 2 ^ (8 * n))) = ((18446744073709551616 - 256 ^ n + x : Nat) : Int) := by
    intro c i hc hp hm hl hw hx2
    rw [hw, u64_or_nat x c hx2 hl, Nat.or_comm, nat_join i c x hm (by rw [← hp]; exact hx), hc]
  have h9 : n = 0 ∨ n = 1 ∨ n = 2 ∨ n = 3 ∨ n = 4 ∨ n = 5 ∨ n = 6 ∨ n = 7 ∨ n = 8 := by omega
  rcases h9 with rfl | rfl | rfl | rfl | rfl | rfl | rfl | rfl | rfl
  · exact key 18446744073709551615 0 (by decide) (by decide) (by decide) (by decide) (by simp [IntKind.wrap, IntKind.bits, IntKind.signed]) (by omega)
  · exact key 18446744073709551360 8 (by decide) (by decide) (by decide) (by decide) (by simp [IntKind.wrap, IntKind.bits, IntKind.signed]) (by omega)
  · exact key 18446744073709486080 16 (by decide) (by decide) (by decide) (by decide) (by simp [IntKind.wrap, IntKind.bits, IntKind.signed]) (by omega)
  · exact key 18446744073692774400 24 (by decide) (by decide) (by decide) (by decide) (by simp [IntKind.wrap, IntKind.bits, IntKind.signed]) (by omega)
  · exact key 18446744069414584320 32 (by decide) (by decide) (by decide) (by decide) (by simp [IntKind.wrap, IntKind.bits, IntKind.signed]) (by omega)
  · exact key 18446742974197923840 40 (by decide) (by decide) (by decide) (by decide) (by simp [IntKind.wrap, IntKind.bits, IntKind.signed]) (by omega)
  · exact key 18446462598732840960 48 (by decide) (by decide) (by decide) (by decide) (by simp [IntKind.wrap, IntKind.bits, IntKind.signed]) (by omega)
  · exact key 18374686479671623680 56 (by decide) (by decide) (by decide) (by decide) (by simp [IntKind.wrap, IntKind.bits, IntKind.signed]) (by omega)
  · have e : IntKind.u64.wrap (18446744073709551615 * 2 ^ (8 * 8)) = ((0 : Nat) : Int) := by simp [IntKind.wrap, IntKind.bits, IntKind.signed]
    have hx2 : x < 18446744073709551616 := by simpa using hx
    rw [e, u64_or_nat x 0 hx2 (by decide), Nat.or_zero]
    congr 1
    omega
theorem parseInt_any (w : World) (a : Option Addr) (n cap : Nat) (l : List Nat) (below : Bool) (hB : Bs w a l) (hl : l.length ≤ 8) (hn : n = l.length) :
    Calls Try.prog 61 #[.slice a n cap, .bool below] w fun e w' => e = .returned (.int .i64 (sint (if below then 18446744073709551616 - 256 ^ l.length + be l else be l))) ∧ w' = w := by
  subst hn
  have H := hide (highFirst_any w a l.length cap l hB hl rfl)
  have hbe := be_lt l hB.1
  have hsm := be_small hB.1 hl
  clear hB
  cases below
  · rw [if_neg (by decide), ← wrap64_sint _ hsm]
    generalize be l = x at *
    go_enter Try.func61, Try.ntmps61
    go_wp2_with fail
    refine H.out.mono ?_
    rintro e w1 ⟨rfl, rfl⟩
    go_wp2
    go_ret
    exact ⟨by first | rfl | simp, rfl⟩
  · have hor := or_below l.length (be l) hl hbe
    have hb8 : 256 ^ l.length ≤ 18446744073709551616 := by
      have h2 : 256 ^ l.length ≤ 256 ^ 8 := Nat.pow_le_pow_right (by decide) hl
      have h3 : (256 : Nat) ^ 8 = 18446744073709551616 := by decide
      omega
    rw [if_pos rfl, ← wrap64_sint _ (by omega)]
    generalize 18446744073709551616 - 256 ^ l.length + be l = z at *
    generalize be l = x at *
    clear hbe hb8
    go_enter Try.func61, Try.ntmps61
    go_wp2_with fail
    refine H.out.mono ?_
    rintro e w1 ⟨rfl, rfl⟩
    go_wp2
    go_ret
    exact ⟨by first | rfl | simp [hor], rfl⟩
theorem headD_drop {l : List Nat} {j : Nat} (h : j < l.length) : (l.drop j).headD 0 = l.getD j 0 := by
  rw [List.drop_eq_getElem_cons h]
  simp [h]
set_option maxHeartbeats 800000 in
theorem textBytes_any (w : World) (a : Option Addr) (n cap : Nat) (l : List Nat) (hB : Bs w a l) (hl : l.length ≤ 4096) (hn : n = l.length) :
    Calls Try.prog 60 #[.slice a n cap] w fun e w' => e = .returned (.int .i64 (tlen l : Int)) ∧ Below w.heap.size w w' := by
  subst hn
  rw [← tlenS_eq]
  have HB := hide hB
  clear hB
  go_enter Try.func60, Try.ntmps60
  go_wp2
  go_loopw [8] (fun i wx => ∃ j : Nat, j ≤ l.length ∧ i = .int .i64 (j : Int) ∧ (Below w.heap.size w wx ∧ tlenS l = j + tlenS (l.drop j))) (fun i _ => l.length - (intOf i).toNat)
  case atStart => exact ⟨0, Nat.zero_le _, rfl, Below.refl _ _, by simp⟩
  case round =>
    obtain ⟨j, hj, rfl, hG⟩ := hrel
    have HG := hide hG
    clear hG
    by_cases hlt : j < l.length
    · have hi : (j : Int) < (l.length : Int) := by omega
      have HS := hide (tlenS_drop hlt)
      obtain ⟨b, off, rfl, hc⟩ := byte_at HB.out HG.out.1 hlt
      have hj1 := w64 (j := j) (by omega)
      have hj2 : IntKind.i64.wrap ((j : Int) + 1) = (j : Int) + 1 := wrapI (by omega) (by omega)
      generalize l.getD j 0 = y at *
      by_cases hy : y = 0
      · subst hy
        by_cases hl2 : j + 1 < l.length
        · have hlf : ((j : Int) + 1 == (l.length : Int)) = false := eqf (by omega)
          have hi2 : (j : Int) + 1 < (l.length : Int) := by omega
          obtain ⟨b', off', e', hc2⟩ := byte_at HB.out HG.out.1 hl2
          simp only [Option.some.injEq, Addr.mk.injEq, and_true] at e'
          obtain ⟨rfl, rfl⟩ := e'
          rw [headD_drop hl2] at HS
          generalize l.getD (j + 1) 0 = z at *
          by_cases hz : z = 255
          · subst hz
            have HE : Hid (tlenS l = (j + 1) + tlenS (l.drop (j + 1))) := by have h := HG.out.2; rw [HS.out, if_neg (by simp)] at h; show _ = _; omega
            go_wp2
            exact ⟨⟨j + 1, by omega, congrArg (Value.int IntKind.i64) (by omega), HG.out.1, HE.out⟩, by simp [intOf]; omega⟩
          · have hzf : ((z : Int) == 255) = false := eqf (by omega)
            have HE : Hid (tlenS l = j + 1) := by have h := HG.out.2; rw [HS.out, if_pos ⟨rfl, hz⟩] at h; exact h
            clear hz
            go_wp2
            go_ret
            exact ⟨by rw [HE.out]; first | rfl | simp, HG.out.1⟩
        · have hlf : ((j : Int) + 1 == (l.length : Int)) = true := by simp; omega
          have HE : Hid (tlenS l = j + 1) := by have h := HG.out.2; rw [HS.out, if_pos ⟨rfl, by rw [List.drop_of_length_le (by omega)]; decide⟩] at h; exact h
          go_wp2
          go_ret
          exact ⟨by rw [HE.out]; first | rfl | simp, HG.out.1⟩
      · have hyf : ((y : Int) == 0) = false := eqf (by omega)
        have HE : Hid (tlenS l = (j + 1) + tlenS (l.drop (j + 1))) := by have h := HG.out.2; rw [HS.out, if_neg (fun h => hy h.1)] at h; show _ = _; omega
        clear hy
        go_wp2
        exact ⟨⟨j + 1, by omega, congrArg (Value.int IntKind.i64) (by omega), HG.out.1, HE.out⟩, by simp [intOf]; omega⟩
    · obtain rfl : j = l.length := by omega
      have HE : Hid (tlenS l = l.length + 1) := by have h := HG.out.2; rw [List.drop_length] at h; exact h
      have hadd : IntKind.i64.wrap ((l.length : Int) + 1) = ((l.length + 1 : Nat) : Int) := by rw [wrapI (by omega) (by omega)]; omega
      go_wp2
      go_ret
      exact ⟨by rw [HE.out]; first | rfl | simp, HG.out.1⟩
theorem conv_back (W : World) (a : Option Addr) (c : Nat) (m : List Nat) (h : Bs W a m) : (convert 22 9 (.slice a m.length c)).run Try.prog W = .ok (.string (lt m)) W := by
  have key : ∀ x : Addr, (∀ j (hj : j < (m.map UInt8.ofNat).length), W.cell? (x.add j) = some (.int .u8 (((m.map UInt8.ofNat)[j]).toNat : Int))) → (convert 22 9 (.slice (some x) m.length c)).run Try.prog W = .ok (.string (lt m)) W := fun x hc => by
    have r := run_convert_bytes_back (P := Try.prog) W 22 9 5 x c (m.map UInt8.ofNat) Try.underlying22 Try.underlying5 Try.underlying9 hc
    rw [List.length_map] at r
    exact r
  rcases h.2.2 with rfl | ⟨b, off, rfl, hc⟩
  · cases a with
    | none => exact (by first | exact run_convert_bytes_nil (P := Try.prog) (w := W) 22 5 Try.underlying22 Try.underlying5 0 c 9 Try.underlying9 | exact run_convert_bytes_nil (P := Try.prog) W 22 5 Try.underlying22 Try.underlying5 0 c 9 Try.underlying9)
    | some x => exact key x fun j hj => by simp at hj
  · refine key _ fun j hj => ?_
    rw [List.length_map] at hj
    rw [Addr.add_mid, hc j hj]
    have := h.1 _ (List.getElem_mem hj)
    simp [hj]
    omega
theorem own_fresh {w wx : World} {a : Option Addr} {cap : Nat} {l : List Nat} (h : Own w wx a cap l) {x : Addr} (hx : a = some x) : w.heap.size ≤ x.block := by
  rcases h.n x hx with ⟨y, hy, _⟩ | h
  · cases hy
  · exact h
theorem unesc_step {l : List Nat} {j : Nat} (h : j < l.length) : unesc (l.drop j) = if l.getD j 0 = 0 then 0 :: unesc (l.drop (j + 2)) else l.getD j 0 :: unesc (l.drop (j + 1)) := by
  rw [List.drop_eq_getElem_cons h, unesc.eq_def]
  have e : l.getD j 0 = l[j] := getD_at l h
  rw [e]
  by_cases hz : l[j] = 0
  · simp only [hz, if_true]
    cases hd : l.drop (j + 1) with
    | nil =>
      rw [show l.drop (j + 2) = [] by rw [List.drop_eq_nil_iff] at hd ⊢; omega]
      rfl
    | cons y m =>
      rw [show l.drop (j + 2) = m by rw [show j + 2 = (j + 1) + 1 from rfl, ← List.drop_drop, hd]; rfl]
  · simp only [hz, if_false]
set_option maxHeartbeats 800000 in
theorem parseText_any (w : World) (a : Option Addr) (n cap : Nat) (l : List Nat) (hB : Bs w a l) (hl : l.length ≤ 4096) (hn : n = l.length) :
    Calls Try.prog 64 #[.slice a n cap] w fun e w' => e = .returned (.string (lt (unesc l))) ∧ Below w.heap.size w w' := by
  subst hn
  have HB := hide hB
  have HU := hide (unesc_lt l hB.1)
  clear hB
  go_enter Try.func64, Try.ntmps64
  go_wp2
  go_loopw [3, 4] (fun v i wx => ∃ (j : Nat) (m : List Nat) (aj : Option Addr) (cj : Nat), j ≤ l.length + 1 ∧ i = .int .i64 (j : Int) ∧ v = .slice aj m.length cj ∧ (Own w wx aj cj m ∧ m ++ unesc (l.drop j) = unesc l ∧ m.length ≤ j)) (fun _ i _ => l.length + 2 - (intOf i).toNat)
  case atStart => exact ⟨0, [], none, 0, Nat.zero_le _, rfl, rfl, Own.nil w (Below.refl _ _), rfl, Nat.zero_le _⟩
  case round =>
    obtain ⟨j, m, aj, cj, hj, rfl, rfl, hG⟩ := hrel
    have HG := hide hG
    clear hG
    by_cases hlt : j < l.length
    · have hi : (j : Int) < (l.length : Int) := by omega
      have HS := hide (unesc_step hlt)
      obtain ⟨b, off, rfl, hc⟩ := byte_at HB.out HG.out.1.b hlt
      have hlw := block_lt_of_cell hc
      have HM : Hid (m.length + 1 ≤ 140737488355328) := by have := HG.out.2.2; show _ ≤ _; omega
      generalize l.getD j 0 = y at *
      have HL1 : Hid ((m ++ [y]).length = m.length + 1) := by show _ = _; simp
      have HCK : Hid (∀ w2, Apd wr aj w2 (some ⟨0, 0, none⟩) 0 [] → True) := fun _ _ => trivial
      clear HCK
      have HFR : Hid (¬ At aj b) := fun h => by
        obtain ⟨x, hx, e⟩ := map_some h
        have h1 := own_fresh HG.out.1 hx
        have h2 : b < w.heap.size := by
          rcases HB.out.2.2 with h0 | ⟨b', off', e', hcc⟩
          · subst h0; simp at hlt
          · simp only [Option.some.injEq, Addr.mk.injEq, and_true] at e'
            obtain ⟨rfl, rfl⟩ := e'
            exact block_lt_of_cell (hcc j hlt)
        omega
      by_cases hy : y = 0
      · subst hy
        have HE : Hid ((m ++ [0]) ++ unesc (l.drop (j + 2)) = unesc l) := by show _ = _; rw [← HG.out.2.1, HS.out, if_pos rfl]; simp
        go_wp2_with (at_builtin; refine wpList_ap1 rfl _ _ rfl aj m.length cj m rfl rfl (HG.out.1.r.keep (al _ _)) ⟨wr.heap.size, 0, none⟩ 1 0 rfl ?c1 HM.out ?_)
        try case c1 => simp
        intro g3 cap3 w3 hR hN hg _
        have AP := Apd.ofGrown (al _ _) hR hN hg
        have hc3 := (AP.b.cell (p := ⟨b, off + j, none⟩) hlw HFR.out).trans hc
        have O3 := hide (HG.out.1.step AP)
        clear hR hN hg AP
        go_wp2
        go_roundw
        case rel => exact ⟨j + 2, m ++ [0], _, cap3, by omega, by first | rfl | go_num | (refine congrArg (Value.int IntKind.i64) ?_; unfold wrap64; omega), by rw [HL1.out], O3.out, HE.out, by rw [HL1.out]; have := HG.out.2.2; omega⟩
        case measure => simp [intOf]; omega
      · have hyf : ((y : Int) == 0) = false := eqf (by omega)
        have HE : Hid ((m ++ [y]) ++ unesc (l.drop (j + 1)) = unesc l) := by show _ = _; rw [← HG.out.2.1, HS.out, if_neg hy]; simp
        clear hy
        go_wp2_with (at_builtin; refine wpList_ap1 rfl _ _ rfl aj m.length cj m rfl rfl (HG.out.1.r.keep (al _ _)) ⟨wr.heap.size, 0, none⟩ 1 y rfl ?c2 HM.out ?_)
        try case c2 => simp
        intro g3 cap3 w3 hR hN hg _
        have AP := Apd.ofGrown (al _ _) hR hN hg
        have hc3 := (AP.b.cell (p := ⟨b, off + j, none⟩) hlw HFR.out).trans hc
        have O3 := hide (HG.out.1.step AP)
        clear hR hN hg AP
        go_wp2
        go_roundw
        case rel => exact ⟨j + 1, m ++ [y], _, cap3, by omega, by first | rfl | go_num | (refine congrArg (Value.int IntKind.i64) ?_; unfold wrap64; omega), by rw [HL1.out], O3.out, HE.out, by rw [HL1.out]; have := HG.out.2.2; omega⟩
        case measure => simp [intOf]; omega
    · have hi : ¬ (j : Int) < (l.length : Int) := by omega
      have hz := HG.out.2.1
      rw [List.drop_of_length_le (by omega)] at hz
      have hz : m = unesc l := by simpa [unesc] using hz
      have hcv := conv_back wr aj cj m (HG.out.1.r.bs (by rw [hz]; exact HU.out) (by have := HG.out.2.2; omega))
      have HZ := hide hz
      clear hz
      go_wp2
      go_ret
      exact ⟨by rw [← HZ.out]; first | done | rfl | simp, HG.out.1.b⟩
end Go.Proofs.Ythfcgfdboienkab
