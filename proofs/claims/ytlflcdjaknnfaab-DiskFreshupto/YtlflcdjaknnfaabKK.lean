import Derived.Test.YtlflcdjaknnfaabKG
namespace Go.Proofs.Ytlflcdjaknnfaab
open Go.RowKit
open Go.ChangeMaps (setBlock)

section
variable {F : Nat → Prop} {w : World} {p bl bn : Nat} {ua : Option Addr} {uc : Nat} {S : Sd}
theorem lays_take (S : Sd) {j : Nat} {u : Nat × List Nat} (hu : S.uns[j]? = some u) : S.lays (S.uns.take (j + 1)) = (S.lays (S.uns.take j)).lay u.1 u.2 := by
  obtain ⟨h1, h2⟩ := List.getElem?_eq_some_iff.1 hu
  rw [List.take_succ_eq_append_getElem h1, h2, Sd.lays_snoc]
set_option maxHeartbeats 2000000 in
theorem sync_done (h : DkAt F w p bl bn ua uc S) (hs : S.sy + 1 ≤ 4611686018427387904) (hp : S.pow = true) (ha : S.acts = true) :
    Calls Try.prog 28 #[.pointer (some ⟨p, 0, none⟩)] w fun e w' => e = .returned (.int .i64 0) ∧ ∃ bn', DkAt (ext F w w') w' p bl bn' none 0 S.act.synced ∧ But F w w' := by
  have c4 : w.cell? ⟨p, 4, none⟩ = some (.bool true) := by rw [← hp]; exact h.cell 4
  have H2 := hide (act_any h)
  rw [ha] at H2
  have HL0 := hide h.lt
  have hs1 : S.act.sy + 1 ≤ 4611686018427387904 := by rw [Sd.act_sy]; exact hs
  have hok1 := hide h.ok.act
  have hz := zeroWr
  generalize S.act = S1 at *
  clear h hp ha hs
  go_enter Try.func28, Try.ntmps28
  go_wp2_with fail
  go_at_call 40
  refine H2.out.mono ?_
  rintro e w1 ⟨rfl, h1⟩
  have c2 : w1.cell? ⟨p, 2, none⟩ = some (.slice ua S1.uns.length uc) := h1.1.cell 2
  have HD1 := hide h1
  have hu1 := hok1.out.u1
  clear h1
  go_wp2
  go_loopw [20] (fun i wx => ∃ j : Nat, j ≤ S1.uns.length ∧ i = .int .i64 j ∧ (DkAt F wx p bl bn ua uc (S1.lays (S1.uns.take j)) ∧ But F w wx)) (fun i _ => S1.uns.length - (intOf i).toNat)
  case atStart => exact ⟨0, Nat.zero_le _, rfl, HD1.out⟩
  case round =>
    obtain ⟨j, hj, rfl, hG⟩ := hrel
    have HG := hide hG
    clear hG
    by_cases hlt : j < S1.uns.length
    · have hi : (j : Int) < (S1.uns.length : Int) := by omega
      obtain ⟨u, hu⟩ : ∃ u, S1.uns[j]? = some u := ⟨_, List.getElem?_eq_getElem hlt⟩
      obtain ⟨g, rfl, hr, _, _, hg1, hg2, hg3⟩ := HG.out.1.row hu
      have huo := hok1.out.uns u (List.mem_of_getElem? hu)
      have hub := huo.2
      have hinfo : (Try.prog.info? 75).map (·.size) = some (wc u).length := by rw [wc_len hub]; exact (zero_of_info infoWr).2
      have hinfo2 : (Try.prog.info? 72).map (·.size) = some (vb u.2).length := by rw [vb_length, hub.1]; exact (zero_of_info infoBlk).2
      have cw : (wr.alloc (.cells (wc u).toArray 75)).cell? ⟨wr.heap.size, 0, none⟩ = some (.int .i64 ((u.1 : Nat) : Int)) := by
        rw [cell_of_row _ _ _ _ _ _ (heap_alloc_last wr _)]; rfl
      have rw1 : (wr.alloc (.cells (wc u).toArray 75)).rangeAt wr.heap.size 1 (vb u.2) := fun m v hv => by
        rw [cell_of_row _ _ _ _ _ _ (heap_alloc_last wr _), Nat.add_comm]
        simpa [wc] using hv
      have R := hide (settle_any (HG.out.1.keep (al wr (.cells (wc u).toArray 75))) u.1 huo.1 u.2 hub)
      have HE := hide (lays_take S1 hu)
      clear hu
      go_wp2_with (first | (refine wpList_load_mid rfl 75 _ rfl g (j * 513) (by simp [Act.eval]) (wc u) _ hr Try.underlying75 rfl hinfo ?_) | (refine wpList_store_row rfl 75 _ _ rfl wr.heap.size _ rfl rfl 75 zw (heap_alloc_last _ _) (sizeWr (wc_size hub)) (by rw [zw_size, wc_size hub]) (wc_all _) ?_; rw [World.setRow_alloc_new]) | (refine wpList_load_mid rfl 72 _ rfl wr.heap.size 1 (by simp [Act.eval]) (vb u.2) _ rw1 Try.underlying72 rfl hinfo2 ?_) | (go_at_call 44; refine R.out.mono ?_; rintro e w3 ⟨rfl, h3⟩; have H3 := hide h3; clear h3))
      go_roundw
      case rel =>
        refine ⟨j + 1, by omega, by go_num, ?_, (HG.out.2.alloc _).trans H3.out.2 (fun _ _ h => h)⟩
        rw [HE.out]
        exact H3.out.1
      case measure => simp [intOf]; omega
    · obtain rfl : j = S1.uns.length := by omega
      have hD := HG.out.1
      rw [List.take_length] at hD
      have R := hide (forget_any hD)
      have HL1 := hide (show ∀ k, F k → k < wr.heap.size from hD.lt)
      have hsy : (S1.lays S1.uns).forget.sy = S1.sy := rfl
      have hwr := w64 (j := S1.sy) (by omega)
      clear hD
      go_wp2_with fail
      go_at_call 51
      refine R.out.mono ?_
      rintro e w3 ⟨rfl, bn', h3, hb3⟩
      have c7 : w3.cell? ⟨p, 7, none⟩ = some (.int .i64 (S1.sy : Int)) := h3.cell 7
      have f7 := h3.frozen 7
      have hF := hide (show DkAt (ext F wr w3) (w3.setCell ⟨p, 7, none⟩ (.int .i64 ((S1.sy : Int) + 1))) p bl bn' none 0 S1.synced from
        h3.set 7 (.int .i64 ((S1.sy : Int) + 1)) S1.synced (hok1.out.synced hs1) rfl rfl rfl rfl)
      have hb4 := hide (show But F w (w3.setCell ⟨p, 7, none⟩ (.int .i64 ((S1.sy : Int) + 1))) from
        (HG.out.2.trans hb3 (fun _ _ h => h)).trans (set_but w3 p 7 _) (fun x hx e => by
          subst e
          rcases h3.fp with h | h
          · exact h
          · exact HG.out.1.fp))
      clear h3 hb3
      go_wp2
      go_ret
      refine ⟨rfl, bn', hF.out.mono (fun k hk => ?_) (ext_lt HL0.out hb4.out.size), hb4.out⟩
      rcases hk with h | h
      · exact .inl h
      · exact .inr ⟨Nat.le_trans HG.out.2.size h.1, by rw [set_size]; exact h.2⟩
set_option maxHeartbeats 1000000 in
theorem dSync_any (h : DkAt F w p bl bn ua uc S) (hs : S.sy + 1 ≤ 4611686018427387904) :
    Calls Try.prog 28 #[.pointer (some ⟨p, 0, none⟩)] w fun e w' => e = .returned (.int .i64 (S.syncE : Int)) ∧ ∃ bn' ua' uc', DkAt (ext F w w') w' p bl bn' ua' uc' S.sync ∧ But F w w' := by
  have c4 : w.cell? ⟨p, 4, none⟩ = some (.bool S.pow) := h.cell 4
  have HE := hide (show ∃ bn' ua' uc', DkAt (ext F w w) w p bl bn' ua' uc' S ∧ But F w w from ⟨_, _, _, h.mono (fun _ h => .inl h) (ext_lt h.lt (Nat.le_refl _)), But.refl _ _⟩)
  cases hp : S.pow with
  | false =>
    have e1 : S.syncE = 17 := by unfold Sd.syncE; rw [if_pos hp]
    have e2 : S.sync = S := by unfold Sd.sync; rw [if_pos hp]
    rw [e1, e2]
    rw [hp] at c4
    clear h e1 e2 hp hs
    go_enter Try.func28, Try.ntmps28
    go_wp2
    go_ret
    exact ⟨rfl, HE.out⟩
  | true =>
    rw [hp] at c4
    cases ha : S.acts with
    | false =>
      have e1 : S.syncE = 17 := by unfold Sd.syncE; rw [if_neg (by rw [hp]; decide), if_pos ha]
      have e2 : S.sync = S.act := by unfold Sd.sync; rw [if_neg (by rw [hp]; decide), if_pos ha]
      have H2 := hide (act_any h)
      have HL := hide h.lt
      rw [ha] at H2
      rw [e1, e2]
      clear h hs e1 e2 hp ha HE
      generalize S.act = S1 at *
      go_enter Try.func28, Try.ntmps28
      go_wp2_with (go_at_call 40; refine H2.out.mono ?_; rintro e w1 ⟨rfl, h1⟩; have HD1 := hide h1; clear h1)
      go_ret
      exact ⟨rfl, _, _, _, HD1.out.1.mono (fun _ h => .inl h) (ext_lt HL.out HD1.out.2.size), HD1.out.2⟩
    | true =>
      have e1 : S.syncE = 0 := by unfold Sd.syncE; rw [if_neg (by rw [hp]; decide), if_neg (by rw [ha]; decide)]
      have e2 : S.sync = S.act.synced := by unfold Sd.sync; rw [if_neg (by rw [hp]; decide), if_neg (by rw [ha]; decide)]
      rw [e1, e2]
      refine (sync_done h hs hp ha).mono ?_
      rintro e w' ⟨rfl, bn', h1⟩
      exact ⟨rfl, bn', none, 0, h1⟩
/-- bools that can be read -/
def Kb (w : World) (a : Option Addr) (K : List Bool) : Prop :=
  K.length ≤ 9223372036854775807 ∧ (K = [] ∨ ∃ b off, a = some ⟨b, off, none⟩ ∧ ∀ i, i < K.length → w.cell? ⟨b, off + i, none⟩ = some (.bool (K.getD i false)))
theorem Kb.but {T : Nat → Prop} {w w' : World} {a : Option Addr} {K : List Bool} (h : Kb w a K) (hb : But T w w') (hn : ∀ x, a = some x → ¬ T x.block) : Kb w' a K := by
  refine ⟨h.1, ?_⟩
  rcases h.2 with h3 | ⟨b, off, rfl, hc⟩
  · exact .inl h3
  · exact .inr ⟨b, off, rfl, fun i hi => (hb.cell (p := ⟨b, off + i, none⟩) (block_lt_of_cell (hc i hi)) (show ¬ T b from hn ⟨b, off, none⟩ rfl)).trans (hc i hi)⟩
theorem Kb.keep {w w' : World} {a : Option Addr} {K : List Bool} (h : Kb w a K) (hb : Below w.heap.size w w') : Kb w' a K := h.but (T := fun _ => False) (But.ofBelow hb) fun _ _ h => h
theorem Kb.at {w : World} {a : Option Addr} {K : List Bool} (h : Kb w a K) {j : Nat} (hj : j < K.length) : ∃ b off, a = some ⟨b, off, none⟩ ∧ w.cell? ⟨b, off + j, none⟩ = some (.bool (K.getD j false)) := by
  rcases h.2 with rfl | ⟨b, off, rfl, hc⟩
  · simp at hj
  · exact ⟨b, off, rfl, hc j hj⟩
theorem Kb.nil (w : World) (a : Option Addr) : Kb w a [] := ⟨by simp, .inl rfl⟩
theorem getD_over (K : List Bool) {j : Nat} (h : K.length ≤ j) : K.getD j false = false := by rw [List.getD_eq_getElem?_getD, List.getElem?_eq_none h]; rfl
set_option maxHeartbeats 2000000 in
theorem on_done (h : DkAt F w p bl bn ua uc S) (ka : Option Addr) (kn kc : Nat) (K : List Bool) (hK : Kb w ka K) (hkn : kn = K.length) (hA : ∀ x, ka = some x → ¬ F x.block) (hp : S.pow = false) :
    Calls Try.prog 35 #[.pointer (some ⟨p, 0, none⟩), .slice ka kn kc] w fun e w' => e = .returned (.tuple #[]) ∧ ∃ bn', DkAt (ext F w w') w' p bl bn' none 0 { (S.lays (kept S.uns K)).forget with pow := true } ∧ But F w w' := by
  subst hkn
  have c4 : w.cell? ⟨p, 4, none⟩ = some (.bool false) := by rw [← hp]; exact h.cell 4
  have c2 : w.cell? ⟨p, 2, none⟩ = some (.slice ua S.uns.length uc) := h.cell 2
  have HL0 := hide h.lt
  have hok1 := hide h.ok
  have hz := zeroWr
  have hu1 := h.ok.u1
  have hk1 := hK.1
  have HK := hide hK
  have HD := hide h
  clear h hK
  go_enter Try.func35, Try.ntmps35
  go_wp2
  go_loopw [15] (fun i wx => ∃ j : Nat, j ≤ S.uns.length ∧ i = .int .i64 j ∧ (DkAt F wx p bl bn ua uc (S.lays (kept (S.uns.take j) K)) ∧ But F w wx)) (fun i _ => S.uns.length - (intOf i).toNat)
  case atStart => exact ⟨0, Nat.zero_le _, rfl, by rw [List.take_zero]; exact HD.out, But.refl _ _⟩
  case round =>
    obtain ⟨j, hj, rfl, hG⟩ := hrel
    have HG := hide hG
    clear hG
    by_cases hlt : j < S.uns.length
    · have hi : (j : Int) < (S.uns.length : Int) := by omega
      obtain ⟨u, hu⟩ : ∃ u, S.uns[j]? = some u := ⟨_, List.getElem?_eq_getElem hlt⟩
      obtain ⟨g, rfl, hr, _, _, hg1, hg2, hg3⟩ := HG.out.1.row hu
      have huo := hok1.out.uns u (List.mem_of_getElem? hu)
      have hub := huo.2
      have hinfo : (Try.prog.info? 75).map (·.size) = some (wc u).length := by rw [wc_len hub]; exact (zero_of_info infoWr).2
      have hinfo2 : (Try.prog.info? 72).map (·.size) = some (vb u.2).length := by rw [vb_length, hub.1]; exact (zero_of_info infoBlk).2
      have cw : (wr.alloc (.cells (wc u).toArray 75)).cell? ⟨wr.heap.size, 0, none⟩ = some (.int .i64 ((u.1 : Nat) : Int)) := by
        rw [cell_of_row _ _ _ _ _ _ (heap_alloc_last wr _)]; rfl
      have rw1 : (wr.alloc (.cells (wc u).toArray 75)).rangeAt wr.heap.size 1 (vb u.2) := fun m v hv => by
        rw [cell_of_row _ _ _ _ _ _ (heap_alloc_last wr _), Nat.add_comm]
        simpa [wc] using hv
      have hE := kept_take S.uns K j u hu
      have hKw := (HK.out.but HG.out.2 hA).keep (al wr (.cells (wc u).toArray 75))
      by_cases hkl : j < K.length
      · have hi2 : (j : Int) < (K.length : Int) := by omega
        obtain ⟨kb, ko, rfl, hkc⟩ := hKw.at hkl
        cases hb : K.getD j false with
        | true =>
          rw [hb] at hkc hE
          have R := hide (settle_any (HG.out.1.keep (al wr (.cells (wc u).toArray 75))) u.1 huo.1 u.2 hub)
          have HE := hide (show S.lays (kept (S.uns.take (j + 1)) K) = (S.lays (kept (S.uns.take j) K)).lay u.1 u.2 by rw [hE]; exact Sd.lays_snoc _ _ _)
          clear hu hE hKw hb
          go_wp2_with (first | (refine wpList_load_mid rfl 75 _ rfl g (j * 513) (by simp [Act.eval]) (wc u) _ hr Try.underlying75 rfl hinfo ?_) | (refine wpList_store_row rfl 75 _ _ rfl wr.heap.size _ rfl rfl 75 zw (heap_alloc_last _ _) (sizeWr (wc_size hub)) (by rw [zw_size, wc_size hub]) (wc_all _) ?_; rw [World.setRow_alloc_new]) | (refine wpList_load_mid rfl 72 _ rfl wr.heap.size 1 (by simp [Act.eval]) (vb u.2) _ rw1 Try.underlying72 rfl hinfo2 ?_) | (go_at_call 44; refine R.out.mono ?_; rintro e w3 ⟨rfl, h3⟩; have H3 := hide h3; clear h3))
          go_roundw
          case rel =>
            refine ⟨j + 1, by omega, by go_num, ?_, (HG.out.2.alloc _).trans H3.out.2 (fun _ _ h => h)⟩
            rw [HE.out]
            exact H3.out.1
          case measure => simp [intOf]; omega
        | false =>
          rw [hb] at hkc hE
          have HE := hide (show S.lays (kept (S.uns.take (j + 1)) K) = S.lays (kept (S.uns.take j) K) by rw [hE]; simp)
          clear hu hE hKw hb
          go_wp2_with (first | (refine wpList_load_mid rfl 75 _ rfl g (j * 513) (by simp [Act.eval]) (wc u) _ hr Try.underlying75 rfl hinfo ?_) | (refine wpList_store_row rfl 75 _ _ rfl wr.heap.size _ rfl rfl 75 zw (heap_alloc_last _ _) (sizeWr (wc_size hub)) (by rw [zw_size, wc_size hub]) (wc_all _) ?_; rw [World.setRow_alloc_new]))
          go_roundw
          case rel =>
            refine ⟨j + 1, by omega, by go_num, ?_, HG.out.2.alloc _⟩
            rw [HE.out]
            exact HG.out.1.keep (al _ _)
          case measure => simp [intOf]; omega
      · have hi2 : ¬ (j : Int) < (K.length : Int) := by omega
        rw [getD_over K (by omega)] at hE
        have HE := hide (show S.lays (kept (S.uns.take (j + 1)) K) = S.lays (kept (S.uns.take j) K) by rw [hE]; simp)
        clear hu hE hKw
        go_wp2_with (first | (refine wpList_load_mid rfl 75 _ rfl g (j * 513) (by simp [Act.eval]) (wc u) _ hr Try.underlying75 rfl hinfo ?_) | (refine wpList_store_row rfl 75 _ _ rfl wr.heap.size _ rfl rfl 75 zw (heap_alloc_last _ _) (sizeWr (wc_size hub)) (by rw [zw_size, wc_size hub]) (wc_all _) ?_; rw [World.setRow_alloc_new]))
        go_roundw
        case rel =>
          refine ⟨j + 1, by omega, by go_num, ?_, HG.out.2.alloc _⟩
          rw [HE.out]
          exact HG.out.1.keep (al _ _)
        case measure => simp [intOf]; omega
    · obtain rfl : j = S.uns.length := by omega
      have hD := HG.out.1
      rw [List.take_length] at hD
      have R := hide (forget_any hD)
      clear hD
      go_wp2_with fail
      go_at_call 51
      refine R.out.mono ?_
      rintro e w3 ⟨rfl, bn', h3, hb3⟩
      have c7 : w3.cell? ⟨p, 4, none⟩ = some (.bool false) := by rw [← hp]; exact h3.cell 4
      have f7 := h3.frozen 4
      have hF := hide (show DkAt (ext F wr w3) (w3.setCell ⟨p, 4, none⟩ (.bool true)) p bl bn' none 0 { (S.lays (kept S.uns K)).forget with pow := true } from
        h3.set 4 (.bool true) { (S.lays (kept S.uns K)).forget with pow := true } { h3.ok with uns := h3.ok.uns } rfl rfl rfl rfl)
      have hb4 := hide (show But F w (w3.setCell ⟨p, 4, none⟩ (.bool true)) from
        (HG.out.2.trans hb3 (fun _ _ h => h)).trans (set_but w3 p 4 _) (fun x hx e => by
          subst e
          exact HG.out.1.fp))
      clear h3 hb3
      go_wp2
      go_end0
      refine ⟨rfl, bn', hF.out.mono (fun k hk => ?_) (ext_lt HL0.out hb4.out.size), hb4.out⟩
      rcases hk with h | h
      · exact .inl h
      · exact .inr ⟨Nat.le_trans HG.out.2.size h.1, by rw [set_size]; exact h.2⟩
theorem dOn_any (h : DkAt F w p bl bn ua uc S) (ka : Option Addr) (kn kc : Nat) (K : List Bool) (hK : Kb w ka K) (hkn : kn = K.length) (hA : ∀ x, ka = some x → ¬ F x.block) :
    Calls Try.prog 35 #[.pointer (some ⟨p, 0, none⟩), .slice ka kn kc] w fun e w' => e = .returned (.tuple #[]) ∧ ∃ bn' ua' uc', DkAt (ext F w w') w' p bl bn' ua' uc' (S.on K) ∧ But F w w' := by
  cases hp : S.pow with
  | true =>
    have c4 : w.cell? ⟨p, 4, none⟩ = some (.bool true) := by rw [← hp]; exact h.cell 4
    have e2 : S.on K = S := by unfold Sd.on; rw [if_pos hp]
    have HE := hide (show ∃ bn' ua' uc', DkAt (ext F w w) w p bl bn' ua' uc' S ∧ But F w w from ⟨_, _, _, h.mono (fun _ h => .inl h) (ext_lt h.lt (Nat.le_refl _)), But.refl _ _⟩)
    rw [e2]
    clear h hK hkn hA e2 hp
    go_enter Try.func35, Try.ntmps35
    go_wp2
    refine bodyPost_ret (results_none rfl _ _ _) rfl ?_
    exact ⟨rfl, HE.out⟩
  | false =>
    have e2 : S.on K = { (S.lays (kept S.uns K)).forget with pow := true } := by unfold Sd.on; rw [if_neg (by rw [hp]; decide)]
    rw [e2]
    refine (on_done h ka kn kc K hK hkn hA hp).mono ?_
    rintro e w' ⟨rfl, bn', h1⟩
    exact ⟨rfl, bn', none, 0, h1⟩
end
end Go.Proofs.Ytlflcdjaknnfaab
