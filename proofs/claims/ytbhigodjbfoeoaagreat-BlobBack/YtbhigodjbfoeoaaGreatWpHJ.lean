import Derived.Test.YtbhigodjbfoeoaaGreatWpHI
namespace Go.Proofs.YtbhigodjbfoeoaaGreat
set_option linter.unusedVariables false
set_option linter.unusedSimpArgs false
open Go.RowKit
theorem Ve.fine {X X' : Vm} (h : Ve X X') (hf : Fine X.f) : Fine X'.f := by
  obtain ⟨_, L, _, u⟩ := h
  exact (u hf).1
/-- what is held while the pages are made -/
structure Sl14 (w W : World) (b pb mb : Nat) (col : Nat → Nat) (l : List Nat) (k : Nat) (S : Vs) (m : Nat) (bg mk : Nat) (S' : Vs) (nx : Int) (pc' col' : Nat → Nat) : Prop where
  s : Spo l k S m S' nx
  v : Vw W b S' pb mb pc' col'
  f : Vf w col W col'
  xv : W.heap[w.heap.size]? = some (.cells #[.pointer (some ⟨b, 0, none⟩)] 38 (0, 0))
  xe : W.heap[w.heap.size + 1]? = some (.cells #[.int .i64 0] 59 (0, 0))
  xg : W.heap[bg]? = some (.cells #[.int .i64 (mk : Int)] 3 (0, 0))
  cv : col' w.heap.size = 0
  ce : col' (w.heap.size + 1) = 0
  cg : col' bg = 0
set_option maxHeartbeats 16000000 in
set_option maxRecDepth 8000 in
theorem spread_any (w : World) (b : Nat) (S : Vs) (pb mb : Nat) (pc col : Nat → Nat) (h : Vw w b S pb mb pc col) (g off c : Nat) (l : List Nat) (hB : Bs w (some ⟨g, off, none⟩) l) (hg : col g = 0) (hgl : g < w.heap.size) (hc : l.length ≤ c) (h1 : 32 < l.length) (h2 : l.length ≤ 3840) (k : Nat) (hk : k = (l.length - 1) / 480 + 1) (hfn : Fine S.X.f) (hm1 : S.fl + S.al.length + 9 ≤ 9223372036854775807) (hm2 : S.al.length + 9 ≤ 8796093022208) (hm3 : S.X.P.mark + 9 ≤ 17592186044416) (hm4 : S.X.ch.length + 9 ≤ 1759218604441) :
    Calls Tryz.prog 54 #[.pointer (some ⟨b, 0, none⟩), .slice (some ⟨g, off, none⟩) l.length c] w fun e w' =>
      (∃ (S' : Vs) (nx : Int), e = .returned (.tuple #[.int .i64 nx, .int .i64 0]) ∧ Spo l k S k S' nx ∧ ∃ pc' col', Vw w' b S' pb mb pc' col' ∧ Vf w col w' col') ∨
      (∃ (m : Nat) (S1 : Vs) (n1 er : Int), e = .returned (.tuple #[.int .i64 0, .int .i64 er]) ∧ er ≠ 0 ∧ m < k ∧ Spo l k S m S1 n1 ∧ (S1.makeR (mkp l (k - 1 - m) n1)).2 = er ∧ ∃ pc' col', Vw w' b S pb mb pc' col' ∧ Vf w col w' col') := by
  have hmf := mkf13
  have HV := hide h
  have HFN := hide hfn
  have MK := hide (show ∀ W : World, Below w.heap.size w W → Calls Tryz.prog 79 #[.pointer (some ⟨b, 0, none⟩)] W fun e w' => e = .returned (.int .i64 ((S.fl + S.al.length : Nat) : Int)) ∧ Below W.heap.size W w' from fun W hb => by
    obtain ⟨ac, cc, aa, ca, hq⟩ := h.keep hb
    exact vMark_any W b _ _ _ _ _ hq (by show S.fl + S.al.length ≤ _; omega))
  have PGS := hide fun (W : World) => bPages_any W (l.length : Int) (by unfold N64; omega)
  rw [bpn_nat h1, ← hk] at PGS
  have U := hide (two_blk w (.cells #[.pointer (some ⟨b, 0, none⟩)] 38) (.cells #[.int .i64 0] 59))
  have HB := hide hB
  have HK := hide hk
  have hkl : 480 * (k - 1) < l.length := by omega
  have hkp : 1 ≤ k := by omega
  have hk8 : k ≤ 8 := by omega
  have CH := hide fun (W : World) (i : Nat) (hbW : Bs W (some ⟨g, off, none⟩) l) (hi : 480 * i < l.length) => bchunk_any W g off c l i hbW hc hi h2
  have HG := hide hg
  have hb0 : b < w.heap.size := by obtain ⟨aa, ca, hx⟩ := h.vx; exact hx.lb
  have Z0 := hide fun (k : Nat) (hk : w.heap.size ≤ k) => h.z hk
  have HMS := hide (And.intro hm1 (And.intro hm2 (And.intro hm3 hm4)))
  obtain ⟨mk, hmk0⟩ : ∃ mk, S.fl + S.al.length = mk := ⟨_, rfl⟩
  have HMK := hide hmk0
  rw [hmk0] at MK
  clear h hB hk hg hm1 hm2 hm3 hm4 hfn hmk0
  obtain ⟨n, hn⟩ : ∃ n, l.length = n := ⟨_, rfl⟩
  have HN := hide hn
  rw [hn]
  simp only [hn] at CH PGS
  rw [hn] at h1 h2 hkl hc
  clear hn
  go_enter_defers Tryz.func54, Tryz.ntmps54
  go_wp2_with fail
  refine (MK.out _ U.out.2.2).mono ?_
  rintro _ w3 ⟨rfl, hb⟩
  have A3 := hide (al w3 (.cells #[.int .i64 (mk : Int)] 3))
  have XG := hide (heap_alloc_new w3 (.cells #[.int .i64 (mk : Int)] 3))
  have XV := hide (blk13 U.out.1 (bt hb A3.out))
  have XE := hide (blk13 U.out.2.1 (bt hb A3.out))
  have B3 := hide (bt U.out.2.2 (bt hb A3.out))
  have hw3 : w.heap.size + 1 < w3.heap.size := (Array.getElem?_eq_some_iff.1 (blk13 U.out.2.1 hb)).1
  clear hb U MK
  go_wp2_with fail
  refine (PGS.out _).mono ?_
  rintro _ w4 ⟨rfl, hw4⟩
  rw [hw4]
  clear hw4 PGS
  have WK : Hid (IntKind.i64.wrap ((k : Int) - 1) = ((k : Int) - 1)) := wrapI (by omega) (by omega)
  go_wp2_with fail
  generalize (w3.alloc (.cells #[.int .i64 (mk : Int)] 3)) = w5 at *
  have S0 : Hid (Sl14 w w5 b pb mb col l k S 0 w3.heap.size mk S 0 pc col) := ⟨Spo.zero, HV.out.keep B3.out, Vf.keep B3.out, XV.out, XE.out, XG.out, Z0.out _ (Nat.le_refl _), Z0.out _ (by omega), Z0.out _ (by omega)⟩
  go_loopw [7, 8] (fun nv a wx => ∃ (m : Nat) (S' : Vs) (nx : Int) (pc' col' : Nat → Nat), m ≤ k ∧ nv = .int .i64 nx ∧ a = .int .i64 ((k : Int) - 1 - (m : Int)) ∧ Sl14 w wx b pb mb col l k S m w3.heap.size mk S' nx pc' col') (fun _ a _ => (intOf a + 1).toNat)
  case atStart => exact ⟨0, S, 0, pc, col, Nat.zero_le _, rfl, by first | rfl | (simp; done), S0.out⟩
  case round =>
    clear S0 XV XE B3 A3 XG
    obtain ⟨m, S', nx, pc', col', hm, rfl, rfl, hS⟩ := hrel
    have SL := hide hS
    clear hS
    by_cases hlt : m < k
    · obtain ⟨i, hi⟩ : ∃ i : Nat, (k : Int) - 1 - (m : Int) = (i : Int) := ⟨k - 1 - m, by omega⟩
      have hik : i = k - 1 - m := by omega
      have hi0 : (0 : Int) ≤ (i : Int) := by omega
      have hil : 480 * i < n := by omega
      have IK := hide hik
      have o2 : N64 nx := by have := SL.out.s.nx; unfold N64; omega
      have o3 : S'.X.P.mark + 1 ≤ 17592186044416 := by have := SL.out.s.lm; have := HMS.out.2.2.1; omega
      have o4 : S'.X.ch.length + 1 ≤ 1759218604441 := by have := SL.out.s.lc; have := HMS.out.2.2.2; omega
      have o5 : S'.al.length + 1 ≤ 8796093022208 := by have := SL.out.s.la; have := HMS.out.2.1; omega
      have BL : Hid (∀ W : World, Below wr.heap.size wr W → Bs W (some ⟨g, off, none⟩) l) := fun W hb => (HB.out.but SL.out.f.b (fun x hx _ => by cases hx; show ¬ (1 ≤ col g ∧ col g ≤ 5); have := HG.out; omega)).keep hb
      have GC : Hid (col' g = 0) := (SL.out.f.c g hgl).trans HG.out
      have MA := hide fun (W : World) (hb : Below wr.heap.size wr W) (c' : Nat) (hB : Bs W (some ⟨g, off + 480 * i, none⟩) (cnk l i)) (hc' : (cnk l i).length ≤ c') => Make_any W b S' pb mb pc' col' (SL.out.v.keep hb) ⟨3, 0, none, 0, [], some ⟨g, off + 480 * i, none⟩, c', cnk l i, nx⟩ (pf_blob hB GC.out hc' o2) ⟨Nat.le_trans (cnk_le l i) (by decide), fun x hx => (List.not_mem_nil hx).elim⟩ (Nat.zero_le _) o3 o4 o5
      have PE : Hid (∀ c', (⟨3, 0, none, 0, [], some ⟨g, off + 480 * i, none⟩, c', cnk l i, nx⟩ : Pv).pg = mkp l i nx) := fun _ => rfl
      simp only [PE.out] at MA
      unfold Pv.vl at MA
      simp only [Pv.cs, List.length_nil] at MA
      obtain ⟨er, her⟩ : ∃ er, (S'.makeR (mkp l i nx)).2 = er := ⟨_, rfl⟩
      have HER := hide her
      rw [her] at MA
      clear her
      have PO : Hid (S'.X.P.Ok) := by obtain ⟨aa, ca, hx⟩ := SL.out.v.vx; exact hx.ok
      have SS := hide fun (W : World) (hx : W.heap[w.heap.size]? = some (.cells #[.pointer (some ⟨b, 0, none⟩)] 38 (0, 0))) => (show W.cell? ⟨w.heap.size, 0, none⟩ = some (.pointer (some ⟨b, 0, none⟩)) from by rw [cell_of_row _ _ _ _ _ _ hx]; rfl)
      have DD := hide (dr2 wr)
      have XV := hide SL.out.xv
      have XE := hide SL.out.xe
      have XG := hide SL.out.xg
      have CV := hide SL.out.cv
      have CE := hide SL.out.ce
      have CG := hide SL.out.cg
      rw [hi]
      have HI := hide hi
      clear o2 o3 o4 o5 hi hik
      go_upto_region 7 with fail
      refine wp_region_noPanic ?_
      refine wp_region_held_drew (S := fun W => W.cell? ⟨w.heap.size, 0, none⟩ = some (.pointer (some ⟨b, 0, none⟩))) (by kernel_rfl) (SS.out _ XV.out) (fun hHeld => ?_)
      refine wpAnyH_take (i := 0) (v := ?vaa0) rfl (by kernel_rfl) (by kernel_rfl) (by kernel_rfl) (fun _ _ _ h => h) (Or.inl ⟨by rfl, ?hya0⟩) (by assumption) ?raa0
      case hya0 => (intro wq hSw; (try dsimp only at hSw); go_simp <;> with_reducible rfl)
      try simp only [Act.put, List.getElem_toArray, List.getElem_cons_zero, List.setIfInBounds_toArray, List.set_cons_zero, List.set_cons_succ]
      refine wpAnyH_take (i := 1) (v := ?vaa1) rfl (by kernel_rfl) (by kernel_rfl) (by kernel_rfl) (fun _ _ _ h => h) (Or.inl ⟨by rfl, ?hya1⟩) (by assumption) ?raa1
      case hya1 => (intro wq hSw; (try dsimp only at hSw); go_simp <;> with_reducible rfl)
      try simp only [Act.put, List.getElem_toArray, List.getElem_cons_zero, List.getElem_cons_succ, List.setIfInBounds_toArray, List.set_cons_zero, List.set_cons_succ]
      refine wpAnyH_take (i := 2) (v := ?vaa2) rfl (by kernel_rfl) (by kernel_rfl) (by kernel_rfl) (fun _ _ _ h => h) (Or.inl ⟨by rfl, ?hya2⟩) (by assumption) ?raa2
      case hya2 => (intro wq hSw; (try dsimp only at hSw); go_simp <;> with_reducible rfl)
      try simp only [Act.put, List.getElem_toArray, List.getElem_cons_zero, List.getElem_cons_succ, List.setIfInBounds_toArray, List.set_cons_zero, List.set_cons_succ]
      refine wpAnyH_take (i := 4) (v := ?vaa4) rfl (by kernel_rfl) (by kernel_rfl) (by kernel_rfl) (fun _ _ _ h => h) (Or.inl ⟨by rfl, ?hya4⟩) (by assumption) ?raa4
      case hya4 => (intro wq hSw; (try dsimp only at hSw); go_simp <;> with_reducible rfl)
      try simp only [Act.put, List.getElem_toArray, List.getElem_cons_zero, List.getElem_cons_succ, List.setIfInBounds_toArray, List.set_cons_zero, List.set_cons_succ]
      refine wpAnyH_ready (rs := [3]) (by kernel_rfl) (by simp) ?_
      refine AllReadyH.cons rfl (fun K hK => ?_) AllReadyH.nil
      go_simp
      refine (CH.out _ i (BL.out _ DD.out) hil).mono ?_
      rintro _ w6 ⟨c', rfl, hB6, hc6, hw6⟩
      subst hw6
      have MM := hide (MA.out _ DD.out c' hB6 hc6)
      clear hB6 hc6
      go_wp2_with fail
      refine hK.out _ _ (SS.out _ XV.out) (fun hHeld => ?_)
      clear hK K
      try simp only [Act.put, List.getElem_toArray, List.getElem_cons_zero, List.getElem_cons_succ, List.setIfInBounds_toArray, List.set_cons_zero, List.set_cons_succ]
      refine wpAnyH_take (i := 5) (v := ?vaa5) rfl (by kernel_rfl) (by kernel_rfl) (by kernel_rfl) (fun _ _ _ h => h) (Or.inl ⟨by rfl, ?hya5⟩) (by assumption) ?raa5
      case hya5 => (intro wq hSw; (try dsimp only at hSw); go_simp <;> with_reducible rfl)
      try simp only [Act.put, List.getElem_toArray, List.getElem_cons_zero, List.getElem_cons_succ, List.setIfInBounds_toArray, List.set_cons_zero, List.set_cons_succ]
      refine wpAnyH_ready (rs := [6]) (by kernel_rfl) (by simp) ?_
      refine AllReadyH.cons rfl (fun K hK => ?_) AllReadyH.nil
      go_simp
      refine MM.out.mono ?_
      rintro _ w7 ⟨q, hq, rfl, pc2, col2, v2, f2⟩
      have Q2 := hide hq
      have V2 := hide v2
      have F2 := hide ((Vf.keep DD.out).trans f2)
      have XV2 := hide (F2.out.b.same XV.out (fun e => by rw [CV.out] at e; omega))
      have XE2 := hide (F2.out.b.same XE.out (fun e => by rw [CE.out] at e; omega))
      have XG2 := hide (F2.out.b.same XG.out (fun e => by rw [CG.out] at e; omega))
      clear hq v2 f2
      go_wp2_with fail
      refine hK.out _ _ (SS.out _ XV2.out) (fun hHeld => ?_)
      clear hK K
      try simp only [Act.put, List.getElem_toArray, List.getElem_cons_zero, List.getElem_cons_succ, List.setIfInBounds_toArray, List.set_cons_zero, List.set_cons_succ]
      refine wpAnyH_take (i := 7) (v := ?vaa7) rfl (by kernel_rfl) (by kernel_rfl) (by kernel_rfl) (fun _ _ _ h => h) (Or.inl ⟨by rfl, ?hya7⟩) (by assumption) ?raa7
      case hya7 => (intro wq hSw; (try dsimp only at hSw); go_simp <;> with_reducible rfl)
      try simp only [Act.put, List.getElem_toArray, List.getElem_cons_zero, List.getElem_cons_succ, List.setIfInBounds_toArray, List.set_cons_zero, List.set_cons_succ]
      refine wpAnyH_take (i := 8) (v := ?vaa8) rfl (by kernel_rfl) (by kernel_rfl) (by kernel_rfl) (fun _ _ _ h => h) (Or.inl ⟨by rfl, ?hya8⟩) (by assumption) ?raa8
      case hya8 => (intro wq hSw; (try dsimp only at hSw); go_simp <;> with_reducible rfl)
      try simp only [Act.put, List.getElem_toArray, List.getElem_cons_zero, List.getElem_cons_succ, List.setIfInBounds_toArray, List.set_cons_zero, List.set_cons_succ]
      refine wpAnyH_take (i := 9) (v := ?vaa9) rfl (by kernel_rfl) (by kernel_rfl) (by kernel_rfl) (fun _ _ _ h => h) (Or.inl ⟨by rfl, ?hya9⟩) (by assumption) ?raa9
      case hya9 => (intro wq hSw; (try dsimp only at hSw); go_simp <;> with_reducible rfl)
      try simp only [Act.put, List.getElem_toArray, List.getElem_cons_zero, List.getElem_cons_succ, List.setIfInBounds_toArray, List.set_cons_zero, List.set_cons_succ]
      refine wpAnyH_take (i := 10) (v := ?vaa10) rfl (by kernel_rfl) (by kernel_rfl) (by kernel_rfl) (fun _ _ _ h => h) (Or.inl ⟨by rfl, ?hya10⟩) (by assumption) ?raa10
      case hya10 => (intro wq hSw; (try dsimp only at hSw); go_simp <;> with_reducible rfl)
      try simp only [Act.put, List.getElem_toArray, List.getElem_cons_zero, List.getElem_cons_succ, List.setIfInBounds_toArray, List.set_cons_zero, List.set_cons_succ]
      refine wpAnyH_ready (rs := [11]) (by kernel_rfl) (by simp) ?_
      refine AllReadyH.cons rfl (fun K hK => ?_) AllReadyH.nil
      have c0 : w7.cell? ⟨w.heap.size + 1, 0, none⟩ = some (.int .i64 0) := by rw [cell_of_row _ _ _ _ _ _ XE2.out]; rfl
      have f0 : w7.frozen? ⟨w.heap.size + 1, 0, none⟩ = false := frozen_of_row _ _ _ _ _ XE2.out
      go_simp
      have XV3 := hide ((Below.heap_setCell w7 ⟨w.heap.size + 1, 0, none⟩ (.int .i64 er) w.heap.size (show w.heap.size ≠ w.heap.size + 1 by omega)).trans XV2.out)
      have XG3 := hide ((Below.heap_setCell w7 ⟨w.heap.size + 1, 0, none⟩ (.int .i64 er) w3.heap.size (show w3.heap.size ≠ w.heap.size + 1 by omega)).trans XG2.out)
      have XE3 := hide (heap_setCell_same w7 (w.heap.size + 1) 0 _ 59 (.int .i64 er) XE2.out)
      have C2 : Hid (col2 w.heap.size = 0 ∧ col2 (w.heap.size + 1) = 0 ∧ col2 w3.heap.size = 0) := ⟨(F2.out.c _ (Array.getElem?_eq_some_iff.1 XV.out).1).trans CV.out, (F2.out.c _ (Array.getElem?_eq_some_iff.1 XE.out).1).trans CE.out, (F2.out.c _ (Array.getElem?_eq_some_iff.1 XG.out).1).trans CG.out⟩
      have NB := hide (But.cell1 w7 (w.heap.size + 1) 0 (.int .i64 er))
      have V3 := hide (V2.out.but13 NB.out (fun k hk e => hk (by rw [e]; exact C2.out.2.1)))
      have F3 : Hid (Vf w col (w7.setCell ⟨w.heap.size + 1, 0, none⟩ (.int .i64 er)) col2) := ⟨(SL.out.f.trans F2.out).b.trans NB.out (fun x hx e => by omega), (SL.out.f.trans F2.out).c⟩
      refine hK.out _ _ (SS.out _ XV3.out) (fun hHeld => ?_)
      clear hK K c0 f0
      try simp only [Act.put, List.getElem_toArray, List.getElem_cons_zero, List.getElem_cons_succ, List.setIfInBounds_toArray, List.set_cons_zero, List.set_cons_succ]
      refine wpAnyH_done (by kernel_rfl) ?_ _
      refine NoPanic.normal ?_
      clear hHeld MM NB
      generalize w7.setCell ⟨w.heap.size + 1, 0, none⟩ (.int .i64 er) = w8 at *
      have c0 : w8.cell? ⟨w.heap.size + 1, 0, none⟩ = some (.int .i64 er) := by rw [cell_of_row _ _ _ _ _ _ XE3.out]; rfl
      have f0 : w8.frozen? ⟨w.heap.size + 1, 0, none⟩ = false := frozen_of_row _ _ _ _ _ XE3.out
      by_cases he0 : er = 0
      · subst he0
        have N3 : Hid (Spo l k S (m + 1) (S'.makeS (mkp l i nx) q) (S'.makeR (mkp l i nx)).1) := by
          have := SL.out.s.step (q := q) PO.out (by rw [← IK.out]; exact Q2.out) (by rw [← IK.out, HN.out]; exact hil) (by rw [← IK.out]; exact HER.out)
          rw [← IK.out] at this
          exact this
        obtain ⟨nx2, hnx2⟩ : ∃ nx2, (S'.makeR (mkp l i nx)).1 = nx2 := ⟨_, rfl⟩
        obtain ⟨S2, hS2⟩ : ∃ S2, S'.makeS (mkp l i nx) q = S2 := ⟨_, rfl⟩
        rw [hnx2, hS2] at N3
        rw [hS2] at V3
        rw [hnx2]
        clear hnx2 hS2
        go_wp2_with fail
        go_roundw
        case rel => exact ⟨m + 1, S2, nx2, pc2, col2, by omega, rfl, by have := HI.out; first | (go_num; done) | exact congrArg (Value.int IntKind.i64) (by omega), ⟨N3.out, V3.out, F3.out, XV3.out, XE3.out, XG3.out, C2.out.1, C2.out.2.1, C2.out.2.2⟩⟩
        case measure => simp [intOf]
      · have hne : (er != 0) = true := by simpa using he0
        have SB : Hid (S'.makeS (mkp l i nx) q = S') := by
          have hc := mkp_check (l := l) (i := i) (nx := nx) (by rw [HN.out]; exact hil) SL.out.s.nx.1 SL.out.s.nx.2
          have eR : S'.X.P.alloc.1.2 = er := by have := HER.out; unfold Vs.makeR at this; rw [if_pos hc] at this; exact this
          show _ = _
          unfold Vs.makeS
          rw [if_pos hc, eR, if_neg he0]
          exact Vs.done_no he0 (Ve.pool (X := S'.X) (Pe.alloc S'.X.P)) (SL.out.s.v.fine HFN.out)
        rw [SB.out] at V3
        have HE0 := hide he0
        clear he0
        go_wp2_with fail
        refine wp_region_noPanic ?_
        go_region
        refine NoPanic.normal ?_
        have NB9 := hide (But.cell1 w8 (w.heap.size + 1) 0 (.int .i64 er))
        have D9 := hide (dr2 (w8.setCell ⟨w.heap.size + 1, 0, none⟩ (.int .i64 er)))
        have XV9 := hide (blk13 ((Below.heap_setCell w8 ⟨w.heap.size + 1, 0, none⟩ (.int .i64 er) w.heap.size (show w.heap.size ≠ w.heap.size + 1 by omega)).trans XV3.out) D9.out)
        have XG9 := hide (blk13 ((Below.heap_setCell w8 ⟨w.heap.size + 1, 0, none⟩ (.int .i64 er) w3.heap.size (show w3.heap.size ≠ w.heap.size + 1 by omega)).trans XG3.out) D9.out)
        have XE9 := hide (blk13 (heap_setCell_same w8 (w.heap.size + 1) 0 _ 59 (.int .i64 er) XE3.out) D9.out)
        have V9 := hide ((V3.out.but13 NB9.out (fun k hk e => hk (by rw [e]; exact C2.out.2.1))).keep D9.out)
        have F9 : Hid (Vf w col (w8.setCell ⟨w.heap.size + 1, 0, none⟩ (.int .i64 er)).drew col2) := (show Vf w col (w8.setCell ⟨w.heap.size + 1, 0, none⟩ (.int .i64 er)) col2 from ⟨F3.out.b.trans NB9.out (fun x hx e => by omega), F3.out.c⟩).trans (Vf.keep D9.out)
        clear c0 f0 NB9 D9
        generalize (w8.setCell ⟨w.heap.size + 1, 0, none⟩ (.int .i64 er)).drew = w9 at *
        go_wp2_with fail
        have c1 : w9.cell? ⟨w.heap.size + 1, 0, none⟩ = some (.int .i64 er) := by rw [cell_of_row _ _ _ _ _ _ XE9.out]; rfl
        have c2 : w9.cell? ⟨w.heap.size, 0, none⟩ = some (.pointer (some ⟨b, 0, none⟩)) := by rw [cell_of_row _ _ _ _ _ _ XV9.out]; rfl
        have c3 : w9.cell? ⟨w3.heap.size, 0, none⟩ = some (.int .i64 ((S.fl + S.al.length : Nat) : Int)) := by rw [cell_of_row _ _ _ _ _ _ XG9.out, HMK.out]; rfl
        refine leaves_cons (f := 89) (args := #[.pointer (some ⟨w.heap.size + 1, 0, none⟩), .pointer (some ⟨w.heap.size, 0, none⟩), .pointer (some ⟨w3.heap.size, 0, none⟩)]) (by simp) (by simp [go_sem]) ?_
        refine (spreadC_undo w9 b S' pb mb pc2 col2 V9.out S SL.out.s.v HFN.out SL.out.s.fl SL.out.s.a (by have := SL.out.s.la; have := SL.out.s.fl; have := HMS.out.1; omega) (by have := SL.out.s.lm; have := HMS.out.2.2.1; omega) er HE0.out _ _ _ c1 c2 c3).mono ?_
        rintro e u' w10 ⟨rfl, rfl, pc3, col3, hV10, hF10⟩
        simp only [settle]
        have XE10 := hF10.b.same XE9.out (fun e => by rw [C2.out.2.1] at e; omega)
        have c10 : w10.cell? ⟨w.heap.size + 1, 0, none⟩ = some (.int .i64 er) := by rw [cell_of_row _ _ _ _ _ _ XE10]; rfl
        exact ⟨_, results_tc _ _ ⟨w.heap.size + 1, 0, none⟩ er rfl c10, .inr ⟨m, S', nx, er, rfl, HE0.out, hlt, SL.out.s, by rw [← IK.out]; exact HER.out, pc3, col3, hV10, F9.out.trans hF10⟩⟩
    · obtain rfl : m = k := by omega
      have e1 : (m : Int) - 1 - (m : Int) = -1 := by omega
      rw [e1]
      clear e1
      have c0 : wr.cell? ⟨w.heap.size + 1, 0, none⟩ = some (.int .i64 0) := by rw [cell_of_row _ _ _ _ _ _ SL.out.xe]; rfl
      have f0 : wr.frozen? ⟨w.heap.size + 1, 0, none⟩ = false := frozen_of_row _ _ _ _ _ SL.out.xe
      have XE3 := hide (heap_setCell_same wr (w.heap.size + 1) 0 _ 59 (.int .i64 0) SL.out.xe)
      have NB := hide (But.cell1 wr (w.heap.size + 1) 0 (.int .i64 0))
      have V3 := hide (SL.out.v.but13 NB.out (fun k hk e => hk (by rw [e]; exact SL.out.ce)))
      have F3 : Hid (Vf w col (wr.setCell ⟨w.heap.size + 1, 0, none⟩ (.int .i64 0)) col') := ⟨SL.out.f.b.trans NB.out (fun x hx e => by omega), SL.out.f.c⟩
      have SP := hide SL.out.s
      clear SL NB CH
      go_wp2_with fail
      generalize wr.setCell ⟨w.heap.size + 1, 0, none⟩ (.int .i64 0) = w8 at *
      have c8 : w8.cell? ⟨w.heap.size + 1, 0, none⟩ = some (.int .i64 0) := by rw [cell_of_row _ _ _ _ _ _ XE3.out]; rfl
      refine leaves_cons (f := 89) (args := #[.pointer (some ⟨w.heap.size + 1, 0, none⟩), .pointer (some ⟨w.heap.size, 0, none⟩), .pointer (some ⟨w3.heap.size, 0, none⟩)]) (by simp) (by simp [go_sem]) ?_
      refine (spreadC_idle w8 _ _ _ c8).mono ?_
      rintro e u' w9 ⟨rfl, rfl, rfl⟩
      simp only [settle]
      exact ⟨_, results_tc _ _ ⟨w.heap.size + 1, 0, none⟩ 0 rfl c8, .inl ⟨S', nx, rfl, SP.out, pc', col', V3.out, F3.out⟩⟩
end Go.Proofs.YtbhigodjbfoeoaaGreat
