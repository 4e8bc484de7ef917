import Derived.Test.YtlflcdjaknnfaabKHD
namespace Go.Proofs.Ytlflcdjaknnfaab
open Go.RowKit
open Go.ChangeMaps (setBlock)

section
variable {F : Nat → Prop} {w w' : World} {q la lc : Nat} {wa : Option Addr} {wc : Nat} {A : List (Nat × Nat)} {S : Sd}
/-- no write is left -/
theorem HkAt.forget (h : HkAt F w q la lc wa wc A S) {W : World} {S' : Sd} (hb : But (· = q) w W) (hblk : W.heap[q]? = some (.cells (hc S' la lc none 0).toArray 52 (0, 0))) (hok : S'.ok) (hn : S'.n = S.n) (hl : S'.last = S.last) (hu : S'.uns = []) : HkAt F W q la lc none 0 [] S' where
  ok := hok
  blk := hblk
  l := by unfold Sd.img; rw [hn, hl]; exact h.l.but hb (fun x hx => by cases hx; exact h.nl)
  u := by rw [hu]; exact World.ownsRow_nil _ _ _ _
  a := by rw [hu]; rfl
  r := fun j u x h1 h2 => by simp at h2
  fq := h.fq
  fl := h.fl
  fw := fun x hx => by cases hx
  lt := fun k hk => Nat.lt_of_lt_of_le (h.lt k hk) hb.size
set_option maxHeartbeats 2000000 in
theorem hsync_done (h : HkAt F w q la lc wa wc A S) (hs : S.sy + 1 ≤ 4611686018427387904) (hp : S.pow = true) (ha : S.acts = true) :
    Calls Try.prog 29 #[.pointer (some ⟨q, 0, none⟩)] w fun e w' => e = .returned (.int .i64 0) ∧ Hk F w' q S.act.synced ∧ But F w w' := by
  have c4 : w.cell? ⟨q, 2, none⟩ = some (.bool true) := by rw [← hp]; exact h.cell 2
  have H2 := hide (hact_any h)
  rw [ha] at H2
  have hs1 : S.act.sy + 1 ≤ 4611686018427387904 := by rw [Sd.act_sy]; exact hs
  have hok1 := hide h.ok.act
  generalize S.act = S1 at *
  clear h hp ha hs
  go_enter Try.func29, Try.ntmps29
  go_wp2_with fail
  go_at_call 43
  refine H2.out.mono ?_
  rintro e w1 ⟨rfl, h1⟩
  have HD1 := hide h1
  have hu1 := hok1.out.u1
  clear h1 H2 c4
  go_wp2
  go_loopw [3] (fun v wx => ∃ j : Nat, j ≤ S1.uns.length ∧ v = .int .i64 j ∧ (HkAt F wx q la lc wa wc A (S1.lays (S1.uns.take j)) ∧ But F w wx)) (fun v _ => S1.uns.length - (intOf v).toNat)
  case atStart => exact ⟨0, Nat.zero_le _, rfl, HD1.out⟩
  case round =>
    obtain ⟨j, hj, rfl, hG⟩ := hrel
    have HG := hide hG
    clear hG HD1
    have c1 : wr.cell? ⟨q, 1, none⟩ = some (.slice wa S1.uns.length wc) := HG.out.1.cell 1
    by_cases hlt : j < S1.uns.length
    · have hi : (j : Int) < (S1.uns.length : Int) := by omega
      obtain ⟨u, hu⟩ : ∃ u, S1.uns[j]? = some u := ⟨_, List.getElem?_eq_getElem hlt⟩
      obtain ⟨g, x, rfl, hx, d0, d1, hr, hxl, _⟩ := HG.out.1.row (j := j) (u := u) hu
      have huo := hok1.out.uns u (List.mem_of_getElem? hu)
      have hub := huo.2
      have hgl : g ≠ la := HG.out.1.nwl _ rfl
      have hql : q ≠ la := fun e => HG.out.1.nl e.symm
      have R := hide (hlay_any (HG.out.1.keep (drw wr)) u.1 huo.1 (some ⟨x.1, 0, none⟩) x.2 u.2 ((hr.keep (drw wr)).bs' hub.2) hub (fun y hy => by cases hy; exact hxl))
      have HE := hide (lays_take S1 hu)
      have G1 := hide (show wr.drew.cell? ⟨q, 1, none⟩ = some (.slice (some ⟨g, 0, none⟩) S1.uns.length wc) ∧ wr.drew.cell? ⟨g, j * 2, none⟩ = some (.int .i64 ((u.1 : Nat) : Int)) ∧ wr.drew.cell? ⟨g, j * 2 + 1, none⟩ = some (.slice (some ⟨x.1, 0, none⟩) 512 x.2) from ⟨c1, d0, d1⟩)
      clear hu hx hr
      go_wp2
      go_region_held3 (fun V => V.cell? ⟨q, 1, none⟩ = some (.slice (some ⟨g, 0, none⟩) S1.uns.length wc) ∧ V.cell? ⟨g, j * 2, none⟩ = some (.int .i64 ((u.1 : Nat) : Int)) ∧ V.cell? ⟨g, j * 2 + 1, none⟩ = some (.slice (some ⟨x.1, 0, none⟩) 512 x.2))
        (first | exact G1.out | exact G2.out)
        (first
          | (go_at_call 45; refine R.out.mono ?_; rintro e w3 ⟨rfl, h3, hb3⟩; have H3 := hide (And.intro h3 hb3); have G2 := hide (show w3.cell? ⟨q, 1, none⟩ = some (.slice (some ⟨g, 0, none⟩) S1.uns.length wc) ∧ w3.cell? ⟨g, j * 2, none⟩ = some (.int .i64 ((u.1 : Nat) : Int)) ∧ w3.cell? ⟨g, j * 2 + 1, none⟩ = some (.slice (some ⟨x.1, 0, none⟩) 512 x.2) from ⟨(hb3.cell (p := ⟨q, 1, none⟩) (block_lt_of_cell G1.out.1) hql).trans G1.out.1, (hb3.cell (p := ⟨g, j * 2, none⟩) (block_lt_of_cell G1.out.2.1) hgl).trans G1.out.2.1, (hb3.cell (p := ⟨g, j * 2 + 1, none⟩) (block_lt_of_cell G1.out.2.2) hgl).trans G1.out.2.2⟩); clear h3 hb3))
      go_wp2
      go_roundw
      case rel =>
        refine ⟨j + 1, by omega, by go_num, ?_, HG.out.2.drew.trans H3.out.2 (fun _ _ e => e ▸ HG.out.1.fl)⟩
        rw [HE.out]
        exact H3.out.1
      case measure => simp [intOf]; omega
    · obtain rfl : j = S1.uns.length := by omega
      have hD := HG.out.1
      rw [List.take_length] at hD
      have hwr := w64 (j := S1.sy) (by omega)
      have f1 := hD.frozen 1
      have f5 := hD.frozen 5
      have c5 : wr.cell? ⟨q, 5, none⟩ = some (.int .i64 (S1.sy : Int)) := hD.cell 5
      have HF := hide (show HkAt F ((wr.setCell ⟨q, 1, none⟩ (.slice none 0 0)).setCell ⟨q, 5, none⟩ (.int .i64 ((S1.sy : Int) + 1))) q la lc none 0 [] S1.synced from
        hD.forget ((set_but wr q 1 _).trans (set_but _ q 5 _) (fun _ _ h => h)) (by rw [set_blk (set_blk hD.blk)]; rfl) (hok1.out.synced hs1) rfl rfl rfl)
      have HB := hide (show But F w ((wr.setCell ⟨q, 1, none⟩ (.slice none 0 0)).setCell ⟨q, 5, none⟩ (.int .i64 ((S1.sy : Int) + 1))) from
        HG.out.2.trans ((set_but wr q 1 _).trans (set_but _ q 5 _) (fun _ _ h => h)) (fun _ _ e => e ▸ HG.out.1.fq))
      clear hD
      go_wp2
      go_ret
      exact ⟨rfl, ⟨_, _, _, _, _, HF.out⟩, HB.out⟩
theorem hSync_any (h : HkAt F w q la lc wa wc A S) (hs : S.sy + 1 ≤ 4611686018427387904) :
    Calls Try.prog 29 #[.pointer (some ⟨q, 0, none⟩)] w fun e w' => e = .returned (.int .i64 (S.syncE : Int)) ∧ Hk F w' q S.sync ∧ But F w w' := by
  have c4 : w.cell? ⟨q, 2, none⟩ = some (.bool S.pow) := h.cell 2
  have HE := hide (show Hk F w q S ∧ But F w w from ⟨⟨_, _, _, _, _, h⟩, But.refl _ _⟩)
  cases hp : S.pow with
  | false =>
    have e1 : S.syncE = 17 := by unfold Sd.syncE; rw [if_pos hp]
    have e2 : S.sync = S := by unfold Sd.sync; rw [if_pos hp]
    rw [hp] at c4
    rw [e1, e2]
    clear h e1 e2 hp hs
    go_enter Try.func29, Try.ntmps29
    go_wp2
    go_ret
    exact ⟨rfl, HE.out⟩
  | true =>
    cases ha : S.acts with
    | false =>
      have e1 : S.syncE = 17 := by unfold Sd.syncE; rw [if_neg (by rw [hp]; decide), if_pos ha]
      have e2 : S.sync = S.act := by unfold Sd.sync; rw [if_neg (by rw [hp]; decide), if_pos ha]
      have H2 := hide (hact_any h)
      rw [ha] at H2
      rw [hp] at c4
      rw [e1, e2]
      clear h e1 e2 hp ha hs HE
      generalize S.act = S1 at *
      go_enter Try.func29, Try.ntmps29
      go_wp2_with (go_at_call 43; refine H2.out.mono ?_; rintro e w1 ⟨rfl, h1⟩; have HD1 := hide h1; clear h1)
      go_ret
      exact ⟨rfl, ⟨_, _, _, _, _, HD1.out.1⟩, HD1.out.2⟩
    | true =>
      have e1 : S.syncE = 0 := by unfold Sd.syncE; rw [if_neg (by rw [hp]; decide), if_neg (by rw [ha]; decide)]
      have e2 : S.sync = S.act.synced := by unfold Sd.sync; rw [if_neg (by rw [hp]; decide), if_neg (by rw [ha]; decide)]
      rw [e1, e2]
      exact hsync_done h hs hp ha
set_option maxHeartbeats 2000000 in
theorem hon_done (h : HkAt F w q la lc wa wc A S) (ka : Option Addr) (kn kc : Nat) (K : List Bool) (hK : Kb w ka K) (hkn : kn = K.length) (hA : ∀ x, ka = some x → K ≠ [] → ¬ F x.block) (hp : S.pow = false) (hal : S.alm = -1) :
    Calls Try.prog 36 #[.pointer (some ⟨q, 0, none⟩), .slice ka kn kc] w fun e w' => e = .returned (.tuple #[]) ∧ Hk F w' q { (S.lays (kept S.uns K)).forget with pow := true } ∧ But F w w' := by
  subst hkn
  have c4 : w.cell? ⟨q, 2, none⟩ = some (.bool false) := by rw [← hp]; exact h.cell 2
  have hok1 := hide h.ok
  have hu1 := h.ok.u1
  have hk1 := hK.1
  have HK := hide hK
  have HD := hide h
  clear h hK
  go_enter Try.func36, Try.ntmps36
  go_wp2
  clear c4
  go_loopw [4] (fun v wx => ∃ j : Nat, j ≤ S.uns.length ∧ v = .int .i64 j ∧ (HkAt F wx q la lc wa wc A (S.lays (kept (S.uns.take j) K)) ∧ But F w wx)) (fun v _ => S.uns.length - (intOf v).toNat)
  case atStart => exact ⟨0, Nat.zero_le _, rfl, by rw [List.take_zero]; exact HD.out, But.refl _ _⟩
  case round =>
    obtain ⟨j, hj, rfl, hG⟩ := hrel
    have HG := hide hG
    clear hG HD
    have c1 : wr.cell? ⟨q, 1, none⟩ = some (.slice wa S.uns.length wc) := HG.out.1.cell 1
    by_cases hst : j < S.uns.length ∧ j < K.length
    · obtain ⟨hlt, hkl⟩ := hst
      have hi : (j : Int) < (S.uns.length : Int) := by omega
      have hi2 : (j : Int) < (K.length : Int) := by omega
      obtain ⟨u, hu⟩ : ∃ u, S.uns[j]? = some u := ⟨_, List.getElem?_eq_getElem hlt⟩
      have hE := kept_take S.uns K j u hu
      obtain ⟨kb, ko, rfl, hkc⟩ := (HK.out.but HG.out.2 (fun x hx => hA x hx (by intro e; rw [e] at hkl; simp at hkl))).at hkl
      cases hb : K.getD j false with
      | true =>
        rw [hb] at hkc hE
        obtain ⟨g, x, rfl, hx, d0, d1, hr, hxl, _⟩ := HG.out.1.row (j := j) (u := u) hu
        have huo := hok1.out.uns u (List.mem_of_getElem? hu)
        have hub := huo.2
        have hgl : g ≠ la := HG.out.1.nwl _ rfl
        have hql : q ≠ la := fun e => HG.out.1.nl e.symm
        have R := hide (hlay_any (HG.out.1.keep (drw wr)) u.1 huo.1 (some ⟨x.1, 0, none⟩) x.2 u.2 ((hr.keep (drw wr)).bs' hub.2) hub (fun y hy => by cases hy; exact hxl))
        have HE := hide (show S.lays (kept (S.uns.take (j + 1)) K) = (S.lays (kept (S.uns.take j) K)).lay u.1 u.2 by rw [hE]; exact Sd.lays_snoc _ _ _)
        have G1 := hide (show wr.drew.cell? ⟨q, 1, none⟩ = some (.slice (some ⟨g, 0, none⟩) S.uns.length wc) ∧ wr.drew.cell? ⟨g, j * 2, none⟩ = some (.int .i64 ((u.1 : Nat) : Int)) ∧ wr.drew.cell? ⟨g, j * 2 + 1, none⟩ = some (.slice (some ⟨x.1, 0, none⟩) 512 x.2) from ⟨c1, d0, d1⟩)
        clear hu hx hr hE hb
        go_wp2
        go_region_held3 (fun V => V.cell? ⟨q, 1, none⟩ = some (.slice (some ⟨g, 0, none⟩) S.uns.length wc) ∧ V.cell? ⟨g, j * 2, none⟩ = some (.int .i64 ((u.1 : Nat) : Int)) ∧ V.cell? ⟨g, j * 2 + 1, none⟩ = some (.slice (some ⟨x.1, 0, none⟩) 512 x.2))
          (first | exact G1.out | exact G2.out)
          (first
            | (go_at_call 45; refine R.out.mono ?_; rintro e w3 ⟨rfl, h3, hb3⟩; have H3 := hide (And.intro h3 hb3); have G2 := hide (show w3.cell? ⟨q, 1, none⟩ = some (.slice (some ⟨g, 0, none⟩) S.uns.length wc) ∧ w3.cell? ⟨g, j * 2, none⟩ = some (.int .i64 ((u.1 : Nat) : Int)) ∧ w3.cell? ⟨g, j * 2 + 1, none⟩ = some (.slice (some ⟨x.1, 0, none⟩) 512 x.2) from ⟨(hb3.cell (p := ⟨q, 1, none⟩) (block_lt_of_cell G1.out.1) hql).trans G1.out.1, (hb3.cell (p := ⟨g, j * 2, none⟩) (block_lt_of_cell G1.out.2.1) hgl).trans G1.out.2.1, (hb3.cell (p := ⟨g, j * 2 + 1, none⟩) (block_lt_of_cell G1.out.2.2) hgl).trans G1.out.2.2⟩); clear h3 hb3))
        go_wp2
        go_roundw
        case rel =>
          refine ⟨j + 1, by omega, by go_num, ?_, HG.out.2.drew.trans H3.out.2 (fun _ _ e => e ▸ HG.out.1.fl)⟩
          rw [HE.out]
          exact H3.out.1
        case measure => simp [intOf]; omega
      | false =>
        rw [hb] at hkc hE
        have HE := hide (show S.lays (kept (S.uns.take (j + 1)) K) = S.lays (kept (S.uns.take j) K) by rw [hE]; simp)
        clear hu hE hb
        go_wp2
        go_roundw
        case rel =>
          refine ⟨j + 1, by omega, by go_num, ?_, HG.out.2⟩
          rw [HE.out]
          exact HG.out.1
        case measure => simp [intOf]; omega
    · have hke : kept (S.uns.take j) K = kept S.uns K := by
        by_cases h1 : j < S.uns.length
        · exact kept_over _ _ _ (by omega)
        · rw [List.take_of_length_le (by omega)]
      have hD := HG.out.1
      rw [hke] at hD
      have f1 := hD.frozen 1
      have f2 := hD.frozen 2
      have f3 := hD.frozen 3
      have c2 : wr.cell? ⟨q, 2, none⟩ = some (.bool S.pow) := hD.cell 2
      have c3 : wr.cell? ⟨q, 3, none⟩ = some (.int .i64 S.alm) := hD.cell 3
      have hbb : But (· = q) wr (((wr.setCell ⟨q, 1, none⟩ (.slice none 0 0)).setCell ⟨q, 2, none⟩ (.bool true)).setCell ⟨q, 3, none⟩ (.int .i64 (-1))) :=
        ((set_but wr q 1 _).trans (set_but _ q 2 _) (fun _ _ h => h)).trans (set_but _ q 3 _) (fun _ _ h => h)
      have HF := hide (show HkAt F (((wr.setCell ⟨q, 1, none⟩ (.slice none 0 0)).setCell ⟨q, 2, none⟩ (.bool true)).setCell ⟨q, 3, none⟩ (.int .i64 (-1))) q la lc none 0 [] { (S.lays (kept S.uns K)).forget with pow := true } from
        hD.forget hbb (by rw [set_blk (set_blk (set_blk hD.blk))]; simp [hc, Sd.forget, Sd.lays, Sd.img, hal]) { hD.ok.forget with uns := by intro u hu; cases hu } rfl rfl rfl)
      have HB := hide (HG.out.2.trans hbb (fun _ _ e => e ▸ HG.out.1.fq))
      clear hD hbb hke
      by_cases h1 : j < S.uns.length
      · have hi : (j : Int) < (S.uns.length : Int) := by omega
        have hi2 : ¬ (j : Int) < (K.length : Int) := by omega
        go_wp2
        go_end0
        exact ⟨rfl, ⟨_, _, _, _, _, HF.out⟩, HB.out⟩
      · have hi : ¬ (j : Int) < (S.uns.length : Int) := by omega
        go_wp2
        go_end0
        exact ⟨rfl, ⟨_, _, _, _, _, HF.out⟩, HB.out⟩
theorem hOn_any (h : HkAt F w q la lc wa wc A S) (ka : Option Addr) (kn kc : Nat) (K : List Bool) (hK : Kb w ka K) (hkn : kn = K.length) (hA : ∀ x, ka = some x → K ≠ [] → ¬ F x.block) (hfit : S.pow = false → S.alm = -1) :
    Calls Try.prog 36 #[.pointer (some ⟨q, 0, none⟩), .slice ka kn kc] w fun e w' => e = .returned (.tuple #[]) ∧ Hk F w' q (S.on K) ∧ But F w w' := by
  cases hp : S.pow with
  | true =>
    have c4 : w.cell? ⟨q, 2, none⟩ = some (.bool true) := by rw [← hp]; exact h.cell 2
    have e2 : S.on K = S := by unfold Sd.on; rw [if_pos hp]
    have HE := hide (show Hk F w q S ∧ But F w w from ⟨⟨_, _, _, _, _, h⟩, But.refl _ _⟩)
    rw [e2]
    clear h hK hkn hA e2 hp hfit
    go_enter Try.func36, Try.ntmps36
    go_wp2
    refine bodyPost_ret (results_none rfl _ _ _) rfl ?_
    exact ⟨rfl, HE.out⟩
  | false =>
    have e2 : S.on K = { (S.lays (kept S.uns K)).forget with pow := true } := by unfold Sd.on; rw [if_neg (by rw [hp]; decide)]
    rw [e2]
    exact hon_done h ka kn kc K hK hkn hA hp (hfit hp)
set_option maxHeartbeats 1000000 in
theorem hLay_any (h : HkAt F w q la lc wa wc A S) (i : Int) (a : Option Addr) (n c : Nat) (b : List Nat) (hB : Bs w a b) (hn : n = b.length) (hA : ∀ x, a = some x → b ≠ [] → ¬ F x.block) :
    Calls Try.prog 12 #[.pointer (some ⟨q, 0, none⟩), .int .i64 i, .slice a n c] w fun e w' => e = .returned (.bool (S.layE i b)) ∧ Hk F w' q (S.layd i b) ∧ But F w w' := by
  have c4 : w.cell? ⟨q, 2, none⟩ = some (.bool S.pow) := h.cell 2
  have H1 := hide (hhas_any h i)
  have HR : S.layE i b = false → Hid (Hk F w q (S.layd i b) ∧ But F w w) := fun e => by
    have e2 : S.layd i b = S := by unfold Sd.layd; rw [if_neg (by rw [e]; decide)]
    rw [e2]
    exact hide (show Hk F w q S ∧ But F w w from ⟨⟨_, _, _, _, _, h⟩, But.refl _ _⟩)
  cases hp : S.pow with
  | true =>
    have e0 : S.layE i b = false := by unfold Sd.layE; rw [hp]; rfl
    have HR := HR e0
    rw [hp] at c4
    rw [e0]
    clear h H1 e0 hp
    go_enter Try.func12, Try.ntmps12
    go_wp2
    go_ret
    exact ⟨rfl, HR.out⟩
  | false =>
    rw [hp] at c4
    cases hh : S.has i with
    | false =>
      have e0 : S.layE i b = false := by unfold Sd.layE; rw [hp, hh]; rfl
      have HR := HR e0
      rw [hh] at H1
      rw [e0]
      clear h e0 hp hh
      go_enter Try.func12, Try.ntmps12
      go_wp2_with (go_at_call 42; refine H1.out.mono ?_; rintro e w1 ⟨rfl, e1⟩; have e1 := e1.symm; subst e1)
      go_ret
      exact ⟨rfl, HR.out⟩
    | true =>
      rw [hh] at H1
      by_cases hl : b.length = 512
      · obtain ⟨h0, hn0⟩ := Sd.has_iff.1 hh
        obtain ⟨j, rfl⟩ : ∃ j : Nat, i = (j : Int) := ⟨i.toNat, by omega⟩
        have e0 : S.layE (j : Int) b = true := by unfold Sd.layE; rw [hp, hh, decide_eq_true hl]; rfl
        have e1 : S.layd (j : Int) b = S.lay j b := by unfold Sd.layd; rw [if_pos e0]; rfl
        obtain rfl : n = 512 := by omega
        have H2 := hide (hlay_any h j (by omega) a c b hB ⟨hl, hB.1⟩ (fun x hx e => hA x hx (by intro e0; rw [e0] at hl; simp at hl) (e ▸ h.fl)))
        have hfl := h.fl
        rw [e0, e1]
        clear h e0 e1 hp hh HR hB hn h0 hn0
        go_enter Try.func12, Try.ntmps12
        go_wp2_with (first | (go_at_call 42; refine H1.out.mono ?_; rintro e w1 ⟨rfl, e1⟩; have e1 := e1.symm; subst e1) | (go_at_call 45; refine H2.out.mono ?_; rintro e w3 ⟨rfl, h3⟩; have H3 := hide h3; clear h3))
        go_ret
        exact ⟨rfl, ⟨_, _, _, _, _, H3.out.1⟩, H3.out.2.mono (fun _ _ e => e ▸ hfl)⟩
      · have e0 : S.layE i b = false := by unfold Sd.layE; rw [decide_eq_false hl, Bool.and_false]
        have HR := HR e0
        have hne : ((n : Int) == 512) = false := eqf (by omega)
        have hne2 : ¬ (n : Int) = 512 := by omega
        rw [e0]
        clear h e0 hp hh hB hn
        go_enter Try.func12, Try.ntmps12
        go_wp2_with (go_at_call 42; refine H1.out.mono ?_; rintro e w1 ⟨rfl, e1⟩; have e1 := e1.symm; subst e1)
        go_ret
        exact ⟨rfl, HR.out⟩
end
end Go.Proofs.Ytlflcdjaknnfaab
