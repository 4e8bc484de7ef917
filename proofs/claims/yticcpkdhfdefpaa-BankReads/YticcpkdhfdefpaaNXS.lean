import Derived.Test.YticcpkdhfdefpaaNXR
namespace Go.Proofs.Yticcpkdhfdefpaa
open Go.RowKit

theorem Ks.grown {W1 W2 : World} {s : Br} {a : Option Addr} {c : Nat} {vs : List Value} (k : Ks W1 s) (hA : Ar W1 a c vs) (hr : Rw W1 s.a s.c s.l) (hg : W1.grownBy W2 (a.map Addr.block)) : Ks W2 s :=
  k.but (S := fun k => a.map Addr.block = some k) ((But.refl _ W1).grown hg fun k hk _ => hk) fun x hx e => by
    obtain ⟨y, hy, e2⟩ := map_some e
    exact (hA.ne hr hy hx) e2
theorem deC_length (gen pages : Int) (B : List (List Nat)) : (deC gen pages B).length ≤ 65760 := by
  unfold deC
  split
  · rename_i h
    unfold deE at h
    split at h
    · cases h
    · rename_i h2
      have h3 : deA gen pages B.length = true := by simpa using h2
      unfold deA at h3
      simp only [Bool.and_eq_true, decide_eq_true_eq] at h3
      have hp := isPg_iff.1 h3.1.2
      have := deTo_length gen pages B B.length
      have hb : B.length ≤ 274 := by rw [h3.2]; unfold nbl; omega
      omega
  · simp
theorem Ai.one (w : World) (v : Value) : Ai (w.alloc (.cells #[v] 22)) (some ⟨w.heap.size, 0, none⟩) 1 [v] := Ai.mk (heap_alloc_new _ _) (by simp) (by decide) rfl rfl
theorem not8 (x : Nat) (hx : x < 256) : ∃ y : Nat, y < 256 ∧ bits BinOp.xor IntKind.u8 (if IntKind.u8.signed = true then -1 else IntKind.u8.max) (x : Int) = (y : Int) := by
  have h : ∀ x : Fin 256, ∃ y : Fin 256, bits BinOp.xor IntKind.u8 (if IntKind.u8.signed = true then -1 else IntKind.u8.max) ((x.val : Nat) : Int) = ((y.val : Nat) : Int) := by decide +kernel
  obtain ⟨y, hy⟩ := h ⟨x, hx⟩
  exact ⟨y.val, y.isLt, hy⟩
theorem getD_set_self {S : List Br} {k : Nat} {s : Br} (h : k < S.length) : (S.set k s).getD k Br0 = s := by simp [h]
theorem getD_set_ne {S : List Br} {i k : Nat} {s : Br} (h : i ≠ k) : (S.set k s).getD i Br0 = S.getD i Br0 := by
  simp [show ¬ k = i from fun e => h e.symm]
/-- what was told -/
structure Rt (wI wx : World) (a5 : Option Addr) (c5 : Nat) (a6 : Option Addr) (c6 : Nat) (D : List Int) (at' : Option Addr) (ct : Nat) (U : List Bi) : Prop where
  A : Ai wx at' ct (U.map biv)
  n : New wI none at'
  f : Fi wI wx U
  g5 : Ig wx a5 c5 D
  g6 : Ig wx a6 c6 D
  b : Below wI.heap.size wI wx
  ul : ∀ u ∈ U, u.l.length ≤ 65760
theorem Rt.keep {wI wx wy : World} {a5 a6 at' : Option Addr} {c5 c6 ct : Nat} {D : List Int} {U : List Bi} (h : Rt wI wx a5 c5 a6 c6 D at' ct U) (hb : Below wx.heap.size wx wy) : Rt wI wy a5 c5 a6 c6 D at' ct U :=
  ⟨h.A.keep hb, h.n, h.f.keep hb, h.g5.keep hb, h.g6.keep hb, bt h.b hb, h.ul⟩
theorem Rt.step {wI W W1 W2 : World} {a5 a6 at' : Option Addr} {c5 c6 ct c' g : Nat} {D : List Int} {U : List Bi} {u : Bi} {o : Obj} (h : Rt wI W a5 c5 a6 c6 D at' ct U) (hu : IOwn W W1 u.a u.c u.l) (hl : u.l.length ≤ 65760) (hR : Ai W2 (some ⟨g, 0, none⟩) c' (U.map biv ++ [biv u])) (hN : New (W1.alloc o) at' (some ⟨g, 0, none⟩)) (hg : (W1.alloc o).grownBy W2 (at'.map Addr.block)) : Rt wI W2 a5 c5 a6 c6 D (some ⟨g, 0, none⟩) c' (U ++ [u]) := by
  have hb : Below W.heap.size W (W1.alloc o) := bt hu.b (al _ _)
  have k := h.keep hb
  have hB : But (fun k => at'.map Addr.block = some k) (W1.alloc o) W2 := (But.refl _ _).grown hg fun k hk _ => hk
  have hw : Below wI.heap.size wI W2 := ((But.ofBelow (S := fun _ => False) k.b).trans hB fun x hx e => by
    obtain ⟨y, hy, e2⟩ := map_some e
    have := new_at h.n hy
    omega).below fun _ _ h => h
  have ne : ∀ {b : Option Addr} {cb : Nat} {l : List Int}, Ig (W1.alloc o) b cb l → ∀ x, b = some x → ¬ at'.map Addr.block = some x.block := fun hI x hx e => by
    obtain ⟨y, hy, e2⟩ := map_some e
    exact k.A.ne hI hy hx e2
  have f2 := (h.f.add hu h.b).keep (al W1 o)
  refine ⟨by rw [List.map_append]; exact hR, h.n.trans hN k.b.size, f2.but hB hw (fun v hv => ne (f2.own v hv).r), k.g5.but hB (ne k.g5), k.g6.but hB (ne k.g6), hw, fun v hv => ?_⟩
  rcases List.mem_append.1 hv with h1 | h1
  · exact h.ul v h1
  · rw [List.mem_singleton.1 h1]; exact hl
set_option maxRecDepth 8000 in
set_option maxHeartbeats 12800000 in
theorem bankReads_any (W : World) (n0 : Int) (_ : N64 n0) (n1 : Int) (h1 : N64 n1) (n2 : Int) (_ : N64 n2) (a : Option Addr) (c : Nat) (T : List Br) (hT : Bl W a T) (hl : T.length ≤ 5864062014634) (hs : ∀ t ∈ T, t.l.length + 64 ≤ 140737488355328) :
    Calls Try.prog 4 #[.int .i64 n0, .int .i64 n1, .int .i64 n2, .slice a T.length c] W fun e w' => e = .returned (.bool true) ∧ Below W.heap.size W w' := by
  have WK := hide (works_any W)
  have HT := hide hT
  have HS := hide hs
  have HP := hide h1.2
  clear hT hs h1
  go_enter Try.func4, Try.ntmps4
  go_wp2_with fail
  refine WK.out.mono ?_
  rintro y w1 ⟨rfl, hb1⟩
  have T1 := hide hb1
  clear hb1 WK
  go_wp2
  go_loopw [9, 10] (fun o q wx => ∃ (j : Nat) (aj : Option Addr) (cj : Nat) (S : List Br), j ≤ T.length ∧ q = .int .i64 j ∧ o = .slice aj j cj ∧ S.map Br.l = (T.take j).map Br.l ∧ Lb w1 wx aj cj S ∧ ∀ s ∈ S, Ks wx s) (fun _ q _ => T.length - (intOf q).toNat)
  case atStart => exact ⟨0, none, 0, [], Nat.zero_le _, rfl, rfl, rfl, Lb.nil w1 (Below.refl _ _), fun s h => by cases h⟩
  case round =>
    obtain ⟨j, aj, cj, S, hj, rfl, rfl, hSl, hL, hK⟩ := hrel
    have L := hide hL
    have KS := hide hK
    have SL := hide hSl
    have hslen : S.length = j := by have := congrArg List.length hSl; rw [List.length_map, List.length_map, List.length_take] at this; omega
    clear hL hK hSl
    by_cases hlt : j < T.length
    · have hlti : (j : Int) < (T.length : Int) := by omega
      obtain ⟨b1, o1, rfl, cA⟩ := (HT.out.keep (bt T1.out L.out.x.b)).c j hlt
      have hr := HT.out.r _ (Br0_mem hlt)
      have hlen := HS.out _ (Br0_mem hlt)
      have SPA := hide (Spare_any wr (T.getD j Br0).a (T.getD j Br0).l.length (T.getD j Br0).c (T.getD j Br0).l (hr.1.keep (bt T1.out L.out.x.b)) rfl (by omega))
      have H8 := hide (hr.1.1 : B8 (T.getD j Br0).l)
      have TS := hide (take_br T hlt)
      unfold bv at cA
      generalize T.getD j Br0 = t at *
      clear hr
      go_wp2_with fail
      refine SPA.out.mono ?_
      rintro y w3 ⟨rfl, hR, hb3⟩
      have R3 := hide hR
      have O3 : Hid (Own wr w3 (some ⟨wr.heap.size, 0, none⟩) (t.l.length + 64) t.l) := ⟨rowIs_rw hR rfl (by unfold maxLen; omega), newHere wr _ (Nat.le_refl _), hb3⟩
      clear hR hb3 SPA
      go_wp2_with (at_builtin; refine wpList_apRows rfl _ _ rfl aj j cj (S.map bv) ?r1 (by rw [List.length_map, hslen]) (L.out.x.r.keep (bt O3.out.b (al _ _))) ⟨w3.heap.size, 0, none⟩ 1 (.slice (some ⟨wr.heap.size, 0, none⟩) t.l.length (t.l.length + 64)) ?r2 ?r3 rfl (by rw [List.length_map]; omega) ?_)
      try case r1 => rfl
      try case r2 => rfl
      try case r3 => simp
      intro g9 c9 w9 hR hN hg
      have KA := hide (show ∀ s ∈ S ++ [⟨some ⟨wr.heap.size, 0, none⟩, t.l.length + 64, t.l⟩], Ks w9 s from fun s hs => by
        rcases List.mem_append.1 hs with h | h
        · exact (((KS.out s h).keep O3.out.b).keep (al _ _)).grown (L.out.x.r.keep (bt O3.out.b (al _ _))) (((L.out.f.own s h).1.r.keep O3.out.b).keep (al _ _)) hg
        · rw [List.mem_singleton.1 h]
          exact Ks.grown ⟨⟨_, rfl, rowIs_below R3.out (al _ _)⟩, rfl⟩ (L.out.x.r.keep (bt O3.out.b (al _ _))) (O3.out.r.keep (al _ _)) hg)
      have L2 := hide (L.out.step (t := ⟨some ⟨wr.heap.size, 0, none⟩, t.l.length + 64, t.l⟩) O3.out H8.out hR hN hg)
      clear hR hN hg
      go_wp2
      go_roundw
      case rel => exact ⟨j + 1, _, c9, _, by omega, by go_num, rfl, by rw [List.map_append, SL.out, TS.out, List.map_append]; rfl, L2.out, KA.out⟩
      case measure => simp [intOf]; omega
    · obtain rfl : j = T.length := by omega
      rw [List.take_length] at SL
      generalize wr = wI at *
      have TI := hide (bt T1.out L.out.x.b)
      have DE := hide (Decode_any wI n0 n1 aj T.length cj S L.out.bl hslen.symm HP.out)
      unfold DeQ at DE
      rw [SL.out] at DE
      have MD := hide fun (w2 : World) (hb : Below wI.heap.size wI w2) => mDecode_any w2 n0 n1 a T.length c T (HT.out.keep (bt TI.out hb)) rfl HP.out
      unfold DeQ at MD
      have hD := deC_length n0 n1 (T.map Br.l)
      have hq0 : (((deE n0 n1 (T.map Br.l) : Nat) : Int) == ((deE n0 n1 (T.map Br.l) : Nat) : Int)) = true := by simp
      generalize deE n0 n1 (T.map Br.l) = E at *
      generalize deC n0 n1 (T.map Br.l) = D at *
      go_wp2_with fail
      refine DE.out.mono ?_
      rintro y w5 ⟨a5, c5, rfl, hO⟩
      have O5 := hide hO
      clear hO DE
      go_wp2_with fail
      refine (MD.out _ O5.out.b).mono ?_
      rintro y w6 ⟨a6, c6, rfl, hO⟩
      have O6 := hide hO
      have O56 := hide O5.out.b
      have O5 := hide (O5.out.keep hO.b)
      clear hO MD
      go_wp2_with fail
      refine (EqInts_same w6 a5 a6 _ _ c5 c6 D O5.out.r.ir O6.out.r.ir rfl rfl (by omega)).mono ?_
      rintro y w7 ⟨rfl, hb7⟩
      have O5 := hide (O5.out.keep hb7)
      have O6 := hide (O6.out.keep hb7)
      clear hb7
      go_wp2
      have RT0 : Hid (Rt wI (w7.alloc (.cells #[.slice a5 D.length c5] 22)) a5 c5 a6 c6 D (some ⟨w7.heap.size, 0, none⟩) 1 [⟨a5, c5, D⟩]) :=
        ⟨Ai.one w7 _, newHere wI _ O5.out.b.size, ⟨fun u hu => by rw [List.mem_singleton.1 hu]; exact O5.out.keep (al _ _), List.pairwise_singleton _ _⟩, O5.out.r.keep (al _ _), O6.out.r.keep (al _ _), bt O5.out.b (al _ _), fun u hu => by rw [List.mem_singleton.1 hu]; exact hD⟩
      have N5 := hide O5.out.n
      have N6 := hide (O6.out.n.mono O56.out.size)
      clear O5 O6 hq0
      generalize w7.alloc (.cells #[.slice a5 D.length c5] 22) = w8 at *
      go_loopw [15, 16] (fun o q wx => ∃ (j : Nat) (ak : Option Addr) (ck : Nat) (U : List Bi), j ≤ T.length ∧ q = .int .i64 j ∧ o = .slice ak (j + 1) ck ∧ U.length = j + 1 ∧ Rt wI wx a5 c5 a6 c6 D ak ck U) (fun _ q _ => T.length - (intOf q).toNat)
      case atStart => exact ⟨0, _, 1, _, Nat.zero_le _, rfl, rfl, rfl, RT0.out⟩
      case round =>
        obtain ⟨j, ak, ck, U, hj, rfl, rfl, hU, hRt⟩ := hrel
        have RT := hide hRt
        clear hRt RT0
        by_cases hlt : j < T.length
        · have hlti : (j : Int) < (T.length : Int) := by omega
          have hjs : j < S.length := by omega
          obtain ⟨bi, oi, hai, cI⟩ := (L.out.bl.keep RT.out.b).c j hjs
          obtain ⟨b1, o1, ha1, cA⟩ := (HT.out.keep (bt TI.out RT.out.b)).c j hlt
          subst hai ha1
          have hr := HT.out.r _ (Br0_mem hlt)
          have hrs := L.out.bl.r _ (Br0_mem hjs)
          have hks := KS.out _ (Br0_mem hjs)
          have hlen := HS.out _ (Br0_mem hlt)
          have hsl : (S.getD j Br0).l = (T.getD j Br0).l := by rw [← map_getD, ← map_getD, SL.out]
          obtain ⟨z, hz⟩ : ∃ z, wrap64 (n2 + (j : Int)) = z := ⟨_, rfl⟩
          have BK := hide fun (w2 : World) (hb : Below wI.heap.size wI w2) => Block_any w2 n0 n1 z (S.getD j Br0).a (S.getD j Br0).l.length (S.getD j Br0).c (S.getD j Br0).l (hrs.1.keep hb) rfl hrs.2 HP.out
          have MB := hide fun (w2 : World) (hb : Below wI.heap.size wI w2) => mBlock_any w2 n0 n1 z (T.getD j Br0).a (T.getD j Br0).l.length (T.getD j Br0).c (T.getD j Br0).l (hr.1.keep (bt TI.out hb)) rfl hr.2 HP.out
          obtain ⟨⟨gs, hgs, hrow⟩, hcs⟩ := hks
          have KP := hide fun (w2 : World) (hb : Below wI.heap.size wI w2) => Kept_any w2 gs (S.getD j Br0).c (T.getD j Br0).a (T.getD j Br0).l.length (T.getD j Br0).l.length (T.getD j Br0).c (T.getD j Br0).l (by rw [← hsl]; exact rowIs_below hrow hb) (hr.1.keep (bt TI.out hb)) rfl rfl (by rw [hcs, hsl]) (by omega)
          unfold BkQ at BK MB
          unfold bv at cI cA
          rw [hsl] at BK cI
          rw [hgs] at BK cI
          have hCz := @bkC_length n0 n1 z (T.getD j Br0).l
          generalize bkE n0 n1 z (T.getD j Br0).l = Ez at *
          generalize bkC n0 n1 z (T.getD j Br0).l = Cz at *
          generalize (S.getD j Br0).c = sc at *
          generalize T.getD j Br0 = t at *
          clear hr hrs hrow hcs hgs hsl
          have KI := hide fun (w2 : World) (hb : Below wr.heap.size wr w2) => (hb.cell (p := ⟨bi, oi + j, none⟩) (block_lt_of_cell cI)).trans cI
          have KT := hide fun (w2 : World) (hb : Below wr.heap.size wr w2) => (hb.cell (p := ⟨b1, o1 + j, none⟩) (block_lt_of_cell cA)).trans cA
          go_wp2_with fail
          refine (BK.out _ RT.out.b).mono ?_
          rintro y w9 ⟨a9, c9, rfl, hO9⟩
          have O9 := hide hO9
          have cA := KT.out _ hO9.b
          clear hO9 BK
          go_wp2_with fail
          refine (MB.out _ (bt RT.out.b O9.out.b)).mono ?_
          rintro y w10 ⟨a10, c10, rfl, hO10⟩
          have OX := hide hO10
          have O9 := hide (O9.out.keep hO10.b)
          clear hO10 MB
          have hq9 : (((Ez : Nat) : Int) == ((Ez : Nat) : Int)) = true := by simp
          have EQ := hide fun (w2 : World) (hb : Below w10.heap.size w10 w2) => EqInts_same w2 a9 a10 Cz.length Cz.length c9 c10 Cz (O9.out.r.keep hb).ir (OX.out.r.keep hb).ir rfl rfl (by omega)
          have P0 := hide (And.intro (KI.out _ (bt O9.out.b (dr2 w10))) (And.intro (KT.out _ (bt O9.out.b (dr2 w10))) (dr2 w10)))
          go_wp2
          go_region_held3 (fun w' => w'.cell? ⟨bi, oi + j, none⟩ = some (.slice (some ⟨gs, 0, none⟩) t.l.length sc) ∧ w'.cell? ⟨b1, o1 + j, none⟩ = some (.slice t.a t.l.length t.c) ∧ Below w10.heap.size w10 w')
            (first | exact P0.out | exact ⟨KI.out _ (bt O9.out.b TB2.out), KT.out _ (bt O9.out.b TB2.out), TB2.out⟩ | exact ⟨KI.out _ (bt O9.out.b TB1.out), KT.out _ (bt O9.out.b TB1.out), TB1.out⟩)
            (first | (go_at_call 19; refine (EQ.out _ (dr2 w10)).mono ?_; rintro e w11 ⟨rfl, hb11⟩; have TB1 := hide (bt (dr2 w10) hb11)) | (go_at_call 22; refine (KP.out _ (bt RT.out.b (bt O9.out.b TB1.out))).mono ?_; rintro e w12 ⟨rfl, hb12⟩; have TB2 := hide (bt TB1.out hb12)))
          go_wp2_with (at_builtin; refine wpList_apIntL rfl _ _ rfl ak (j + 1) ck (U.map biv) ?r1 (by rw [List.length_map, hU]) ((RT.out.keep (bt O9.out.b (bt TB2.out (al _ _)))).A) ⟨w12.heap.size, 0, none⟩ 1 (.slice a9 Cz.length c9) ?r2 ?r3 rfl (by rw [List.length_map, hU]; omega) ?_)
          try case r1 => rfl
          try case r2 => rfl
          try case r3 => simp
          intro g13 c13 w13 hR hN hg
          have RT2 := hide (RT.out.step (u := ⟨a9, c9, Cz⟩) (O9.out.keep TB2.out) (by dsimp only; omega) hR hN hg)
          clear hR hN hg hz
          go_wp2
          go_roundw
          case rel => exact ⟨j + 1, _, c13, _, by omega, by go_num, rfl, by rw [List.length_append, hU]; rfl, RT2.out⟩
          case measure => simp [intOf]; omega
        · obtain rfl : j = T.length := by omega
          generalize wr = wP at *
          have LP := hide (L.out.keep RT.out.b)
          have HBL := hide (show ∀ i x, (S.getD i Br0).a = some x → w1.heap.size ≤ x.block ∧ x.block < wI.heap.size from fun i x hx => by
            by_cases hi : i < S.length
            · exact ⟨(L.out.f.own _ (Br0_mem hi)).1.fresh hx, (L.out.f.own _ (Br0_mem hi)).1.r.lt hx⟩
            · rw [show S.getD i Br0 = Br0 by simp [hi]] at hx; cases hx)
          go_wp2
          go_loopw [21] (fun q wx => ∃ (k : Nat) (S1 : List Br), k ≤ T.length ∧ q = .int .i64 k ∧ S1.length = T.length ∧ Lb w1 wx aj cj S1 ∧ But (fun b => w1.heap.size ≤ b ∧ b < wI.heap.size) wP wx ∧ (∀ i, (S1.getD i Br0).a = (S.getD i Br0).a)) (fun q _ => T.length - (intOf q).toNat)
          case atStart => exact ⟨0, S, Nat.zero_le _, rfl, hslen, LP.out, But.refl _ _, fun _ => rfl⟩
          case round =>
            obtain ⟨k, S1, hk, rfl, hS1, hL1, hB1, hA1⟩ := hrel
            have L1 := hide hL1
            have B1 := hide hB1
            have A1 := hide hA1
            clear hL1 hB1 hA1
            by_cases hlt : k < T.length
            · have hlti : (k : Int) < (T.length : Int) := by omega
              have hLN := (L1.out.f.own _ (Br0_mem (j := k) (by omega))).1.r.len_le
              go_wp2
              go_loopw [22] (fun q wx => ∃ (n : Nat) (S2 : List Br), n ≤ (S1.getD k Br0).l.length ∧ q = .int .i64 n ∧ S2.length = T.length ∧ (S2.getD k Br0).l.length = (S1.getD k Br0).l.length ∧ Lb w1 wx aj cj S2 ∧ But (fun b => w1.heap.size ≤ b ∧ b < wI.heap.size) wP wx ∧ (∀ i, (S2.getD i Br0).a = (S.getD i Br0).a)) (fun q _ => (S1.getD k Br0).l.length - (intOf q).toNat)
              case atStart => exact ⟨0, S1, Nat.zero_le _, rfl, hS1, rfl, L1.out, B1.out, A1.out⟩
              case round =>
                obtain ⟨n, S2, hn, rfl, hS2, hl2, hL2, hB2, hA2⟩ := hrel
                have L2 := hide hL2
                have B2 := hide hB2
                have A2 := hide hA2
                clear hL2 hB2 hA2
                have hk2 : k < S2.length := by omega
                obtain ⟨bi, oi, hai, cI⟩ := L2.out.bl.c k hk2
                subst hai
                unfold bv at cI
                rw [hl2] at cI
                generalize hLL : (S1.getD k Br0).l.length = LN at *
                by_cases hlt2 : n < LN
                · have hlti2 : (n : Int) < (LN : Int) := by omega
                  have ow := L2.out.f.own _ (Br0_mem hk2)
                  obtain ⟨gk, hgk, _, _⟩ := ow.1.r.addr2 (by omega)
                  have rr := ow.1.r
                  rw [hgk] at rr cI
                  have cB := rr.cell (i := n) (by omega)
                  have fB : wr.frozen? ⟨gk, n, none⟩ = false := by
                    rcases rr.cases with ⟨h1, _⟩ | ⟨g', cur, h1, hg', _⟩
                    · cases h1
                    · simp only [Option.some.injEq, Addr.mk.injEq] at h1
                      obtain ⟨rfl, _⟩ := h1
                      exact frozen_of_row _ _ _ _ _ hg'
                  have hx8 : (S2.getD k Br0).l.getD n 0 < 256 := by
                    have hm : n < (S2.getD k Br0).l.length := by omega
                    rw [getD_at _ hm]
                    exact ow.2 _ (List.getElem_mem _)
                  generalize hxx : (S2.getD k Br0).l.getD n 0 = x at *
                  clear rr ow
                  obtain ⟨y, hy8, hy⟩ := not8 x hx8
                  have LS := hide (L2.out.set (n := n) hk2 hgk hy8)
                  have HBK := hide (HBL.out k ⟨gk, 0, none⟩ (by rw [← A2.out k]; exact hgk))
                  have BS := hide (B2.out.setCell (p := ⟨gk, n, none⟩) (fun _ => HBK.out) (.int .u8 (y : Int)))
                  have HY := hide hy
                  clear hy
                  go_wp2
                  go_region
                  rw [HY.out]
                  go_wp2
                  go_roundw
                  case rel =>
                    refine ⟨n + 1, _, by omega, by go_num, by rw [List.length_set]; exact hS2, ?_, LS.out.keep (dr2 _), BS.out.drew, fun i => ?_⟩
                    · rw [getD_set_self hk2]
                      dsimp only
                      rw [List.length_set]
                      exact hl2
                    · by_cases e : i = k
                      · subst e; rw [getD_set_self hk2]; exact A2.out i
                      · rw [getD_set_ne e]; exact A2.out i
                  case measure => simp [intOf]; omega
                · obtain rfl : n = LN := by omega
                  go_wp2
                  go_roundw
                  case rel => exact ⟨k + 1, S2, by omega, by go_num, hS2, L2.out, B2.out, A2.out⟩
                  case measure => simp [intOf]; omega
            · obtain rfl : k = T.length := by omega
              have DE := hide (Decode_any wr n0 n1 aj T.length cj S1 L1.out.bl hS1.symm HP.out)
              have MD := hide fun (w2 : World) (hb : Below wr.heap.size wr w2) => mDecode_any w2 n0 n1 aj T.length cj S1 (L1.out.bl.keep hb) hS1.symm HP.out
              unfold DeQ at DE MD
              have hz : deE n0 n1 (S1.map Br.l) ≠ 0 → (deC n0 n1 (S1.map Br.l)).length = 0 := fun h => by unfold deC; rw [if_neg h]; rfl
              generalize deE n0 n1 (S1.map Br.l) = E2 at *
              generalize deC n0 n1 (S1.map Br.l) = D2 at *
              have TX : Hid (Below w1.heap.size w1 wr) := L1.out.x.b
              have RTX : Hid (Ai wr ak ck (U.map biv) ∧ Fi w1 wr U ∧ Ig wr a5 c5 D ∧ Ig wr a6 c6 D) := by
                have far : ∀ {b : Option Addr}, New wI none b → ∀ x, b = some x → ¬ (w1.heap.size ≤ x.block ∧ x.block < wI.heap.size) := fun hN x hx h => by
                  have := new_at hN hx
                  omega
                refine ⟨RT.out.A.but B1.out (far RT.out.n), ⟨fun u hu => ⟨(RT.out.f.own u hu).r.but B1.out (far (RT.out.f.own u hu).n), (RT.out.f.own u hu).n.mono L.out.x.b.size, TX.out⟩, RT.out.f.dist⟩, RT.out.g5.but B1.out (far N5.out), RT.out.g6.but B1.out (far N6.out)⟩
              go_wp2_with fail
              refine DE.out.mono ?_
              rintro y w20 ⟨a20, c20, rfl, hO20⟩
              have B20 := hide hO20.b
              clear hO20 DE
              go_wp2_with fail
              refine (MD.out _ B20.out).mono ?_
              rintro y w21 ⟨a21, c21, rfl, hO21⟩
              have B21 := hide (bt B20.out hO21.b)
              clear hO21 MD
              have hq2 : (((E2 : Nat) : Int) == ((E2 : Nat) : Int)) = true := by simp
              have EQ := hide (EqInts_same w21 a5 a6 D.length D.length c5 c6 D (RTX.out.2.2.1.keep B21.out).ir (RTX.out.2.2.2.keep B21.out).ir rfl rfl (by omega))
              have AP := hide fun (w2 : World) (hb : Below w21.heap.size w21 w2) => Fi.apart w2 w1 U ak ck ((RTX.out.2.1.keep B21.out).keep hb) (bt TX.out (bt B21.out hb)) ((RTX.out.1.keep B21.out).keep hb) (by omega) (fun u hu => by have := RT.out.ul u hu; omega)
              rw [hU] at AP
              by_cases hE0 : E2 = 0
              · subst hE0
                clear hz hq2
                go_wp2_with (first | (go_at_call 19; refine EQ.out.mono ?_; rintro y w22 ⟨rfl, hb22⟩; have B22 := hide hb22; clear hb22) | (go_at_call 23; refine (AP.out _ B22.out).mono ?_; rintro y w23 ⟨rfl, hb23⟩; have B23 := hide hb23; clear hb23))
                all_goals go_ret
                all_goals exact ⟨rfl, bt T1.out B23.out⟩
              · have hE3 : (((E2 : Nat) : Int) == 0) = false := beq_eq_false_iff_ne.2 (by omega)
                have hD3 := hz hE0
                clear hz
                rw [hD3]
                go_wp2_with (first | (go_at_call 19; refine EQ.out.mono ?_; rintro y w22 ⟨rfl, hb22⟩; have B22 := hide hb22; clear hb22) | (go_at_call 23; refine (AP.out _ B22.out).mono ?_; rintro y w23 ⟨rfl, hb23⟩; have B23 := hide hb23; clear hb23))
                all_goals go_ret
                all_goals exact ⟨rfl, bt T1.out B23.out⟩
end Go.Proofs.Yticcpkdhfdefpaa
