import Derived.Test.YtceeeofkigkpkaaGreatEBIX
import Derived.Deep.CutRange
namespace Go.Proofs.YtceeeofkigkpkaaGreat
set_option linter.unusedVariables false
set_option linter.unusedSimpArgs false
open Go.RowKit

/-! ### PoolAnswers -/
theorem Ai.neB {W : World} {a : Option Addr} {c h : Nat} {vs : List Value} {cs : Array Value} (H : Ai W a c vs) (hh : W.heap[h]? = some (.cells cs 34 (0, 0))) {x : Addr} (hx : a = some x) : h ≠ x.block := by
  rcases H.cases with ⟨h0, _⟩ | ⟨g, cur, h0, hg, _⟩
  · rw [h0] at hx; cases hx
  · rw [h0] at hx
    cases hx
    intro e
    have e : h = g := e
    rw [e, hg] at hh
    simp at hh
theorem Two.rl {w w' : World} {b q : Nat} {r : Int} {C : List Int} {col : Nat → Nat} {cb lb : Nat} (h : Two w w' b q r C col cb lb) : Rl w' q (Po.start r C) (fun k => k = q ∨ k = cb ∨ k = lb) := by
  refine ⟨⟨cb, lb, none, 0, [], ⟨?_, ?_, ?_, Gw.nil _ _ _, rfl, ?_, h.rp.d1, h.rp.d2, h.rp.d3, (fun x hx => by cases hx)⟩, .inl rfl, .inr (.inl rfl), .inr (.inr rfl), (fun x hx => by cases hx)⟩, h.np.p.ok, ?_⟩
  · rw [start_len]; exact h.rp.box
  · rw [start_counts]; exact h.rp.cnt
  · have e : (Po.start r C).pg.map Prod.snd = lasOf C := by
      show (pgOf C).map Prod.snd = _
      unfold pgOf lasOf
      rw [List.map_map]
      rfl
    rw [e]; exact h.rp.las
  · exact trivial
  · rintro k (rfl | rfl | rfl)
    · exact (Array.getElem?_eq_some_iff.1 h.rp.box).1
    · exact (Array.getElem?_eq_some_iff.1 h.rp.cnt).1
    · exact (Array.getElem?_eq_some_iff.1 h.rp.las).1
theorem Zs.start {w W : World} {b q : Nat} {r : Int} {C : List Int} {col : Nat → Nat} {cb lb : Nat} (h : Two w W b q r C col cb lb) :
    Zs w ((W.alloc (.cells #[] 22)).alloc (.cells #[] 22)) b q (Po.start r C) (Po.start r C) col (fun k => k = q ∨ k = cb ∨ k = lb) (fun _ => False) none 0 [] (some ⟨W.heap.size, 0, none⟩) 0 [] (some ⟨W.heap.size + 1, 0, none⟩) 0 [] := by
  have aw := bt (al W (.cells #[] 22)) (al _ (.cells #[] 22))
  have c1 := World.alloc_heap_new W (.cells #[] 22)
  have c2 := World.alloc_heap_new (W.alloc (.cells #[] 22)) (.cells #[] 22)
  rw [size_alloc] at c2
  have hs := h.np.b.size
  have lt := h.rl.lt
  refine ⟨h.np.keep aw, h.rl.keep aw, ?_, Ig.nil _, (fun x hx => by cases hx), Ai.mk (cur := #[]) (((al _ _).block _ (Array.getElem?_eq_some_iff.1 c1).1).trans c1) (by simp) (by unfold maxLen; omega) rfl (by simp), ?_, Ai.mk (cur := #[]) c2 (by simp) (by unfold maxLen; omega) rfl (by simp), ?_, (fun x y hx hy => by cases hx; cases hy; show W.heap.size ≠ W.heap.size + 1; omega), ⟨fun u hu => (List.not_mem_nil hu).elim, List.Pairwise.nil⟩, fun v hv => (List.not_mem_nil hv).elim, fun u hu => (List.not_mem_nil hu).elim, fun v hv => (List.not_mem_nil hv).elim, fun _ h => h.elim, rfl, by simp, fun u hu => (List.not_mem_nil hu).elim⟩
  · rintro k (rfl | rfl | rfl)
    · exact ⟨h.n1, h.d1⟩
    · exact ⟨h.n2, h.d2⟩
    · exact ⟨h.n3, h.d3⟩
  · intro x hx
    cases hx
    exact ⟨hs, h.np.away (Nat.le_refl _), fun e => by have := lt _ e; have this : W.heap.size < W.heap.size := this; omega, fun e => e⟩
  · intro x hx
    cases hx
    exact ⟨Nat.le_succ_of_le hs, h.np.away (Nat.le_succ _), fun e => by have := lt _ e; have this : W.heap.size + 1 < W.heap.size := this; omega, fun e => e⟩
set_option maxHeartbeats 64000000 in
set_option maxRecDepth 32000 in
theorem poolAnswers_any (w : World) (l : Bool) (n r : Int) (a : Option Addr) (cap : Nat) (C : List Int) (hC : Ir w a C) (hN : C.length ≤ 17592186043904) (aF : Option Addr) (cF : Nat) (T : List Ov) (hT : Oq w aF T) (hTl : T.length ≤ 5864062014805) :
    Calls Tryz.prog 3 #[.agg #[.bool l, .int .i64 n, .int .i64 r, .slice a C.length cap], .slice aF T.length cF] w fun e w' => e = .returned (.bool true) ∧ Below w.heap.size w w' := by
  have aw := al w (.cells #[.bool l, .int .i64 n, .int .i64 r, .slice a C.length cap] 24)
  have FX := hide (fixed_any (w.alloc (.cells #[.bool l, .int .i64 n, .int .i64 r, .slice a C.length cap] 24)))
  have bx := World.alloc_heap_new w (.cells #[.bool l, .int .i64 n, .int .i64 r, .slice a C.length cap] 24)
  have BX := hide (show ∀ W, Below (w.alloc (.cells #[.bool l, .int .i64 n, .int .i64 r, .slice a C.length cap] 24)).heap.size (w.alloc (.cells #[.bool l, .int .i64 n, .int .i64 r, .slice a C.length cap] 24)) W → W.cell? ⟨w.heap.size, 0, none⟩ = some (.bool l) ∧ W.cell? ⟨w.heap.size, 1, none⟩ = some (.int .i64 n) ∧ W.cell? ⟨w.heap.size, 2, none⟩ = some (.int .i64 r) ∧ W.cell? ⟨w.heap.size, 3, none⟩ = some (.slice a C.length cap) from fun W hb => by
    have h := (hb.block w.heap.size (Array.getElem?_eq_some_iff.1 bx).1).trans bx
    rw [cell_of_row _ _ _ _ _ _ h, cell_of_row _ _ _ _ _ _ h, cell_of_row _ _ _ _ _ _ h, cell_of_row _ _ _ _ _ _ h]
    exact ⟨rfl, rfl, rfl, rfl⟩)
  have MD := hide fun (W : World) (hb : Below w.heap.size w W) => made_any W l n r a C.length cap C (hC.keep hb) rfl (by omega)
  have HT := hide hT
  have AW := hide aw
  obtain ⟨m, hm⟩ : ∃ m, T.length = m := ⟨_, rfl⟩
  have HM := hide hm
  rw [hm] at hTl ⊢
  generalize C.length = k at *
  clear aw bx hC hT hm
  go_enter Tryz.func3, Tryz.ntmps3
  go_wp2_with fail
  generalize w.alloc (.cells #[.bool l, .int .i64 n, .int .i64 r, .slice a k cap] 24) = W0 at *
  refine FX.out.mono ?_
  rintro _ w1 ⟨rfl, hb⟩
  obtain ⟨x0, x1, x2, x3⟩ := BX.out _ hb
  have B1 := hide (bt AW.out hb)
  clear hb FX BX
  go_wp2_with fail
  refine (MD.out _ B1.out).mono ?_
  rintro e w2 (⟨-, rfl, hb2⟩ | ⟨-, b, q, col, cb, lb, rfl, hT2⟩)
  · have B2 := hide (bt B1.out hb2)
    clear hb2 MD x0 x1 x2 x3
    go_wp2
    go_ret
    exact ⟨rfl, B2.out⟩
  have TT : Hid (Two w w2 b q r (cnB l n C) col cb lb) := ⟨⟨hT2.np.p, bt B1.out hT2.np.b, fun k hk => by have := hT2.np.n k hk; have := B1.out.size; omega⟩, hT2.rp, hT2.d1, hT2.d2, hT2.d3, by have := hT2.n1; have := B1.out.size; omega, by have := hT2.n2; have := B1.out.size; omega, by have := hT2.n3; have := B1.out.size; omega⟩
  have ZS := hide (Zs.start TT.out)
  clear hT2 MD x0 x1 x2 x3 TT
  obtain ⟨P0, hP0⟩ : ∃ P0, Po.start r (cnB l n C) = P0 := ⟨_, rfl⟩
  have M0 : P0.mark = 0 := by rw [← hP0]; rfl
  rw [hP0] at ZS
  clear hP0
  go_wp2_with fail
  generalize (fun k => k = q ∨ k = cb ∨ k = lb) = F0 at *
  generalize (w2.alloc (.cells #[] 22)).alloc (.cells #[] 22) = W3 at *
  go_loopw [8, 9, 10, 11] (fun s8 s9 s10 i wr => ∃ (j : Nat) (P : Po) (col : Nat → Nat) (F E : Nat → Prop) (am : Option Addr) (cm : Nat) (M : List Int) (ak : Option Addr) (ck : Nat) (U : List Bi) (aw : Option Addr) (cw : Nat) (V : List Bi), j ≤ m ∧ i = .int .i64 (j : Int) ∧ s8 = .slice am M.length cm ∧ s9 = .slice ak U.length ck ∧ s10 = .slice aw V.length cw ∧ Zs w wr b q P P col F E am cm M ak ck U aw cw V ∧ P.mark ≤ j ∧ M.length ≤ j) (fun _ _ _ i _ => m - (intOf i).toNat)
  case atStart => exact ⟨0, P0, col, F0, fun _ => False, none, 0, [], _, 0, [], _, 0, [], Nat.zero_le _, rfl, rfl, rfl, rfl, ZS.out, by omega, by simp⟩
  case round =>
  clear ZS M0
  obtain ⟨j, P, col, F, E, am, cm, M, ak, ck, U, aw, cw, V, hj, rfl, rfl, rfl, rfl, hZ, hmk, hml⟩ := hrel
  have ZB := hide hZ
  clear hZ
  by_cases hlt : j < m
  · have hjl : j < T.length := by rw [HM.out]; exact hlt
    obtain ⟨b1, o1, rfl, t0, t1, t2⟩ := HT.out.at hjl
    obtain ⟨ov, hov⟩ : ∃ ov, T.getD j Ov.zero = ov := ⟨_, rfl⟩
    rw [hov] at t0 t1 t2
    obtain ⟨k0, k1, k2⟩ := ov
    simp only at t0 t1 t2
    clear hov
    have SK : Hid (∀ W : World, Below w.heap.size w W → W.cell? ⟨b1, o1 + j * 3, none⟩ = some (.int .i64 k0) ∧ W.cell? ⟨b1, o1 + j * 3 + 1, none⟩ = some (.int .i64 k1) ∧ W.cell? ⟨b1, o1 + j * 3 + 2, none⟩ = some (.int .i64 k2)) := fun W hb => ⟨(hb.cell (p := ⟨b1, o1 + j * 3, none⟩) (block_lt_of_cell t0)).trans t0, (hb.cell (p := ⟨b1, o1 + j * 3 + 1, none⟩) (block_lt_of_cell t1)).trans t1, (hb.cell (p := ⟨b1, o1 + j * 3 + 2, none⟩) (block_lt_of_cell t2)).trans t2⟩
    have LO := hide ZB.out.lo
    have WB := hide ZB.out.np.b.size
    obtain ⟨nm, hnm⟩ : ∃ nm, M.length = nm := ⟨_, rfl⟩
    have AC := hide fun (W : World) (hP : Pl W b P col) (hM : Ir W am M) => askM_any W b P col hP (by omega) am nm cm M hM hnm.symm (by omega) (k0, k1, k2)
    have TC := hide fun (W : World) (F : Nat → Prop) (hR : Rl W q P F) (hM : Ir W am M) => told_any W q P F hR (by omega) am nm cm M hM hnm.symm (by omega) (k0, k1, k2)
    have HL := hide (askM_len ZB.out.np.p.ok M (k0, k1, k2))
    have HMK : Hid ((P.askM M (k0, k1, k2)).2.mark ≤ j + 1) := by show _ ≤ _; have := askM_mark P M (k0, k1, k2); omega
    have HNM := hide hnm
    rw [hnm] at hml ⊢
    unfold AskM at AC
    unfold Told at TC
    obtain ⟨A, hA⟩ : ∃ A, (P.askM M (k0, k1, k2)).1 = A := ⟨_, rfl⟩
    obtain ⟨P2, hP2⟩ : ∃ P2, (P.askM M (k0, k1, k2)).2 = P2 := ⟨_, rfl⟩
    rw [hP2] at HMK
    rw [hA] at HL
    simp only [hA, hP2] at AC TC
    obtain ⟨an, ann, ais, al1, ae⟩ := A
    simp only at AC TC HL
    have hji : (j : Int) < (m : Int) := by omega
    clear hA hP2 hnm t0 t1 t2 hmk
    obtain ⟨nk, hnk⟩ : ∃ nk, U.length = nk := ⟨_, rfl⟩
    have HNK := hide hnk
    rw [hnk]
    obtain ⟨nv, hnv⟩ : ∃ nv, V.length = nv := ⟨_, rfl⟩
    have HNV := hide hnv
    rw [hnv]
    clear hnk hnv
    go_wp2_with fail
    go_cut [12, 13] from 38 to 51 (fun p12 p13 wx => ∃ (g12 g13 : Nat) (a1 a2 : Option Addr) (d1 d2 : Nat) (col2 : Nat → Nat) (F2 : Nat → Prop), p12 = .pointer (some ⟨g12, 0, none⟩) ∧ p13 = .pointer (some ⟨g13, 0, none⟩) ∧ Qz w wr wx b q P2 col2 F2 E am cm M ak ck U aw cw V ⟨an, ann, ais, al1, ae⟩ g12 g13 a1 d1 a2 d2)
    case first =>
      as_aux_lemma =>
      refine wp_region_held_drew (S := fun W => W.cell? ⟨b1, o1 + j * 3, none⟩ = some (.int .i64 k0) ∧ W.cell? ⟨b1, o1 + j * 3 + 1, none⟩ = some (.int .i64 k1) ∧ W.cell? ⟨b1, o1 + j * 3 + 2, none⟩ = some (.int .i64 k2)) (by kernel_rfl) (SK.out _ (bt ZB.out.np.b (drw _))) (fun hHeld => ?_)
      refine wpAnyH_take (i := 0) (v := ?var0) rfl (by kernel_rfl) (by kernel_rfl) (by kernel_rfl) (fun _ _ _ h => h) (Or.inl ⟨by rfl, ?hyr0⟩) (by assumption) ?rar0
      case hyr0 => (intro wq hSw; (try dsimp only at hSw); obtain ⟨e0, e1, e2⟩ := hSw; go_simp <;> with_reducible rfl)
      try simp only [Act.put, List.getElem_toArray, List.getElem_cons_zero, List.setIfInBounds_toArray, List.set_cons_zero, List.set_cons_succ]
      refine wpAnyH_take (i := 1) (v := ?var1) rfl (by kernel_rfl) (by kernel_rfl) (by kernel_rfl) (fun _ _ _ h => h) (Or.inl ⟨by rfl, ?hyr1⟩) (by assumption) ?rar1
      case hyr1 => (intro wq hSw; (try dsimp only at hSw); obtain ⟨e0, e1, e2⟩ := hSw; go_simp <;> with_reducible rfl)
      try simp only [Act.put, List.getElem_toArray, List.getElem_cons_zero, List.getElem_cons_succ, List.setIfInBounds_toArray, List.set_cons_zero, List.set_cons_succ]
      refine wpAnyH_take (i := 2) (v := ?var2) rfl (by kernel_rfl) (by kernel_rfl) (by kernel_rfl) (fun _ _ _ h => h) (Or.inl ⟨by rfl, ?hyr2⟩) (by assumption) ?rar2
      case hyr2 => (intro wq hSw; (try dsimp only at hSw); obtain ⟨e0, e1, e2⟩ := hSw; go_simp <;> with_reducible rfl)
      try simp only [Act.put, List.getElem_toArray, List.getElem_cons_zero, List.getElem_cons_succ, List.setIfInBounds_toArray, List.set_cons_zero, List.set_cons_succ]
      refine wpAnyH_take (i := 3) (v := ?var3) rfl (by kernel_rfl) (by kernel_rfl) (by kernel_rfl) (fun _ _ _ h => h) (Or.inl ⟨by rfl, ?hyr3⟩) (by assumption) ?rar3
      case hyr3 => (intro wq hSw; (try dsimp only at hSw); obtain ⟨e0, e1, e2⟩ := hSw; go_simp <;> with_reducible rfl)
      try simp only [Act.put, List.getElem_toArray, List.getElem_cons_zero, List.getElem_cons_succ, List.setIfInBounds_toArray, List.set_cons_zero, List.set_cons_succ]
      refine wpAnyH_take (i := 4) (v := ?var4) rfl (by kernel_rfl) (by kernel_rfl) (by kernel_rfl) (fun _ _ _ h => h) (Or.inl ⟨by rfl, ?hyr4⟩) (by assumption) ?rar4
      case hyr4 => (intro wq hSw; (try dsimp only at hSw); obtain ⟨e0, e1, e2⟩ := hSw; go_simp <;> with_reducible rfl)
      try simp only [Act.put, List.getElem_toArray, List.getElem_cons_zero, List.getElem_cons_succ, List.setIfInBounds_toArray, List.set_cons_zero, List.set_cons_succ]
      refine wpAnyH_take (i := 5) (v := ?var5) rfl (by kernel_rfl) (by kernel_rfl) (by kernel_rfl) (fun _ _ _ h => h) (Or.inl ⟨by rfl, ?hyr5⟩) (by assumption) ?rar5
      case hyr5 => (intro wq hSw; (try dsimp only at hSw); obtain ⟨e0, e1, e2⟩ := hSw; go_simp <;> with_reducible rfl)
      try simp only [Act.put, List.getElem_toArray, List.getElem_cons_zero, List.getElem_cons_succ, List.setIfInBounds_toArray, List.set_cons_zero, List.set_cons_succ]
      refine wpAnyH_take (i := 7) (v := ?var7) rfl (by kernel_rfl) (by kernel_rfl) (by kernel_rfl) (fun _ _ _ h => h) (Or.inl ⟨by rfl, ?hyr7⟩) (by assumption) ?rar7
      case hyr7 => (intro wq hSw; (try dsimp only at hSw); obtain ⟨e0, e1, e2⟩ := hSw; go_simp <;> with_reducible rfl)
      try simp only [Act.put, List.getElem_toArray, List.getElem_cons_zero, List.getElem_cons_succ, List.setIfInBounds_toArray, List.set_cons_zero, List.set_cons_succ]
      refine wpAnyH_take (i := 8) (v := ?var8) rfl (by kernel_rfl) (by kernel_rfl) (by kernel_rfl) (fun _ _ _ h => h) (Or.inl ⟨by rfl, ?hyr8⟩) (by assumption) ?rar8
      case hyr8 => (intro wq hSw; (try dsimp only at hSw); obtain ⟨e0, e1, e2⟩ := hSw; go_simp <;> with_reducible rfl)
      try simp only [Act.put, List.getElem_toArray, List.getElem_cons_zero, List.getElem_cons_succ, List.setIfInBounds_toArray, List.set_cons_zero, List.set_cons_succ]
      refine wpAnyH_take (i := 9) (v := ?var9) rfl (by kernel_rfl) (by kernel_rfl) (by kernel_rfl) (fun _ _ _ h => h) (Or.inl ⟨by rfl, ?hyr9⟩) (by assumption) ?rar9
      case hyr9 => (intro wq hSw; (try dsimp only at hSw); obtain ⟨e0, e1, e2⟩ := hSw; go_simp <;> with_reducible rfl)
      try simp only [Act.put, List.getElem_toArray, List.getElem_cons_zero, List.getElem_cons_succ, List.setIfInBounds_toArray, List.set_cons_zero, List.set_cons_succ]
      refine wpAnyH_take (i := 10) (v := ?var10) rfl (by kernel_rfl) (by kernel_rfl) (by kernel_rfl) (fun _ _ _ h => h) (Or.inl ⟨by rfl, ?hyr10⟩) (by assumption) ?rar10
      case hyr10 => (intro wq hSw; (try dsimp only at hSw); obtain ⟨e0, e1, e2⟩ := hSw; go_simp <;> with_reducible rfl)
      try simp only [Act.put, List.getElem_toArray, List.getElem_cons_zero, List.getElem_cons_succ, List.setIfInBounds_toArray, List.set_cons_zero, List.set_cons_succ]
      refine wpAnyH_take (i := 11) (v := ?var11) rfl (by kernel_rfl) (by kernel_rfl) (by kernel_rfl) (fun _ _ _ h => h) (Or.inl ⟨by rfl, ?hyr11⟩) (by assumption) ?rar11
      case hyr11 => (intro wq hSw; (try dsimp only at hSw); obtain ⟨e0, e1, e2⟩ := hSw; go_simp <;> with_reducible rfl)
      try simp only [Act.put, List.getElem_toArray, List.getElem_cons_zero, List.getElem_cons_succ, List.setIfInBounds_toArray, List.set_cons_zero, List.set_cons_succ]
      refine wpAnyH_take (i := 12) (v := ?var12) rfl (by kernel_rfl) (by kernel_rfl) (by kernel_rfl) (fun _ _ _ h => h) (Or.inl ⟨by rfl, ?hyr12⟩) (by assumption) ?rar12
      case hyr12 => (intro wq hSw; (try dsimp only at hSw); obtain ⟨e0, e1, e2⟩ := hSw; go_simp <;> with_reducible rfl)
      try simp only [Act.put, List.getElem_toArray, List.getElem_cons_zero, List.getElem_cons_succ, List.setIfInBounds_toArray, List.set_cons_zero, List.set_cons_succ]
      have ZZ := hide (ZB.out.keep (drw wr))
      have SB : Hid (wr.heap.size ≤ wr.drew.heap.size) := Nat.le_refl _
      clear ZB
      generalize hWd : wr.drew = W at *
      clear hWd
      refine wpAnyH_ready (rs := [6, 14, 15]) (by kernel_rfl) (by simp) ?_
      refine AllReadyH.cons rfl (fun K hK => ?q1) (AllReadyH.cons rfl (fun K hK => ?q2) (AllReadyH.cons rfl (fun K hK => ?q3) AllReadyH.nil))
      case q1 =>
        go_simp
        refine (AC.out _ ZZ.out.np.p ZZ.out.mg.ir).mono ?_
        rintro _ WA ⟨a1, d1, col2, rfl, hI, hn, hp, hf⟩
        have I1 := hide hI
        have J1 : Hid (Af wr WA col2 F a1) := fun x hx => ⟨Nat.le_trans SB.out (hn x hx).1, (hn x hx).2.1, (hn x hx).2.2, fun e => by have h1 := ZZ.out.rl.lt _ e; have h2 := (hn x hx).1; omega⟩
        replace ZZ := hide (ZZ.out.asked hp hf)
        replace SB := hide (Nat.le_trans SB.out hf.b.size)
        clear hI hn hp hf
        go_wp2_with fail
        refine hK.out _ _ (SK.out _ ZZ.out.np.b) (fun hHeld => ?_)
        clear hK K
        try simp only [Act.put, List.getElem_toArray, List.getElem_cons_zero, List.getElem_cons_succ, List.setIfInBounds_toArray, List.set_cons_zero, List.set_cons_succ]
        refine wpAnyH_ready (rs := [13, 14, 15]) (by kernel_rfl) (by simp) ?_
        refine AllReadyH.cons rfl (fun K hK => ?q4) (AllReadyH.cons rfl (fun K hK => ?q5) (AllReadyH.cons rfl (fun K hK => ?q6) AllReadyH.nil))
        case q4 =>
          go_simp
          refine (TC.out _ _ ZZ.out.rl ZZ.out.mg.ir).mono ?_
          rintro _ WAT ⟨a2, d2, F2, rfl, hI, hn, hp, hf⟩
          have I2 := hide hI
          have J2 : Hid (Af wr WAT col2 F2 a2) := fun x hx => ⟨Nat.le_trans SB.out (hn x hx).1, (hn x hx).2.1, ZZ.out.np.away (hn x hx).1, (hn x hx).2.2⟩
          replace I1 := hide (I1.out.but hf.b (fun x hx e => (J1.out x hx).f e))
          replace J1 := hide (J1.out.told hf)
          replace ZZ := hide (ZZ.out.told hp hf)
          replace SB := hide (Nat.le_trans SB.out hf.b.size)
          clear hI hn hp hf
          go_wp2_with fail
          refine hK.out _ _ (SK.out _ ZZ.out.np.b) (fun hHeld => ?_)
          clear hK K
          try simp only [Act.put, List.getElem_toArray, List.getElem_cons_zero, List.getElem_cons_succ, List.setIfInBounds_toArray, List.set_cons_zero, List.set_cons_succ]
          refine wpAnyH_ready (rs := [14, 15]) (by kernel_rfl) (by simp) ?_
          refine AllReadyH.cons rfl (fun K hK => ?q7) (AllReadyH.cons rfl (fun K hK => ?q8) AllReadyH.nil)
          case q7 =>
            go_simp
            refine hK.out _ _ (SK.out _ (bt ZZ.out.np.b (al _ _))) (fun hHeld => ?_)
            clear hK K
            try simp only [Act.put, List.getElem_toArray, List.getElem_cons_zero, List.getElem_cons_succ, List.setIfInBounds_toArray, List.set_cons_zero, List.set_cons_succ]
            have aX := al WAT (.cells #[.int .i64 0, .int .i64 0, .bool false, .slice none 0 0, .int .i64 0] 34)
            have N1X : Hid (∀ x, a1 = some x → x.block ≠ WAT.heap.size) := fun x hx => Nat.ne_of_lt (J1.out x hx).l
            have N2X : Hid (∀ x, a2 = some x → x.block ≠ WAT.heap.size) := fun x hx => Nat.ne_of_lt (J2.out x hx).l
            have BX_n := hide (ZZ.out.new SB.out (.cells #[.int .i64 0, .int .i64 0, .bool false, .slice none 0 0, .int .i64 0] 34))
            have BX_h := hide (World.alloc_heap_new WAT (.cells #[.int .i64 0, .int .i64 0, .bool false, .slice none 0 0, .int .i64 0] 34))
            replace I1 := hide (I1.out.keep aX)
            replace J1 := hide (J1.out.keep aX)
            replace I2 := hide (I2.out.keep aX)
            replace J2 := hide (J2.out.keep aX)
            replace ZZ := hide (ZZ.out.keep aX)
            replace SB := hide (Nat.le_trans SB.out aX.size)
            clear aX
            generalize WAT.alloc (.cells #[.int .i64 0, .int .i64 0, .bool false, .slice none 0 0, .int .i64 0] 34) = WATX at *
            generalize WAT.heap.size = g12 at *
            have BX := BX_h
            have BX_l := BX_n
            clear BX_h BX_n
            refine wpAnyH_ready (rs := [15]) (by kernel_rfl) (by simp) ?_
            refine AllReadyH.cons rfl (fun K hK => ?q9) AllReadyH.nil
            case q9 =>
              go_simp
              refine hK.out _ _ (SK.out _ (bt ZZ.out.np.b (al _ _))) (fun hHeld => ?_)
              clear hK K
              try simp only [Act.put, List.getElem_toArray, List.getElem_cons_zero, List.getElem_cons_succ, List.setIfInBounds_toArray, List.set_cons_zero, List.set_cons_succ]
              have aX := al WATX (.cells #[.int .i64 0, .int .i64 0, .bool false, .slice none 0 0, .int .i64 0] 34)
              have NEo : Hid (g12 ≠ WATX.heap.size) := Nat.ne_of_lt BX_l.out.l
              have N1Y : Hid (∀ x, a1 = some x → x.block ≠ WATX.heap.size) := fun x hx => Nat.ne_of_lt (J1.out x hx).l
              have N2Y : Hid (∀ x, a2 = some x → x.block ≠ WATX.heap.size) := fun x hx => Nat.ne_of_lt (J2.out x hx).l
              have BY_n := hide (ZZ.out.new SB.out (.cells #[.int .i64 0, .int .i64 0, .bool false, .slice none 0 0, .int .i64 0] 34))
              have BY_h := hide (World.alloc_heap_new WATX (.cells #[.int .i64 0, .int .i64 0, .bool false, .slice none 0 0, .int .i64 0] 34))
              replace I1 := hide (I1.out.keep aX)
              replace J1 := hide (J1.out.keep aX)
              replace I2 := hide (I2.out.keep aX)
              replace J2 := hide (J2.out.keep aX)
              replace BX := hide ((aX.block _ BX_l.out.l).trans BX.out)
              replace BX_l := hide (BX_l.out.keep aX)
              replace ZZ := hide (ZZ.out.keep aX)
              replace SB := hide (Nat.le_trans SB.out aX.size)
              clear aX
              generalize WATX.alloc (.cells #[.int .i64 0, .int .i64 0, .bool false, .slice none 0 0, .int .i64 0] 34) = WATXY at *
              generalize WATX.heap.size = g13 at *
              have BY := BY_h
              have BY_l := BY_n
              clear BY_h BY_n
              have NE12 : Hid (g12 ≠ g13) := by first | exact NEo.out | exact NEo.out.symm
              have FN : Hid (Qz w wr ((WATXY.setRow g12 #[.int .i64 an, .int .i64 ann, .bool ais, .slice a1 al1.length d1, .int .i64 ae]).setRow g13 #[.int .i64 an, .int .i64 ann, .bool ais, .slice a2 al1.length d2, .int .i64 ae]) b q P2 col2 F2 E am cm M ak ck U aw cw V ⟨an, ann, ais, al1, ae⟩ g12 g13 a1 d1 a2 d2) := Qz.fin (A := ⟨an, ann, ais, al1, ae⟩) ZZ.out LO.out WB.out BX_l.out BY_l.out BX.out BY.out NE12.out I1.out J1.out I2.out J2.out (fun x hx => ⟨N1X.out x hx, N1Y.out x hx⟩) (fun x hx => ⟨N2X.out x hx, N2Y.out x hx⟩)
              have BY2 : Hid ((WATXY.setRow g12 #[.int .i64 an, .int .i64 ann, .bool ais, .slice a1 al1.length d1, .int .i64 ae]).heap[g13]? = _) := (setRow_but WATXY g12 #[.int .i64 an, .int .i64 ann, .bool ais, .slice a1 al1.length d1, .int .i64 ae]).same BY.out (fun e => NE12.out e.symm)
              have HS1 := hide (SK.out _ ((But.ofBelow (S := fun _ => False) ZZ.out.np.b).trans (setRow_but WATXY g12 #[.int .i64 an, .int .i64 ann, .bool ais, .slice a1 al1.length d1, .int .i64 ae]) (fun k hk e => by have h1 := BX_l.out.b; have h2 := WB.out; omega) |>.below (fun _ _ h => h)))
              refine wpAnyH_ready (rs := [16]) (by kernel_rfl) (by simp) ?_
              refine AllReadyH.cons rfl (fun K hK => ?_) AllReadyH.nil
              rw [if_pos (by rfl)]
              refine wp_store_row 34 _ _ rfl g12 _ rfl rfl 34 _ BX.out sizeAns rfl (by simp [Value.oneCell']) ?_
              refine hK.out _ _ HS1.out (fun hHeld => ?_)
              clear hK K
              try simp only [Act.put, List.getElem_toArray, List.getElem_cons_zero, List.getElem_cons_succ, List.setIfInBounds_toArray, List.set_cons_zero, List.set_cons_succ]
              refine wpAnyH_ready (rs := [17]) (by kernel_rfl) (by simp) ?_
              refine AllReadyH.cons rfl (fun K hK => ?_) AllReadyH.nil
              rw [if_pos (by rfl)]
              refine wp_store_row 34 _ _ rfl g13 _ rfl rfl 34 _ BY2.out sizeAns rfl (by simp [Value.oneCell']) ?_
              refine hK.out _ _ (SK.out _ FN.out.z.np.b) (fun hHeld => ?_)
              clear hK K
              try simp only [Act.put, List.getElem_toArray, List.getElem_cons_zero, List.getElem_cons_succ, List.setIfInBounds_toArray, List.set_cons_zero, List.set_cons_succ]
              refine wpAnyH_done (by kernel_rfl) ?_ _
              go_wp2_with fail
              go_meet
              case rel => exact ⟨g12, g13, a1, a2, d1, d2, col2, F2, rfl, rfl, FN.out⟩
          case q8 =>
            go_simp
            refine hK.out _ _ (SK.out _ (bt ZZ.out.np.b (al _ _))) (fun hHeld => ?_)
            clear hK K
            try simp only [Act.put, List.getElem_toArray, List.getElem_cons_zero, List.getElem_cons_succ, List.setIfInBounds_toArray, List.set_cons_zero, List.set_cons_succ]
            have aX := al WAT (.cells #[.int .i64 0, .int .i64 0, .bool false, .slice none 0 0, .int .i64 0] 34)
            have N1Y : Hid (∀ x, a1 = some x → x.block ≠ WAT.heap.size) := fun x hx => Nat.ne_of_lt (J1.out x hx).l
            have N2Y : Hid (∀ x, a2 = some x → x.block ≠ WAT.heap.size) := fun x hx => Nat.ne_of_lt (J2.out x hx).l
            have BY_n := hide (ZZ.out.new SB.out (.cells #[.int .i64 0, .int .i64 0, .bool false, .slice none 0 0, .int .i64 0] 34))
            have BY_h := hide (World.alloc_heap_new WAT (.cells #[.int .i64 0, .int .i64 0, .bool false, .slice none 0 0, .int .i64 0] 34))
            replace I1 := hide (I1.out.keep aX)
            replace J1 := hide (J1.out.keep aX)
            replace I2 := hide (I2.out.keep aX)
            replace J2 := hide (J2.out.keep aX)
            replace ZZ := hide (ZZ.out.keep aX)
            replace SB := hide (Nat.le_trans SB.out aX.size)
            clear aX
            generalize WAT.alloc (.cells #[.int .i64 0, .int .i64 0, .bool false, .slice none 0 0, .int .i64 0] 34) = WATY at *
            generalize WAT.heap.size = g13 at *
            have BY := BY_h
            have BY_l := BY_n
            clear BY_h BY_n
            refine wpAnyH_ready (rs := [14]) (by kernel_rfl) (by simp) ?_
            refine AllReadyH.cons rfl (fun K hK => ?q10) AllReadyH.nil
            case q10 =>
              go_simp
              refine hK.out _ _ (SK.out _ (bt ZZ.out.np.b (al _ _))) (fun hHeld => ?_)
              clear hK K
              try simp only [Act.put, List.getElem_toArray, List.getElem_cons_zero, List.getElem_cons_succ, List.setIfInBounds_toArray, List.set_cons_zero, List.set_cons_succ]
              have aX := al WATY (.cells #[.int .i64 0, .int .i64 0, .bool false, .slice none 0 0, .int .i64 0] 34)
              have NEo : Hid (g13 ≠ WATY.heap.size) := Nat.ne_of_lt BY_l.out.l
              have N1X : Hid (∀ x, a1 = some x → x.block ≠ WATY.heap.size) := fun x hx => Nat.ne_of_lt (J1.out x hx).l
              have N2X : Hid (∀ x, a2 = some x → x.block ≠ WATY.heap.size) := fun x hx => Nat.ne_of_lt (J2.out x hx).l
              have BX_n := hide (ZZ.out.new SB.out (.cells #[.int .i64 0, .int .i64 0, .bool false, .slice none 0 0, .int .i64 0] 34))
              have BX_h := hide (World.alloc_heap_new WATY (.cells #[.int .i64 0, .int .i64 0, .bool false, .slice none 0 0, .int .i64 0] 34))
              replace I1 := hide (I1.out.keep aX)
              replace J1 := hide (J1.out.keep aX)
              replace I2 := hide (I2.out.keep aX)
              replace J2 := hide (J2.out.keep aX)
              replace BY := hide ((aX.block _ BY_l.out.l).trans BY.out)
              replace BY_l := hide (BY_l.out.keep aX)
              replace ZZ := hide (ZZ.out.keep aX)
              replace SB := hide (Nat.le_trans SB.out aX.size)
              clear aX
              generalize WATY.alloc (.cells #[.int .i64 0, .int .i64 0, .bool false, .slice none 0 0, .int .i64 0] 34) = WATYX at *
              generalize WATY.heap.size = g12 at *
              have BX := BX_h
              have BX_l := BX_n
              clear BX_h BX_n
              have NE12 : Hid (g12 ≠ g13) := by first | exact NEo.out | exact NEo.out.symm
              have FN : Hid (Qz w wr ((WATYX.setRow g12 #[.int .i64 an, .int .i64 ann, .bool ais, .slice a1 al1.length d1, .int .i64 ae]).setRow g13 #[.int .i64 an, .int .i64 ann, .bool ais, .slice a2 al1.length d2, .int .i64 ae]) b q P2 col2 F2 E am cm M ak ck U aw cw V ⟨an, ann, ais, al1, ae⟩ g12 g13 a1 d1 a2 d2) := Qz.fin (A := ⟨an, ann, ais, al1, ae⟩) ZZ.out LO.out WB.out BX_l.out BY_l.out BX.out BY.out NE12.out I1.out J1.out I2.out J2.out (fun x hx => ⟨N1X.out x hx, N1Y.out x hx⟩) (fun x hx => ⟨N2X.out x hx, N2Y.out x hx⟩)
              have BY2 : Hid ((WATYX.setRow g12 #[.int .i64 an, .int .i64 ann, .bool ais, .slice a1 al1.length d1, .int .i64 ae]).heap[g13]? = _) := (setRow_but WATYX g12 #[.int .i64 an, .int .i64 ann, .bool ais, .slice a1 al1.length d1, .int .i64 ae]).same BY.out (fun e => NE12.out e.symm)
              have HS1 := hide (SK.out _ ((But.ofBelow (S := fun _ => False) ZZ.out.np.b).trans (setRow_but WATYX g12 #[.int .i64 an, .int .i64 ann, .bool ais, .slice a1 al1.length d1, .int .i64 ae]) (fun k hk e => by have h1 := BX_l.out.b; have h2 := WB.out; omega) |>.below (fun _ _ h => h)))
              refine wpAnyH_ready (rs := [16]) (by kernel_rfl) (by simp) ?_
              refine AllReadyH.cons rfl (fun K hK => ?_) AllReadyH.nil
              rw [if_pos (by rfl)]
              refine wp_store_row 34 _ _ rfl g12 _ rfl rfl 34 _ BX.out sizeAns rfl (by simp [Value.oneCell']) ?_
              refine hK.out _ _ HS1.out (fun hHeld => ?_)
              clear hK K
              try simp only [Act.put, List.getElem_toArray, List.getElem_cons_zero, List.getElem_cons_succ, List.setIfInBounds_toArray, List.set_cons_zero, List.set_cons_succ]
              refine wpAnyH_ready (rs := [17]) (by kernel_rfl) (by simp) ?_
              refine AllReadyH.cons rfl (fun K hK => ?_) AllReadyH.nil
              rw [if_pos (by rfl)]
              refine wp_store_row 34 _ _ rfl g13 _ rfl rfl 34 _ BY2.out sizeAns rfl (by simp [Value.oneCell']) ?_
              refine hK.out _ _ (SK.out _ FN.out.z.np.b) (fun hHeld => ?_)
              clear hK K
              try simp only [Act.put, List.getElem_toArray, List.getElem_cons_zero, List.getElem_cons_succ, List.setIfInBounds_toArray, List.set_cons_zero, List.set_cons_succ]
              refine wpAnyH_done (by kernel_rfl) ?_ _
              go_wp2_with fail
              go_meet
              case rel => exact ⟨g12, g13, a1, a2, d1, d2, col2, F2, rfl, rfl, FN.out⟩
        case q5 =>
          go_simp
          refine hK.out _ _ (SK.out _ (bt ZZ.out.np.b (al _ _))) (fun hHeld => ?_)
          clear hK K
          try simp only [Act.put, List.getElem_toArray, List.getElem_cons_zero, List.getElem_cons_succ, List.setIfInBounds_toArray, List.set_cons_zero, List.set_cons_succ]
          have aX := al WA (.cells #[.int .i64 0, .int .i64 0, .bool false, .slice none 0 0, .int .i64 0] 34)
          have N1X : Hid (∀ x, a1 = some x → x.block ≠ WA.heap.size) := fun x hx => Nat.ne_of_lt (J1.out x hx).l
          have BX_n := hide (ZZ.out.new SB.out (.cells #[.int .i64 0, .int .i64 0, .bool false, .slice none 0 0, .int .i64 0] 34))
          have BX_h := hide (World.alloc_heap_new WA (.cells #[.int .i64 0, .int .i64 0, .bool false, .slice none 0 0, .int .i64 0] 34))
          replace I1 := hide (I1.out.keep aX)
          replace J1 := hide (J1.out.keep aX)
          replace ZZ := hide (ZZ.out.keep aX)
          replace SB := hide (Nat.le_trans SB.out aX.size)
          clear aX
          generalize WA.alloc (.cells #[.int .i64 0, .int .i64 0, .bool false, .slice none 0 0, .int .i64 0] 34) = WAX at *
          generalize WA.heap.size = g12 at *
          have BX := BX_h
          have BX_l := BX_n
          clear BX_h BX_n
          refine wpAnyH_ready (rs := [13, 15]) (by kernel_rfl) (by simp) ?_
          refine AllReadyH.cons rfl (fun K hK => ?q11) (AllReadyH.cons rfl (fun K hK => ?q12) AllReadyH.nil)
          case q11 =>
            go_simp
            refine (TC.out _ _ ZZ.out.rl ZZ.out.mg.ir).mono ?_
            rintro _ WAXT ⟨a2, d2, F2, rfl, hI, hn, hp, hf⟩
            have N2X : Hid (∀ x, a2 = some x → x.block ≠ g12) := fun x hx e => by have h1 := (hn x hx).1; have h2 := BX_l.out.l; omega
            have I2 := hide hI
            have J2 : Hid (Af wr WAXT col2 F2 a2) := fun x hx => ⟨Nat.le_trans SB.out (hn x hx).1, (hn x hx).2.1, ZZ.out.np.away (hn x hx).1, (hn x hx).2.2⟩
            replace I1 := hide (I1.out.but hf.b (fun x hx e => (J1.out x hx).f e))
            replace J1 := hide (J1.out.told hf)
            replace BX := hide ((hf.b.block _ BX_l.out.l BX_l.out.f).trans BX.out)
            replace BX_l := hide (BX_l.out.told hf)
            replace ZZ := hide (ZZ.out.told hp hf)
            replace SB := hide (Nat.le_trans SB.out hf.b.size)
            clear hI hn hp hf
            go_wp2_with fail
            refine hK.out _ _ (SK.out _ ZZ.out.np.b) (fun hHeld => ?_)
            clear hK K
            try simp only [Act.put, List.getElem_toArray, List.getElem_cons_zero, List.getElem_cons_succ, List.setIfInBounds_toArray, List.set_cons_zero, List.set_cons_succ]
            refine wpAnyH_ready (rs := [15]) (by kernel_rfl) (by simp) ?_
            refine AllReadyH.cons rfl (fun K hK => ?q13) AllReadyH.nil
            case q13 =>
              go_simp
              refine hK.out _ _ (SK.out _ (bt ZZ.out.np.b (al _ _))) (fun hHeld => ?_)
              clear hK K
              try simp only [Act.put, List.getElem_toArray, List.getElem_cons_zero, List.getElem_cons_succ, List.setIfInBounds_toArray, List.set_cons_zero, List.set_cons_succ]
              have aX := al WAXT (.cells #[.int .i64 0, .int .i64 0, .bool false, .slice none 0 0, .int .i64 0] 34)
              have NEo : Hid (g12 ≠ WAXT.heap.size) := Nat.ne_of_lt BX_l.out.l
              have N1Y : Hid (∀ x, a1 = some x → x.block ≠ WAXT.heap.size) := fun x hx => Nat.ne_of_lt (J1.out x hx).l
              have N2Y : Hid (∀ x, a2 = some x → x.block ≠ WAXT.heap.size) := fun x hx => Nat.ne_of_lt (J2.out x hx).l
              have BY_n := hide (ZZ.out.new SB.out (.cells #[.int .i64 0, .int .i64 0, .bool false, .slice none 0 0, .int .i64 0] 34))
              have BY_h := hide (World.alloc_heap_new WAXT (.cells #[.int .i64 0, .int .i64 0, .bool false, .slice none 0 0, .int .i64 0] 34))
              replace I1 := hide (I1.out.keep aX)
              replace J1 := hide (J1.out.keep aX)
              replace I2 := hide (I2.out.keep aX)
              replace J2 := hide (J2.out.keep aX)
              replace BX := hide ((aX.block _ BX_l.out.l).trans BX.out)
              replace BX_l := hide (BX_l.out.keep aX)
              replace ZZ := hide (ZZ.out.keep aX)
              replace SB := hide (Nat.le_trans SB.out aX.size)
              clear aX
              generalize WAXT.alloc (.cells #[.int .i64 0, .int .i64 0, .bool false, .slice none 0 0, .int .i64 0] 34) = WAXTY at *
              generalize WAXT.heap.size = g13 at *
              have BY := BY_h
              have BY_l := BY_n
              clear BY_h BY_n
              have NE12 : Hid (g12 ≠ g13) := by first | exact NEo.out | exact NEo.out.symm
              have FN : Hid (Qz w wr ((WAXTY.setRow g12 #[.int .i64 an, .int .i64 ann, .bool ais, .slice a1 al1.length d1, .int .i64 ae]).setRow g13 #[.int .i64 an, .int .i64 ann, .bool ais, .slice a2 al1.length d2, .int .i64 ae]) b q P2 col2 F2 E am cm M ak ck U aw cw V ⟨an, ann, ais, al1, ae⟩ g12 g13 a1 d1 a2 d2) := Qz.fin (A := ⟨an, ann, ais, al1, ae⟩) ZZ.out LO.out WB.out BX_l.out BY_l.out BX.out BY.out NE12.out I1.out J1.out I2.out J2.out (fun x hx => ⟨N1X.out x hx, N1Y.out x hx⟩) (fun x hx => ⟨N2X.out x hx, N2Y.out x hx⟩)
              have BY2 : Hid ((WAXTY.setRow g12 #[.int .i64 an, .int .i64 ann, .bool ais, .slice a1 al1.length d1, .int .i64 ae]).heap[g13]? = _) := (setRow_but WAXTY g12 #[.int .i64 an, .int .i64 ann, .bool ais, .slice a1 al1.length d1, .int .i64 ae]).same BY.out (fun e => NE12.out e.symm)
              have HS1 := hide (SK.out _ ((But.ofBelow (S := fun _ => False) ZZ.out.np.b).trans (setRow_but WAXTY g12 #[.int .i64 an, .int .i64 ann, .bool ais, .slice a1 al1.length d1, .int .i64 ae]) (fun k hk e => by have h1 := BX_l.out.b; have h2 := WB.out; omega) |>.below (fun _ _ h => h)))
              refine wpAnyH_ready (rs := [16]) (by kernel_rfl) (by simp) ?_
              refine AllReadyH.cons rfl (fun K hK => ?_) AllReadyH.nil
              rw [if_pos (by rfl)]
              refine wp_store_row 34 _ _ rfl g12 _ rfl rfl 34 _ BX.out sizeAns rfl (by simp [Value.oneCell']) ?_
              refine hK.out _ _ HS1.out (fun hHeld => ?_)
              clear hK K
              try simp only [Act.put, List.getElem_toArray, List.getElem_cons_zero, List.getElem_cons_succ, List.setIfInBounds_toArray, List.set_cons_zero, List.set_cons_succ]
              refine wpAnyH_ready (rs := [17]) (by kernel_rfl) (by simp) ?_
              refine AllReadyH.cons rfl (fun K hK => ?_) AllReadyH.nil
              rw [if_pos (by rfl)]
              refine wp_store_row 34 _ _ rfl g13 _ rfl rfl 34 _ BY2.out sizeAns rfl (by simp [Value.oneCell']) ?_
              refine hK.out _ _ (SK.out _ FN.out.z.np.b) (fun hHeld => ?_)
              clear hK K
              try simp only [Act.put, List.getElem_toArray, List.getElem_cons_zero, List.getElem_cons_succ, List.setIfInBounds_toArray, List.set_cons_zero, List.set_cons_succ]
              refine wpAnyH_done (by kernel_rfl) ?_ _
              go_wp2_with fail
              go_meet
              case rel => exact ⟨g12, g13, a1, a2, d1, d2, col2, F2, rfl, rfl, FN.out⟩
          case q12 =>
            go_simp
            refine hK.out _ _ (SK.out _ (bt ZZ.out.np.b (al _ _))) (fun hHeld => ?_)
            clear hK K
            try simp only [Act.put, List.getElem_toArray, List.getElem_cons_zero, List.getElem_cons_succ, List.setIfInBounds_toArray, List.set_cons_zero, List.set_cons_succ]
            have aX := al WAX (.cells #[.int .i64 0, .int .i64 0, .bool false, .slice none 0 0, .int .i64 0] 34)
            have NEo : Hid (g12 ≠ WAX.heap.size) := Nat.ne_of_lt BX_l.out.l
            have N1Y : Hid (∀ x, a1 = some x → x.block ≠ WAX.heap.size) := fun x hx => Nat.ne_of_lt (J1.out x hx).l
            have BY_n := hide (ZZ.out.new SB.out (.cells #[.int .i64 0, .int .i64 0, .bool false, .slice none 0 0, .int .i64 0] 34))
            have BY_h := hide (World.alloc_heap_new WAX (.cells #[.int .i64 0, .int .i64 0, .bool false, .slice none 0 0, .int .i64 0] 34))
            replace I1 := hide (I1.out.keep aX)
            replace J1 := hide (J1.out.keep aX)
            replace BX := hide ((aX.block _ BX_l.out.l).trans BX.out)
            replace BX_l := hide (BX_l.out.keep aX)
            replace ZZ := hide (ZZ.out.keep aX)
            replace SB := hide (Nat.le_trans SB.out aX.size)
            clear aX
            generalize WAX.alloc (.cells #[.int .i64 0, .int .i64 0, .bool false, .slice none 0 0, .int .i64 0] 34) = WAXY at *
            generalize WAX.heap.size = g13 at *
            have BY := BY_h
            have BY_l := BY_n
            clear BY_h BY_n
            refine wpAnyH_ready (rs := [13]) (by kernel_rfl) (by simp) ?_
            refine AllReadyH.cons rfl (fun K hK => ?q14) AllReadyH.nil
            case q14 =>
              go_simp
              refine (TC.out _ _ ZZ.out.rl ZZ.out.mg.ir).mono ?_
              rintro _ WAXYT ⟨a2, d2, F2, rfl, hI, hn, hp, hf⟩
              have N2X : Hid (∀ x, a2 = some x → x.block ≠ g12) := fun x hx e => by have h1 := (hn x hx).1; have h2 := BX_l.out.l; omega
              have N2Y : Hid (∀ x, a2 = some x → x.block ≠ g13) := fun x hx e => by have h1 := (hn x hx).1; have h2 := BY_l.out.l; omega
              have I2 := hide hI
              have J2 : Hid (Af wr WAXYT col2 F2 a2) := fun x hx => ⟨Nat.le_trans SB.out (hn x hx).1, (hn x hx).2.1, ZZ.out.np.away (hn x hx).1, (hn x hx).2.2⟩
              replace I1 := hide (I1.out.but hf.b (fun x hx e => (J1.out x hx).f e))
              replace J1 := hide (J1.out.told hf)
              replace BX := hide ((hf.b.block _ BX_l.out.l BX_l.out.f).trans BX.out)
              replace BX_l := hide (BX_l.out.told hf)
              replace BY := hide ((hf.b.block _ BY_l.out.l BY_l.out.f).trans BY.out)
              replace BY_l := hide (BY_l.out.told hf)
              replace ZZ := hide (ZZ.out.told hp hf)
              replace SB := hide (Nat.le_trans SB.out hf.b.size)
              clear hI hn hp hf
              go_wp2_with fail
              refine hK.out _ _ (SK.out _ ZZ.out.np.b) (fun hHeld => ?_)
              clear hK K
              try simp only [Act.put, List.getElem_toArray, List.getElem_cons_zero, List.getElem_cons_succ, List.setIfInBounds_toArray, List.set_cons_zero, List.set_cons_succ]
              have NE12 : Hid (g12 ≠ g13) := by first | exact NEo.out | exact NEo.out.symm
              have FN : Hid (Qz w wr ((WAXYT.setRow g12 #[.int .i64 an, .int .i64 ann, .bool ais, .slice a1 al1.length d1, .int .i64 ae]).setRow g13 #[.int .i64 an, .int .i64 ann, .bool ais, .slice a2 al1.length d2, .int .i64 ae]) b q P2 col2 F2 E am cm M ak ck U aw cw V ⟨an, ann, ais, al1, ae⟩ g12 g13 a1 d1 a2 d2) := Qz.fin (A := ⟨an, ann, ais, al1, ae⟩) ZZ.out LO.out WB.out BX_l.out BY_l.out BX.out BY.out NE12.out I1.out J1.out I2.out J2.out (fun x hx => ⟨N1X.out x hx, N1Y.out x hx⟩) (fun x hx => ⟨N2X.out x hx, N2Y.out x hx⟩)
              have BY2 : Hid ((WAXYT.setRow g12 #[.int .i64 an, .int .i64 ann, .bool ais, .slice a1 al1.length d1, .int .i64 ae]).heap[g13]? = _) := (setRow_but WAXYT g12 #[.int .i64 an, .int .i64 ann, .bool ais, .slice a1 al1.length d1, .int .i64 ae]).same BY.out (fun e => NE12.out e.symm)
              have HS1 := hide (SK.out _ ((But.ofBelow (S := fun _ => False) ZZ.out.np.b).trans (setRow_but WAXYT g12 #[.int .i64 an, .int .i64 ann, .bool ais, .slice a1 al1.length d1, .int .i64 ae]) (fun k hk e => by have h1 := BX_l.out.b; have h2 := WB.out; omega) |>.below (fun _ _ h => h)))
              refine wpAnyH_ready (rs := [16]) (by kernel_rfl) (by simp) ?_
              refine AllReadyH.cons rfl (fun K hK => ?_) AllReadyH.nil
              rw [if_pos (by rfl)]
              refine wp_store_row 34 _ _ rfl g12 _ rfl rfl 34 _ BX.out sizeAns rfl (by simp [Value.oneCell']) ?_
              refine hK.out _ _ HS1.out (fun hHeld => ?_)
              clear hK K
              try simp only [Act.put, List.getElem_toArray, List.getElem_cons_zero, List.getElem_cons_succ, List.setIfInBounds_toArray, List.set_cons_zero, List.set_cons_succ]
              refine wpAnyH_ready (rs := [17]) (by kernel_rfl) (by simp) ?_
              refine AllReadyH.cons rfl (fun K hK => ?_) AllReadyH.nil
              rw [if_pos (by rfl)]
              refine wp_store_row 34 _ _ rfl g13 _ rfl rfl 34 _ BY2.out sizeAns rfl (by simp [Value.oneCell']) ?_
              refine hK.out _ _ (SK.out _ FN.out.z.np.b) (fun hHeld => ?_)
              clear hK K
              try simp only [Act.put, List.getElem_toArray, List.getElem_cons_zero, List.getElem_cons_succ, List.setIfInBounds_toArray, List.set_cons_zero, List.set_cons_succ]
              refine wpAnyH_done (by kernel_rfl) ?_ _
              go_wp2_with fail
              go_meet
              case rel => exact ⟨g12, g13, a1, a2, d1, d2, col2, F2, rfl, rfl, FN.out⟩
        case q6 =>
          go_simp
          refine hK.out _ _ (SK.out _ (bt ZZ.out.np.b (al _ _))) (fun hHeld => ?_)
          clear hK K
          try simp only [Act.put, List.getElem_toArray, List.getElem_cons_zero, List.getElem_cons_succ, List.setIfInBounds_toArray, List.set_cons_zero, List.set_cons_succ]
          have aX := al WA (.cells #[.int .i64 0, .int .i64 0, .bool false, .slice none 0 0, .int .i64 0] 34)
          have N1Y : Hid (∀ x, a1 = some x → x.block ≠ WA.heap.size) := fun x hx => Nat.ne_of_lt (J1.out x hx).l
          have BY_n := hide (ZZ.out.new SB.out (.cells #[.int .i64 0, .int .i64 0, .bool false, .slice none 0 0, .int .i64 0] 34))
          have BY_h := hide (World.alloc_heap_new WA (.cells #[.int .i64 0, .int .i64 0, .bool false, .slice none 0 0, .int .i64 0] 34))
          replace I1 := hide (I1.out.keep aX)
          replace J1 := hide (J1.out.keep aX)
          replace ZZ := hide (ZZ.out.keep aX)
          replace SB := hide (Nat.le_trans SB.out aX.size)
          clear aX
          generalize WA.alloc (.cells #[.int .i64 0, .int .i64 0, .bool false, .slice none 0 0, .int .i64 0] 34) = WAY at *
          generalize WA.heap.size = g13 at *
          have BY := BY_h
          have BY_l := BY_n
          clear BY_h BY_n
          refine wpAnyH_ready (rs := [13, 14]) (by kernel_rfl) (by simp) ?_
          refine AllReadyH.cons rfl (fun K hK => ?q15) (AllReadyH.cons rfl (fun K hK => ?q16) AllReadyH.nil)
          case q15 =>
            go_simp
            refine (TC.out _ _ ZZ.out.rl ZZ.out.mg.ir).mono ?_
            rintro _ WAYT ⟨a2, d2, F2, rfl, hI, hn, hp, hf⟩
            have N2Y : Hid (∀ x, a2 = some x → x.block ≠ g13) := fun x hx e => by have h1 := (hn x hx).1; have h2 := BY_l.out.l; omega
            have I2 := hide hI
            have J2 : Hid (Af wr WAYT col2 F2 a2) := fun x hx => ⟨Nat.le_trans SB.out (hn x hx).1, (hn x hx).2.1, ZZ.out.np.away (hn x hx).1, (hn x hx).2.2⟩
            replace I1 := hide (I1.out.but hf.b (fun x hx e => (J1.out x hx).f e))
            replace J1 := hide (J1.out.told hf)
            replace BY := hide ((hf.b.block _ BY_l.out.l BY_l.out.f).trans BY.out)
            replace BY_l := hide (BY_l.out.told hf)
            replace ZZ := hide (ZZ.out.told hp hf)
            replace SB := hide (Nat.le_trans SB.out hf.b.size)
            clear hI hn hp hf
            go_wp2_with fail
            refine hK.out _ _ (SK.out _ ZZ.out.np.b) (fun hHeld => ?_)
            clear hK K
            try simp only [Act.put, List.getElem_toArray, List.getElem_cons_zero, List.getElem_cons_succ, List.setIfInBounds_toArray, List.set_cons_zero, List.set_cons_succ]
            refine wpAnyH_ready (rs := [14]) (by kernel_rfl) (by simp) ?_
            refine AllReadyH.cons rfl (fun K hK => ?q17) AllReadyH.nil
            case q17 =>
              go_simp
              refine hK.out _ _ (SK.out _ (bt ZZ.out.np.b (al _ _))) (fun hHeld => ?_)
              clear hK K
              try simp only [Act.put, List.getElem_toArray, List.getElem_cons_zero, List.getElem_cons_succ, List.setIfInBounds_toArray, List.set_cons_zero, List.set_cons_succ]
              have aX := al WAYT (.cells #[.int .i64 0, .int .i64 0, .bool false, .slice none 0 0, .int .i64 0] 34)
              have NEo : Hid (g13 ≠ WAYT.heap.size) := Nat.ne_of_lt BY_l.out.l
              have N1X : Hid (∀ x, a1 = some x → x.block ≠ WAYT.heap.size) := fun x hx => Nat.ne_of_lt (J1.out x hx).l
              have N2X : Hid (∀ x, a2 = some x → x.block ≠ WAYT.heap.size) := fun x hx => Nat.ne_of_lt (J2.out x hx).l
              have BX_n := hide (ZZ.out.new SB.out (.cells #[.int .i64 0, .int .i64 0, .bool false, .slice none 0 0, .int .i64 0] 34))
              have BX_h := hide (World.alloc_heap_new WAYT (.cells #[.int .i64 0, .int .i64 0, .bool false, .slice none 0 0, .int .i64 0] 34))
              replace I1 := hide (I1.out.keep aX)
              replace J1 := hide (J1.out.keep aX)
              replace I2 := hide (I2.out.keep aX)
              replace J2 := hide (J2.out.keep aX)
              replace BY := hide ((aX.block _ BY_l.out.l).trans BY.out)
              replace BY_l := hide (BY_l.out.keep aX)
              replace ZZ := hide (ZZ.out.keep aX)
              replace SB := hide (Nat.le_trans SB.out aX.size)
              clear aX
              generalize WAYT.alloc (.cells #[.int .i64 0, .int .i64 0, .bool false, .slice none 0 0, .int .i64 0] 34) = WAYTX at *
              generalize WAYT.heap.size = g12 at *
              have BX := BX_h
              have BX_l := BX_n
              clear BX_h BX_n
              have NE12 : Hid (g12 ≠ g13) := by first | exact NEo.out | exact NEo.out.symm
              have FN : Hid (Qz w wr ((WAYTX.setRow g12 #[.int .i64 an, .int .i64 ann, .bool ais, .slice a1 al1.length d1, .int .i64 ae]).setRow g13 #[.int .i64 an, .int .i64 ann, .bool ais, .slice a2 al1.length d2, .int .i64 ae]) b q P2 col2 F2 E am cm M ak ck U aw cw V ⟨an, ann, ais, al1, ae⟩ g12 g13 a1 d1 a2 d2) := Qz.fin (A := ⟨an, ann, ais, al1, ae⟩) ZZ.out LO.out WB.out BX_l.out BY_l.out BX.out BY.out NE12.out I1.out J1.out I2.out J2.out (fun x hx => ⟨N1X.out x hx, N1Y.out x hx⟩) (fun x hx => ⟨N2X.out x hx, N2Y.out x hx⟩)
              have BY2 : Hid ((WAYTX.setRow g12 #[.int .i64 an, .int .i64 ann, .bool ais, .slice a1 al1.length d1, .int .i64 ae]).heap[g13]? = _) := (setRow_but WAYTX g12 #[.int .i64 an, .int .i64 ann, .bool ais, .slice a1 al1.length d1, .int .i64 ae]).same BY.out (fun e => NE12.out e.symm)
              have HS1 := hide (SK.out _ ((But.ofBelow (S := fun _ => False) ZZ.out.np.b).trans (setRow_but WAYTX g12 #[.int .i64 an, .int .i64 ann, .bool ais, .slice a1 al1.length d1, .int .i64 ae]) (fun k hk e => by have h1 := BX_l.out.b; have h2 := WB.out; omega) |>.below (fun _ _ h => h)))
              refine wpAnyH_ready (rs := [16]) (by kernel_rfl) (by simp) ?_
              refine AllReadyH.cons rfl (fun K hK => ?_) AllReadyH.nil
              rw [if_pos (by rfl)]
              refine wp_store_row 34 _ _ rfl g12 _ rfl rfl 34 _ BX.out sizeAns rfl (by simp [Value.oneCell']) ?_
              refine hK.out _ _ HS1.out (fun hHeld => ?_)
              clear hK K
              try simp only [Act.put, List.getElem_toArray, List.getElem_cons_zero, List.getElem_cons_succ, List.setIfInBounds_toArray, List.set_cons_zero, List.set_cons_succ]
              refine wpAnyH_ready (rs := [17]) (by kernel_rfl) (by simp) ?_
              refine AllReadyH.cons rfl (fun K hK => ?_) AllReadyH.nil
              rw [if_pos (by rfl)]
              refine wp_store_row 34 _ _ rfl g13 _ rfl rfl 34 _ BY2.out sizeAns rfl (by simp [Value.oneCell']) ?_
              refine hK.out _ _ (SK.out _ FN.out.z.np.b) (fun hHeld => ?_)
              clear hK K
              try simp only [Act.put, List.getElem_toArray, List.getElem_cons_zero, List.getElem_cons_succ, List.setIfInBounds_toArray, List.set_cons_zero, List.set_cons_succ]
              refine wpAnyH_done (by kernel_rfl) ?_ _
              go_wp2_with fail
              go_meet
              case rel => exact ⟨g12, g13, a1, a2, d1, d2, col2, F2, rfl, rfl, FN.out⟩
          case q16 =>
            go_simp
            refine hK.out _ _ (SK.out _ (bt ZZ.out.np.b (al _ _))) (fun hHeld => ?_)
            clear hK K
            try simp only [Act.put, List.getElem_toArray, List.getElem_cons_zero, List.getElem_cons_succ, List.setIfInBounds_toArray, List.set_cons_zero, List.set_cons_succ]
            have aX := al WAY (.cells #[.int .i64 0, .int .i64 0, .bool false, .slice none 0 0, .int .i64 0] 34)
            have NEo : Hid (g13 ≠ WAY.heap.size) := Nat.ne_of_lt BY_l.out.l
            have N1X : Hid (∀ x, a1 = some x → x.block ≠ WAY.heap.size) := fun x hx => Nat.ne_of_lt (J1.out x hx).l
            have BX_n := hide (ZZ.out.new SB.out (.cells #[.int .i64 0, .int .i64 0, .bool false, .slice none 0 0, .int .i64 0] 34))
            have BX_h := hide (World.alloc_heap_new WAY (.cells #[.int .i64 0, .int .i64 0, .bool false, .slice none 0 0, .int .i64 0] 34))
            replace I1 := hide (I1.out.keep aX)
            replace J1 := hide (J1.out.keep aX)
            replace BY := hide ((aX.block _ BY_l.out.l).trans BY.out)
            replace BY_l := hide (BY_l.out.keep aX)
            replace ZZ := hide (ZZ.out.keep aX)
            replace SB := hide (Nat.le_trans SB.out aX.size)
            clear aX
            generalize WAY.alloc (.cells #[.int .i64 0, .int .i64 0, .bool false, .slice none 0 0, .int .i64 0] 34) = WAYX at *
            generalize WAY.heap.size = g12 at *
            have BX := BX_h
            have BX_l := BX_n
            clear BX_h BX_n
            refine wpAnyH_ready (rs := [13]) (by kernel_rfl) (by simp) ?_
            refine AllReadyH.cons rfl (fun K hK => ?q18) AllReadyH.nil
            case q18 =>
              go_simp
              refine (TC.out _ _ ZZ.out.rl ZZ.out.mg.ir).mono ?_
              rintro _ WAYXT ⟨a2, d2, F2, rfl, hI, hn, hp, hf⟩
              have N2X : Hid (∀ x, a2 = some x → x.block ≠ g12) := fun x hx e => by have h1 := (hn x hx).1; have h2 := BX_l.out.l; omega
              have N2Y : Hid (∀ x, a2 = some x → x.block ≠ g13) := fun x hx e => by have h1 := (hn x hx).1; have h2 := BY_l.out.l; omega
              have I2 := hide hI
              have J2 : Hid (Af wr WAYXT col2 F2 a2) := fun x hx => ⟨Nat.le_trans SB.out (hn x hx).1, (hn x hx).2.1, ZZ.out.np.away (hn x hx).1, (hn x hx).2.2⟩
              replace I1 := hide (I1.out.but hf.b (fun x hx e => (J1.out x hx).f e))
              replace J1 := hide (J1.out.told hf)
              replace BX := hide ((hf.b.block _ BX_l.out.l BX_l.out.f).trans BX.out)
              replace BX_l := hide (BX_l.out.told hf)
              replace BY := hide ((hf.b.block _ BY_l.out.l BY_l.out.f).trans BY.out)
              replace BY_l := hide (BY_l.out.told hf)
              replace ZZ := hide (ZZ.out.told hp hf)
              replace SB := hide (Nat.le_trans SB.out hf.b.size)
              clear hI hn hp hf
              go_wp2_with fail
              refine hK.out _ _ (SK.out _ ZZ.out.np.b) (fun hHeld => ?_)
              clear hK K
              try simp only [Act.put, List.getElem_toArray, List.getElem_cons_zero, List.getElem_cons_succ, List.setIfInBounds_toArray, List.set_cons_zero, List.set_cons_succ]
              have NE12 : Hid (g12 ≠ g13) := by first | exact NEo.out | exact NEo.out.symm
              have FN : Hid (Qz w wr ((WAYXT.setRow g12 #[.int .i64 an, .int .i64 ann, .bool ais, .slice a1 al1.length d1, .int .i64 ae]).setRow g13 #[.int .i64 an, .int .i64 ann, .bool ais, .slice a2 al1.length d2, .int .i64 ae]) b q P2 col2 F2 E am cm M ak ck U aw cw V ⟨an, ann, ais, al1, ae⟩ g12 g13 a1 d1 a2 d2) := Qz.fin (A := ⟨an, ann, ais, al1, ae⟩) ZZ.out LO.out WB.out BX_l.out BY_l.out BX.out BY.out NE12.out I1.out J1.out I2.out J2.out (fun x hx => ⟨N1X.out x hx, N1Y.out x hx⟩) (fun x hx => ⟨N2X.out x hx, N2Y.out x hx⟩)
              have BY2 : Hid ((WAYXT.setRow g12 #[.int .i64 an, .int .i64 ann, .bool ais, .slice a1 al1.length d1, .int .i64 ae]).heap[g13]? = _) := (setRow_but WAYXT g12 #[.int .i64 an, .int .i64 ann, .bool ais, .slice a1 al1.length d1, .int .i64 ae]).same BY.out (fun e => NE12.out e.symm)
              have HS1 := hide (SK.out _ ((But.ofBelow (S := fun _ => False) ZZ.out.np.b).trans (setRow_but WAYXT g12 #[.int .i64 an, .int .i64 ann, .bool ais, .slice a1 al1.length d1, .int .i64 ae]) (fun k hk e => by have h1 := BX_l.out.b; have h2 := WB.out; omega) |>.below (fun _ _ h => h)))
              refine wpAnyH_ready (rs := [16]) (by kernel_rfl) (by simp) ?_
              refine AllReadyH.cons rfl (fun K hK => ?_) AllReadyH.nil
              rw [if_pos (by rfl)]
              refine wp_store_row 34 _ _ rfl g12 _ rfl rfl 34 _ BX.out sizeAns rfl (by simp [Value.oneCell']) ?_
              refine hK.out _ _ HS1.out (fun hHeld => ?_)
              clear hK K
              try simp only [Act.put, List.getElem_toArray, List.getElem_cons_zero, List.getElem_cons_succ, List.setIfInBounds_toArray, List.set_cons_zero, List.set_cons_succ]
              refine wpAnyH_ready (rs := [17]) (by kernel_rfl) (by simp) ?_
              refine AllReadyH.cons rfl (fun K hK => ?_) AllReadyH.nil
              rw [if_pos (by rfl)]
              refine wp_store_row 34 _ _ rfl g13 _ rfl rfl 34 _ BY2.out sizeAns rfl (by simp [Value.oneCell']) ?_
              refine hK.out _ _ (SK.out _ FN.out.z.np.b) (fun hHeld => ?_)
              clear hK K
              try simp only [Act.put, List.getElem_toArray, List.getElem_cons_zero, List.getElem_cons_succ, List.setIfInBounds_toArray, List.set_cons_zero, List.set_cons_succ]
              refine wpAnyH_done (by kernel_rfl) ?_ _
              go_wp2_with fail
              go_meet
              case rel => exact ⟨g12, g13, a1, a2, d1, d2, col2, F2, rfl, rfl, FN.out⟩
      case q2 =>
        go_simp
        refine hK.out _ _ (SK.out _ (bt ZZ.out.np.b (al _ _))) (fun hHeld => ?_)
        clear hK K
        try simp only [Act.put, List.getElem_toArray, List.getElem_cons_zero, List.getElem_cons_succ, List.setIfInBounds_toArray, List.set_cons_zero, List.set_cons_succ]
        have aX := al W (.cells #[.int .i64 0, .int .i64 0, .bool false, .slice none 0 0, .int .i64 0] 34)
        have BX_n := hide (ZZ.out.new SB.out (.cells #[.int .i64 0, .int .i64 0, .bool false, .slice none 0 0, .int .i64 0] 34))
        have BX_h := hide (World.alloc_heap_new W (.cells #[.int .i64 0, .int .i64 0, .bool false, .slice none 0 0, .int .i64 0] 34))
        replace ZZ := hide (ZZ.out.keep aX)
        replace SB := hide (Nat.le_trans SB.out aX.size)
        clear aX
        generalize W.alloc (.cells #[.int .i64 0, .int .i64 0, .bool false, .slice none 0 0, .int .i64 0] 34) = WX at *
        generalize W.heap.size = g12 at *
        have BX := BX_h
        have BX_l := BX_n
        clear BX_h BX_n
        refine wpAnyH_ready (rs := [6, 15]) (by kernel_rfl) (by simp) ?_
        refine AllReadyH.cons rfl (fun K hK => ?q19) (AllReadyH.cons rfl (fun K hK => ?q20) AllReadyH.nil)
        case q19 =>
          go_simp
          refine (AC.out _ ZZ.out.np.p ZZ.out.mg.ir).mono ?_
          rintro _ WXA ⟨a1, d1, col2, rfl, hI, hn, hp, hf⟩
          have N1X : Hid (∀ x, a1 = some x → x.block ≠ g12) := fun x hx e => by have h1 := (hn x hx).1; have h2 := BX_l.out.l; omega
          have I1 := hide hI
          have J1 : Hid (Af wr WXA col2 F a1) := fun x hx => ⟨Nat.le_trans SB.out (hn x hx).1, (hn x hx).2.1, (hn x hx).2.2, fun e => by have h1 := ZZ.out.rl.lt _ e; have h2 := (hn x hx).1; omega⟩
          replace BX := hide ((hf.b.block _ BX_l.out.l (fun e => e BX_l.out.c)).trans BX.out)
          replace BX_l := hide (BX_l.out.asked hf)
          replace ZZ := hide (ZZ.out.asked hp hf)
          replace SB := hide (Nat.le_trans SB.out hf.b.size)
          clear hI hn hp hf
          go_wp2_with fail
          refine hK.out _ _ (SK.out _ ZZ.out.np.b) (fun hHeld => ?_)
          clear hK K
          try simp only [Act.put, List.getElem_toArray, List.getElem_cons_zero, List.getElem_cons_succ, List.setIfInBounds_toArray, List.set_cons_zero, List.set_cons_succ]
          refine wpAnyH_ready (rs := [13, 15]) (by kernel_rfl) (by simp) ?_
          refine AllReadyH.cons rfl (fun K hK => ?q21) (AllReadyH.cons rfl (fun K hK => ?q22) AllReadyH.nil)
          case q21 =>
            go_simp
            refine (TC.out _ _ ZZ.out.rl ZZ.out.mg.ir).mono ?_
            rintro _ WXAT ⟨a2, d2, F2, rfl, hI, hn, hp, hf⟩
            have N2X : Hid (∀ x, a2 = some x → x.block ≠ g12) := fun x hx e => by have h1 := (hn x hx).1; have h2 := BX_l.out.l; omega
            have I2 := hide hI
            have J2 : Hid (Af wr WXAT col2 F2 a2) := fun x hx => ⟨Nat.le_trans SB.out (hn x hx).1, (hn x hx).2.1, ZZ.out.np.away (hn x hx).1, (hn x hx).2.2⟩
            replace I1 := hide (I1.out.but hf.b (fun x hx e => (J1.out x hx).f e))
            replace J1 := hide (J1.out.told hf)
            replace BX := hide ((hf.b.block _ BX_l.out.l BX_l.out.f).trans BX.out)
            replace BX_l := hide (BX_l.out.told hf)
            replace ZZ := hide (ZZ.out.told hp hf)
            replace SB := hide (Nat.le_trans SB.out hf.b.size)
            clear hI hn hp hf
            go_wp2_with fail
            refine hK.out _ _ (SK.out _ ZZ.out.np.b) (fun hHeld => ?_)
            clear hK K
            try simp only [Act.put, List.getElem_toArray, List.getElem_cons_zero, List.getElem_cons_succ, List.setIfInBounds_toArray, List.set_cons_zero, List.set_cons_succ]
            refine wpAnyH_ready (rs := [15]) (by kernel_rfl) (by simp) ?_
            refine AllReadyH.cons rfl (fun K hK => ?q23) AllReadyH.nil
            case q23 =>
              go_simp
              refine hK.out _ _ (SK.out _ (bt ZZ.out.np.b (al _ _))) (fun hHeld => ?_)
              clear hK K
              try simp only [Act.put, List.getElem_toArray, List.getElem_cons_zero, List.getElem_cons_succ, List.setIfInBounds_toArray, List.set_cons_zero, List.set_cons_succ]
              have aX := al WXAT (.cells #[.int .i64 0, .int .i64 0, .bool false, .slice none 0 0, .int .i64 0] 34)
              have NEo : Hid (g12 ≠ WXAT.heap.size) := Nat.ne_of_lt BX_l.out.l
              have N1Y : Hid (∀ x, a1 = some x → x.block ≠ WXAT.heap.size) := fun x hx => Nat.ne_of_lt (J1.out x hx).l
              have N2Y : Hid (∀ x, a2 = some x → x.block ≠ WXAT.heap.size) := fun x hx => Nat.ne_of_lt (J2.out x hx).l
              have BY_n := hide (ZZ.out.new SB.out (.cells #[.int .i64 0, .int .i64 0, .bool false, .slice none 0 0, .int .i64 0] 34))
              have BY_h := hide (World.alloc_heap_new WXAT (.cells #[.int .i64 0, .int .i64 0, .bool false, .slice none 0 0, .int .i64 0] 34))
              replace I1 := hide (I1.out.keep aX)
              replace J1 := hide (J1.out.keep aX)
              replace I2 := hide (I2.out.keep aX)
              replace J2 := hide (J2.out.keep aX)
              replace BX := hide ((aX.block _ BX_l.out.l).trans BX.out)
              replace BX_l := hide (BX_l.out.keep aX)
              replace ZZ := hide (ZZ.out.keep aX)
              replace SB := hide (Nat.le_trans SB.out aX.size)
              clear aX
              generalize WXAT.alloc (.cells #[.int .i64 0, .int .i64 0, .bool false, .slice none 0 0, .int .i64 0] 34) = WXATY at *
              generalize WXAT.heap.size = g13 at *
              have BY := BY_h
              have BY_l := BY_n
              clear BY_h BY_n
              have NE12 : Hid (g12 ≠ g13) := by first | exact NEo.out | exact NEo.out.symm
              have FN : Hid (Qz w wr ((WXATY.setRow g12 #[.int .i64 an, .int .i64 ann, .bool ais, .slice a1 al1.length d1, .int .i64 ae]).setRow g13 #[.int .i64 an, .int .i64 ann, .bool ais, .slice a2 al1.length d2, .int .i64 ae]) b q P2 col2 F2 E am cm M ak ck U aw cw V ⟨an, ann, ais, al1, ae⟩ g12 g13 a1 d1 a2 d2) := Qz.fin (A := ⟨an, ann, ais, al1, ae⟩) ZZ.out LO.out WB.out BX_l.out BY_l.out BX.out BY.out NE12.out I1.out J1.out I2.out J2.out (fun x hx => ⟨N1X.out x hx, N1Y.out x hx⟩) (fun x hx => ⟨N2X.out x hx, N2Y.out x hx⟩)
              have BY2 : Hid ((WXATY.setRow g12 #[.int .i64 an, .int .i64 ann, .bool ais, .slice a1 al1.length d1, .int .i64 ae]).heap[g13]? = _) := (setRow_but WXATY g12 #[.int .i64 an, .int .i64 ann, .bool ais, .slice a1 al1.length d1, .int .i64 ae]).same BY.out (fun e => NE12.out e.symm)
              have HS1 := hide (SK.out _ ((But.ofBelow (S := fun _ => False) ZZ.out.np.b).trans (setRow_but WXATY g12 #[.int .i64 an, .int .i64 ann, .bool ais, .slice a1 al1.length d1, .int .i64 ae]) (fun k hk e => by have h1 := BX_l.out.b; have h2 := WB.out; omega) |>.below (fun _ _ h => h)))
              refine wpAnyH_ready (rs := [16]) (by kernel_rfl) (by simp) ?_
              refine AllReadyH.cons rfl (fun K hK => ?_) AllReadyH.nil
              rw [if_pos (by rfl)]
              refine wp_store_row 34 _ _ rfl g12 _ rfl rfl 34 _ BX.out sizeAns rfl (by simp [Value.oneCell']) ?_
              refine hK.out _ _ HS1.out (fun hHeld => ?_)
              clear hK K
              try simp only [Act.put, List.getElem_toArray, List.getElem_cons_zero, List.getElem_cons_succ, List.setIfInBounds_toArray, List.set_cons_zero, List.set_cons_succ]
              refine wpAnyH_ready (rs := [17]) (by kernel_rfl) (by simp) ?_
              refine AllReadyH.cons rfl (fun K hK => ?_) AllReadyH.nil
              rw [if_pos (by rfl)]
              refine wp_store_row 34 _ _ rfl g13 _ rfl rfl 34 _ BY2.out sizeAns rfl (by simp [Value.oneCell']) ?_
              refine hK.out _ _ (SK.out _ FN.out.z.np.b) (fun hHeld => ?_)
              clear hK K
              try simp only [Act.put, List.getElem_toArray, List.getElem_cons_zero, List.getElem_cons_succ, List.setIfInBounds_toArray, List.set_cons_zero, List.set_cons_succ]
              refine wpAnyH_done (by kernel_rfl) ?_ _
              go_wp2_with fail
              go_meet
              case rel => exact ⟨g12, g13, a1, a2, d1, d2, col2, F2, rfl, rfl, FN.out⟩
          case q22 =>
            go_simp
            refine hK.out _ _ (SK.out _ (bt ZZ.out.np.b (al _ _))) (fun hHeld => ?_)
            clear hK K
            try simp only [Act.put, List.getElem_toArray, List.getElem_cons_zero, List.getElem_cons_succ, List.setIfInBounds_toArray, List.set_cons_zero, List.set_cons_succ]
            have aX := al WXA (.cells #[.int .i64 0, .int .i64 0, .bool false, .slice none 0 0, .int .i64 0] 34)
            have NEo : Hid (g12 ≠ WXA.heap.size) := Nat.ne_of_lt BX_l.out.l
            have N1Y : Hid (∀ x, a1 = some x → x.block ≠ WXA.heap.size) := fun x hx => Nat.ne_of_lt (J1.out x hx).l
            have BY_n := hide (ZZ.out.new SB.out (.cells #[.int .i64 0, .int .i64 0, .bool false, .slice none 0 0, .int .i64 0] 34))
            have BY_h := hide (World.alloc_heap_new WXA (.cells #[.int .i64 0, .int .i64 0, .bool false, .slice none 0 0, .int .i64 0] 34))
            replace I1 := hide (I1.out.keep aX)
            replace J1 := hide (J1.out.keep aX)
            replace BX := hide ((aX.block _ BX_l.out.l).trans BX.out)
            replace BX_l := hide (BX_l.out.keep aX)
            replace ZZ := hide (ZZ.out.keep aX)
            replace SB := hide (Nat.le_trans SB.out aX.size)
            clear aX
            generalize WXA.alloc (.cells #[.int .i64 0, .int .i64 0, .bool false, .slice none 0 0, .int .i64 0] 34) = WXAY at *
            generalize WXA.heap.size = g13 at *
            have BY := BY_h
            have BY_l := BY_n
            clear BY_h BY_n
            refine wpAnyH_ready (rs := [13]) (by kernel_rfl) (by simp) ?_
            refine AllReadyH.cons rfl (fun K hK => ?q24) AllReadyH.nil
            case q24 =>
              go_simp
              refine (TC.out _ _ ZZ.out.rl ZZ.out.mg.ir).mono ?_
              rintro _ WXAYT ⟨a2, d2, F2, rfl, hI, hn, hp, hf⟩
              have N2X : Hid (∀ x, a2 = some x → x.block ≠ g12) := fun x hx e => by have h1 := (hn x hx).1; have h2 := BX_l.out.l; omega
              have N2Y : Hid (∀ x, a2 = some x → x.block ≠ g13) := fun x hx e => by have h1 := (hn x hx).1; have h2 := BY_l.out.l; omega
              have I2 := hide hI
              have J2 : Hid (Af wr WXAYT col2 F2 a2) := fun x hx => ⟨Nat.le_trans SB.out (hn x hx).1, (hn x hx).2.1, ZZ.out.np.away (hn x hx).1, (hn x hx).2.2⟩
              replace I1 := hide (I1.out.but hf.b (fun x hx e => (J1.out x hx).f e))
              replace J1 := hide (J1.out.told hf)
              replace BX := hide ((hf.b.block _ BX_l.out.l BX_l.out.f).trans BX.out)
              replace BX_l := hide (BX_l.out.told hf)
              replace BY := hide ((hf.b.block _ BY_l.out.l BY_l.out.f).trans BY.out)
              replace BY_l := hide (BY_l.out.told hf)
              replace ZZ := hide (ZZ.out.told hp hf)
              replace SB := hide (Nat.le_trans SB.out hf.b.size)
              clear hI hn hp hf
              go_wp2_with fail
              refine hK.out _ _ (SK.out _ ZZ.out.np.b) (fun hHeld => ?_)
              clear hK K
              try simp only [Act.put, List.getElem_toArray, List.getElem_cons_zero, List.getElem_cons_succ, List.setIfInBounds_toArray, List.set_cons_zero, List.set_cons_succ]
              have NE12 : Hid (g12 ≠ g13) := by first | exact NEo.out | exact NEo.out.symm
              have FN : Hid (Qz w wr ((WXAYT.setRow g12 #[.int .i64 an, .int .i64 ann, .bool ais, .slice a1 al1.length d1, .int .i64 ae]).setRow g13 #[.int .i64 an, .int .i64 ann, .bool ais, .slice a2 al1.length d2, .int .i64 ae]) b q P2 col2 F2 E am cm M ak ck U aw cw V ⟨an, ann, ais, al1, ae⟩ g12 g13 a1 d1 a2 d2) := Qz.fin (A := ⟨an, ann, ais, al1, ae⟩) ZZ.out LO.out WB.out BX_l.out BY_l.out BX.out BY.out NE12.out I1.out J1.out I2.out J2.out (fun x hx => ⟨N1X.out x hx, N1Y.out x hx⟩) (fun x hx => ⟨N2X.out x hx, N2Y.out x hx⟩)
              have BY2 : Hid ((WXAYT.setRow g12 #[.int .i64 an, .int .i64 ann, .bool ais, .slice a1 al1.length d1, .int .i64 ae]).heap[g13]? = _) := (setRow_but WXAYT g12 #[.int .i64 an, .int .i64 ann, .bool ais, .slice a1 al1.length d1, .int .i64 ae]).same BY.out (fun e => NE12.out e.symm)
              have HS1 := hide (SK.out _ ((But.ofBelow (S := fun _ => False) ZZ.out.np.b).trans (setRow_but WXAYT g12 #[.int .i64 an, .int .i64 ann, .bool ais, .slice a1 al1.length d1, .int .i64 ae]) (fun k hk e => by have h1 := BX_l.out.b; have h2 := WB.out; omega) |>.below (fun _ _ h => h)))
              refine wpAnyH_ready (rs := [16]) (by kernel_rfl) (by simp) ?_
              refine AllReadyH.cons rfl (fun K hK => ?_) AllReadyH.nil
              rw [if_pos (by rfl)]
              refine wp_store_row 34 _ _ rfl g12 _ rfl rfl 34 _ BX.out sizeAns rfl (by simp [Value.oneCell']) ?_
              refine hK.out _ _ HS1.out (fun hHeld => ?_)
              clear hK K
              try simp only [Act.put, List.getElem_toArray, List.getElem_cons_zero, List.getElem_cons_succ, List.setIfInBounds_toArray, List.set_cons_zero, List.set_cons_succ]
              refine wpAnyH_ready (rs := [17]) (by kernel_rfl) (by simp) ?_
              refine AllReadyH.cons rfl (fun K hK => ?_) AllReadyH.nil
              rw [if_pos (by rfl)]
              refine wp_store_row 34 _ _ rfl g13 _ rfl rfl 34 _ BY2.out sizeAns rfl (by simp [Value.oneCell']) ?_
              refine hK.out _ _ (SK.out _ FN.out.z.np.b) (fun hHeld => ?_)
              clear hK K
              try simp only [Act.put, List.getElem_toArray, List.getElem_cons_zero, List.getElem_cons_succ, List.setIfInBounds_toArray, List.set_cons_zero, List.set_cons_succ]
              refine wpAnyH_done (by kernel_rfl) ?_ _
              go_wp2_with fail
              go_meet
              case rel => exact ⟨g12, g13, a1, a2, d1, d2, col2, F2, rfl, rfl, FN.out⟩
        case q20 =>
          go_simp
          refine hK.out _ _ (SK.out _ (bt ZZ.out.np.b (al _ _))) (fun hHeld => ?_)
          clear hK K
          try simp only [Act.put, List.getElem_toArray, List.getElem_cons_zero, List.getElem_cons_succ, List.setIfInBounds_toArray, List.set_cons_zero, List.set_cons_succ]
          have aX := al WX (.cells #[.int .i64 0, .int .i64 0, .bool false, .slice none 0 0, .int .i64 0] 34)
          have NEo : Hid (g12 ≠ WX.heap.size) := Nat.ne_of_lt BX_l.out.l
          have BY_n := hide (ZZ.out.new SB.out (.cells #[.int .i64 0, .int .i64 0, .bool false, .slice none 0 0, .int .i64 0] 34))
          have BY_h := hide (World.alloc_heap_new WX (.cells #[.int .i64 0, .int .i64 0, .bool false, .slice none 0 0, .int .i64 0] 34))
          replace BX := hide ((aX.block _ BX_l.out.l).trans BX.out)
          replace BX_l := hide (BX_l.out.keep aX)
          replace ZZ := hide (ZZ.out.keep aX)
          replace SB := hide (Nat.le_trans SB.out aX.size)
          clear aX
          generalize WX.alloc (.cells #[.int .i64 0, .int .i64 0, .bool false, .slice none 0 0, .int .i64 0] 34) = WXY at *
          generalize WX.heap.size = g13 at *
          have BY := BY_h
          have BY_l := BY_n
          clear BY_h BY_n
          refine wpAnyH_ready (rs := [6]) (by kernel_rfl) (by simp) ?_
          refine AllReadyH.cons rfl (fun K hK => ?q25) AllReadyH.nil
          case q25 =>
            go_simp
            refine (AC.out _ ZZ.out.np.p ZZ.out.mg.ir).mono ?_
            rintro _ WXYA ⟨a1, d1, col2, rfl, hI, hn, hp, hf⟩
            have N1X : Hid (∀ x, a1 = some x → x.block ≠ g12) := fun x hx e => by have h1 := (hn x hx).1; have h2 := BX_l.out.l; omega
            have N1Y : Hid (∀ x, a1 = some x → x.block ≠ g13) := fun x hx e => by have h1 := (hn x hx).1; have h2 := BY_l.out.l; omega
            have I1 := hide hI
            have J1 : Hid (Af wr WXYA col2 F a1) := fun x hx => ⟨Nat.le_trans SB.out (hn x hx).1, (hn x hx).2.1, (hn x hx).2.2, fun e => by have h1 := ZZ.out.rl.lt _ e; have h2 := (hn x hx).1; omega⟩
            replace BX := hide ((hf.b.block _ BX_l.out.l (fun e => e BX_l.out.c)).trans BX.out)
            replace BX_l := hide (BX_l.out.asked hf)
            replace BY := hide ((hf.b.block _ BY_l.out.l (fun e => e BY_l.out.c)).trans BY.out)
            replace BY_l := hide (BY_l.out.asked hf)
            replace ZZ := hide (ZZ.out.asked hp hf)
            replace SB := hide (Nat.le_trans SB.out hf.b.size)
            clear hI hn hp hf
            go_wp2_with fail
            refine hK.out _ _ (SK.out _ ZZ.out.np.b) (fun hHeld => ?_)
            clear hK K
            try simp only [Act.put, List.getElem_toArray, List.getElem_cons_zero, List.getElem_cons_succ, List.setIfInBounds_toArray, List.set_cons_zero, List.set_cons_succ]
            refine wpAnyH_ready (rs := [13]) (by kernel_rfl) (by simp) ?_
            refine AllReadyH.cons rfl (fun K hK => ?q26) AllReadyH.nil
            case q26 =>
              go_simp
              refine (TC.out _ _ ZZ.out.rl ZZ.out.mg.ir).mono ?_
              rintro _ WXYAT ⟨a2, d2, F2, rfl, hI, hn, hp, hf⟩
              have N2X : Hid (∀ x, a2 = some x → x.block ≠ g12) := fun x hx e => by have h1 := (hn x hx).1; have h2 := BX_l.out.l; omega
              have N2Y : Hid (∀ x, a2 = some x → x.block ≠ g13) := fun x hx e => by have h1 := (hn x hx).1; have h2 := BY_l.out.l; omega
              have I2 := hide hI
              have J2 : Hid (Af wr WXYAT col2 F2 a2) := fun x hx => ⟨Nat.le_trans SB.out (hn x hx).1, (hn x hx).2.1, ZZ.out.np.away (hn x hx).1, (hn x hx).2.2⟩
              replace I1 := hide (I1.out.but hf.b (fun x hx e => (J1.out x hx).f e))
              replace J1 := hide (J1.out.told hf)
              replace BX := hide ((hf.b.block _ BX_l.out.l BX_l.out.f).trans BX.out)
              replace BX_l := hide (BX_l.out.told hf)
              replace BY := hide ((hf.b.block _ BY_l.out.l BY_l.out.f).trans BY.out)
              replace BY_l := hide (BY_l.out.told hf)
              replace ZZ := hide (ZZ.out.told hp hf)
              replace SB := hide (Nat.le_trans SB.out hf.b.size)
              clear hI hn hp hf
              go_wp2_with fail
              refine hK.out _ _ (SK.out _ ZZ.out.np.b) (fun hHeld => ?_)
              clear hK K
              try simp only [Act.put, List.getElem_toArray, List.getElem_cons_zero, List.getElem_cons_succ, List.setIfInBounds_toArray, List.set_cons_zero, List.set_cons_succ]
              have NE12 : Hid (g12 ≠ g13) := by first | exact NEo.out | exact NEo.out.symm
              have FN : Hid (Qz w wr ((WXYAT.setRow g12 #[.int .i64 an, .int .i64 ann, .bool ais, .slice a1 al1.length d1, .int .i64 ae]).setRow g13 #[.int .i64 an, .int .i64 ann, .bool ais, .slice a2 al1.length d2, .int .i64 ae]) b q P2 col2 F2 E am cm M ak ck U aw cw V ⟨an, ann, ais, al1, ae⟩ g12 g13 a1 d1 a2 d2) := Qz.fin (A := ⟨an, ann, ais, al1, ae⟩) ZZ.out LO.out WB.out BX_l.out BY_l.out BX.out BY.out NE12.out I1.out J1.out I2.out J2.out (fun x hx => ⟨N1X.out x hx, N1Y.out x hx⟩) (fun x hx => ⟨N2X.out x hx, N2Y.out x hx⟩)
              have BY2 : Hid ((WXYAT.setRow g12 #[.int .i64 an, .int .i64 ann, .bool ais, .slice a1 al1.length d1, .int .i64 ae]).heap[g13]? = _) := (setRow_but WXYAT g12 #[.int .i64 an, .int .i64 ann, .bool ais, .slice a1 al1.length d1, .int .i64 ae]).same BY.out (fun e => NE12.out e.symm)
              have HS1 := hide (SK.out _ ((But.ofBelow (S := fun _ => False) ZZ.out.np.b).trans (setRow_but WXYAT g12 #[.int .i64 an, .int .i64 ann, .bool ais, .slice a1 al1.length d1, .int .i64 ae]) (fun k hk e => by have h1 := BX_l.out.b; have h2 := WB.out; omega) |>.below (fun _ _ h => h)))
              refine wpAnyH_ready (rs := [16]) (by kernel_rfl) (by simp) ?_
              refine AllReadyH.cons rfl (fun K hK => ?_) AllReadyH.nil
              rw [if_pos (by rfl)]
              refine wp_store_row 34 _ _ rfl g12 _ rfl rfl 34 _ BX.out sizeAns rfl (by simp [Value.oneCell']) ?_
              refine hK.out _ _ HS1.out (fun hHeld => ?_)
              clear hK K
              try simp only [Act.put, List.getElem_toArray, List.getElem_cons_zero, List.getElem_cons_succ, List.setIfInBounds_toArray, List.set_cons_zero, List.set_cons_succ]
              refine wpAnyH_ready (rs := [17]) (by kernel_rfl) (by simp) ?_
              refine AllReadyH.cons rfl (fun K hK => ?_) AllReadyH.nil
              rw [if_pos (by rfl)]
              refine wp_store_row 34 _ _ rfl g13 _ rfl rfl 34 _ BY2.out sizeAns rfl (by simp [Value.oneCell']) ?_
              refine hK.out _ _ (SK.out _ FN.out.z.np.b) (fun hHeld => ?_)
              clear hK K
              try simp only [Act.put, List.getElem_toArray, List.getElem_cons_zero, List.getElem_cons_succ, List.setIfInBounds_toArray, List.set_cons_zero, List.set_cons_succ]
              refine wpAnyH_done (by kernel_rfl) ?_ _
              go_wp2_with fail
              go_meet
              case rel => exact ⟨g12, g13, a1, a2, d1, d2, col2, F2, rfl, rfl, FN.out⟩
      case q3 =>
        go_simp
        refine hK.out _ _ (SK.out _ (bt ZZ.out.np.b (al _ _))) (fun hHeld => ?_)
        clear hK K
        try simp only [Act.put, List.getElem_toArray, List.getElem_cons_zero, List.getElem_cons_succ, List.setIfInBounds_toArray, List.set_cons_zero, List.set_cons_succ]
        have aX := al W (.cells #[.int .i64 0, .int .i64 0, .bool false, .slice none 0 0, .int .i64 0] 34)
        have BY_n := hide (ZZ.out.new SB.out (.cells #[.int .i64 0, .int .i64 0, .bool false, .slice none 0 0, .int .i64 0] 34))
        have BY_h := hide (World.alloc_heap_new W (.cells #[.int .i64 0, .int .i64 0, .bool false, .slice none 0 0, .int .i64 0] 34))
        replace ZZ := hide (ZZ.out.keep aX)
        replace SB := hide (Nat.le_trans SB.out aX.size)
        clear aX
        generalize W.alloc (.cells #[.int .i64 0, .int .i64 0, .bool false, .slice none 0 0, .int .i64 0] 34) = WY at *
        generalize W.heap.size = g13 at *
        have BY := BY_h
        have BY_l := BY_n
        clear BY_h BY_n
        refine wpAnyH_ready (rs := [6, 14]) (by kernel_rfl) (by simp) ?_
        refine AllReadyH.cons rfl (fun K hK => ?q27) (AllReadyH.cons rfl (fun K hK => ?q28) AllReadyH.nil)
        case q27 =>
          go_simp
          refine (AC.out _ ZZ.out.np.p ZZ.out.mg.ir).mono ?_
          rintro _ WYA ⟨a1, d1, col2, rfl, hI, hn, hp, hf⟩
          have N1Y : Hid (∀ x, a1 = some x → x.block ≠ g13) := fun x hx e => by have h1 := (hn x hx).1; have h2 := BY_l.out.l; omega
          have I1 := hide hI
          have J1 : Hid (Af wr WYA col2 F a1) := fun x hx => ⟨Nat.le_trans SB.out (hn x hx).1, (hn x hx).2.1, (hn x hx).2.2, fun e => by have h1 := ZZ.out.rl.lt _ e; have h2 := (hn x hx).1; omega⟩
          replace BY := hide ((hf.b.block _ BY_l.out.l (fun e => e BY_l.out.c)).trans BY.out)
          replace BY_l := hide (BY_l.out.asked hf)
          replace ZZ := hide (ZZ.out.asked hp hf)
          replace SB := hide (Nat.le_trans SB.out hf.b.size)
          clear hI hn hp hf
          go_wp2_with fail
          refine hK.out _ _ (SK.out _ ZZ.out.np.b) (fun hHeld => ?_)
          clear hK K
          try simp only [Act.put, List.getElem_toArray, List.getElem_cons_zero, List.getElem_cons_succ, List.setIfInBounds_toArray, List.set_cons_zero, List.set_cons_succ]
          refine wpAnyH_ready (rs := [13, 14]) (by kernel_rfl) (by simp) ?_
          refine AllReadyH.cons rfl (fun K hK => ?q29) (AllReadyH.cons rfl (fun K hK => ?q30) AllReadyH.nil)
          case q29 =>
            go_simp
            refine (TC.out _ _ ZZ.out.rl ZZ.out.mg.ir).mono ?_
            rintro _ WYAT ⟨a2, d2, F2, rfl, hI, hn, hp, hf⟩
            have N2Y : Hid (∀ x, a2 = some x → x.block ≠ g13) := fun x hx e => by have h1 := (hn x hx).1; have h2 := BY_l.out.l; omega
            have I2 := hide hI
            have J2 : Hid (Af wr WYAT col2 F2 a2) := fun x hx => ⟨Nat.le_trans SB.out (hn x hx).1, (hn x hx).2.1, ZZ.out.np.away (hn x hx).1, (hn x hx).2.2⟩
            replace I1 := hide (I1.out.but hf.b (fun x hx e => (J1.out x hx).f e))
            replace J1 := hide (J1.out.told hf)
            replace BY := hide ((hf.b.block _ BY_l.out.l BY_l.out.f).trans BY.out)
            replace BY_l := hide (BY_l.out.told hf)
            replace ZZ := hide (ZZ.out.told hp hf)
            replace SB := hide (Nat.le_trans SB.out hf.b.size)
            clear hI hn hp hf
            go_wp2_with fail
            refine hK.out _ _ (SK.out _ ZZ.out.np.b) (fun hHeld => ?_)
            clear hK K
            try simp only [Act.put, List.getElem_toArray, List.getElem_cons_zero, List.getElem_cons_succ, List.setIfInBounds_toArray, List.set_cons_zero, List.set_cons_succ]
            refine wpAnyH_ready (rs := [14]) (by kernel_rfl) (by simp) ?_
            refine AllReadyH.cons rfl (fun K hK => ?q31) AllReadyH.nil
            case q31 =>
              go_simp
              refine hK.out _ _ (SK.out _ (bt ZZ.out.np.b (al _ _))) (fun hHeld => ?_)
              clear hK K
              try simp only [Act.put, List.getElem_toArray, List.getElem_cons_zero, List.getElem_cons_succ, List.setIfInBounds_toArray, List.set_cons_zero, List.set_cons_succ]
              have aX := al WYAT (.cells #[.int .i64 0, .int .i64 0, .bool false, .slice none 0 0, .int .i64 0] 34)
              have NEo : Hid (g13 ≠ WYAT.heap.size) := Nat.ne_of_lt BY_l.out.l
              have N1X : Hid (∀ x, a1 = some x → x.block ≠ WYAT.heap.size) := fun x hx => Nat.ne_of_lt (J1.out x hx).l
              have N2X : Hid (∀ x, a2 = some x → x.block ≠ WYAT.heap.size) := fun x hx => Nat.ne_of_lt (J2.out x hx).l
              have BX_n := hide (ZZ.out.new SB.out (.cells #[.int .i64 0, .int .i64 0, .bool false, .slice none 0 0, .int .i64 0] 34))
              have BX_h := hide (World.alloc_heap_new WYAT (.cells #[.int .i64 0, .int .i64 0, .bool false, .slice none 0 0, .int .i64 0] 34))
              replace I1 := hide (I1.out.keep aX)
              replace J1 := hide (J1.out.keep aX)
              replace I2 := hide (I2.out.keep aX)
              replace J2 := hide (J2.out.keep aX)
              replace BY := hide ((aX.block _ BY_l.out.l).trans BY.out)
              replace BY_l := hide (BY_l.out.keep aX)
              replace ZZ := hide (ZZ.out.keep aX)
              replace SB := hide (Nat.le_trans SB.out aX.size)
              clear aX
              generalize WYAT.alloc (.cells #[.int .i64 0, .int .i64 0, .bool false, .slice none 0 0, .int .i64 0] 34) = WYATX at *
              generalize WYAT.heap.size = g12 at *
              have BX := BX_h
              have BX_l := BX_n
              clear BX_h BX_n
              have NE12 : Hid (g12 ≠ g13) := by first | exact NEo.out | exact NEo.out.symm
              have FN : Hid (Qz w wr ((WYATX.setRow g12 #[.int .i64 an, .int .i64 ann, .bool ais, .slice a1 al1.length d1, .int .i64 ae]).setRow g13 #[.int .i64 an, .int .i64 ann, .bool ais, .slice a2 al1.length d2, .int .i64 ae]) b q P2 col2 F2 E am cm M ak ck U aw cw V ⟨an, ann, ais, al1, ae⟩ g12 g13 a1 d1 a2 d2) := Qz.fin (A := ⟨an, ann, ais, al1, ae⟩) ZZ.out LO.out WB.out BX_l.out BY_l.out BX.out BY.out NE12.out I1.out J1.out I2.out J2.out (fun x hx => ⟨N1X.out x hx, N1Y.out x hx⟩) (fun x hx => ⟨N2X.out x hx, N2Y.out x hx⟩)
              have BY2 : Hid ((WYATX.setRow g12 #[.int .i64 an, .int .i64 ann, .bool ais, .slice a1 al1.length d1, .int .i64 ae]).heap[g13]? = _) := (setRow_but WYATX g12 #[.int .i64 an, .int .i64 ann, .bool ais, .slice a1 al1.length d1, .int .i64 ae]).same BY.out (fun e => NE12.out e.symm)
              have HS1 := hide (SK.out _ ((But.ofBelow (S := fun _ => False) ZZ.out.np.b).trans (setRow_but WYATX g12 #[.int .i64 an, .int .i64 ann, .bool ais, .slice a1 al1.length d1, .int .i64 ae]) (fun k hk e => by have h1 := BX_l.out.b; have h2 := WB.out; omega) |>.below (fun _ _ h => h)))
              refine wpAnyH_ready (rs := [16]) (by kernel_rfl) (by simp) ?_
              refine AllReadyH.cons rfl (fun K hK => ?_) AllReadyH.nil
              rw [if_pos (by rfl)]
              refine wp_store_row 34 _ _ rfl g12 _ rfl rfl 34 _ BX.out sizeAns rfl (by simp [Value.oneCell']) ?_
              refine hK.out _ _ HS1.out (fun hHeld => ?_)
              clear hK K
              try simp only [Act.put, List.getElem_toArray, List.getElem_cons_zero, List.getElem_cons_succ, List.setIfInBounds_toArray, List.set_cons_zero, List.set_cons_succ]
              refine wpAnyH_ready (rs := [17]) (by kernel_rfl) (by simp) ?_
              refine AllReadyH.cons rfl (fun K hK => ?_) AllReadyH.nil
              rw [if_pos (by rfl)]
              refine wp_store_row 34 _ _ rfl g13 _ rfl rfl 34 _ BY2.out sizeAns rfl (by simp [Value.oneCell']) ?_
              refine hK.out _ _ (SK.out _ FN.out.z.np.b) (fun hHeld => ?_)
              clear hK K
              try simp only [Act.put, List.getElem_toArray, List.getElem_cons_zero, List.getElem_cons_succ, List.setIfInBounds_toArray, List.set_cons_zero, List.set_cons_succ]
              refine wpAnyH_done (by kernel_rfl) ?_ _
              go_wp2_with fail
              go_meet
              case rel => exact ⟨g12, g13, a1, a2, d1, d2, col2, F2, rfl, rfl, FN.out⟩
          case q30 =>
            go_simp
            refine hK.out _ _ (SK.out _ (bt ZZ.out.np.b (al _ _))) (fun hHeld => ?_)
            clear hK K
            try simp only [Act.put, List.getElem_toArray, List.getElem_cons_zero, List.getElem_cons_succ, List.setIfInBounds_toArray, List.set_cons_zero, List.set_cons_succ]
            have aX := al WYA (.cells #[.int .i64 0, .int .i64 0, .bool false, .slice none 0 0, .int .i64 0] 34)
            have NEo : Hid (g13 ≠ WYA.heap.size) := Nat.ne_of_lt BY_l.out.l
            have N1X : Hid (∀ x, a1 = some x → x.block ≠ WYA.heap.size) := fun x hx => Nat.ne_of_lt (J1.out x hx).l
            have BX_n := hide (ZZ.out.new SB.out (.cells #[.int .i64 0, .int .i64 0, .bool false, .slice none 0 0, .int .i64 0] 34))
            have BX_h := hide (World.alloc_heap_new WYA (.cells #[.int .i64 0, .int .i64 0, .bool false, .slice none 0 0, .int .i64 0] 34))
            replace I1 := hide (I1.out.keep aX)
            replace J1 := hide (J1.out.keep aX)
            replace BY := hide ((aX.block _ BY_l.out.l).trans BY.out)
            replace BY_l := hide (BY_l.out.keep aX)
            replace ZZ := hide (ZZ.out.keep aX)
            replace SB := hide (Nat.le_trans SB.out aX.size)
            clear aX
            generalize WYA.alloc (.cells #[.int .i64 0, .int .i64 0, .bool false, .slice none 0 0, .int .i64 0] 34) = WYAX at *
            generalize WYA.heap.size = g12 at *
            have BX := BX_h
            have BX_l := BX_n
            clear BX_h BX_n
            refine wpAnyH_ready (rs := [13]) (by kernel_rfl) (by simp) ?_
            refine AllReadyH.cons rfl (fun K hK => ?q32) AllReadyH.nil
            case q32 =>
              go_simp
              refine (TC.out _ _ ZZ.out.rl ZZ.out.mg.ir).mono ?_
              rintro _ WYAXT ⟨a2, d2, F2, rfl, hI, hn, hp, hf⟩
              have N2X : Hid (∀ x, a2 = some x → x.block ≠ g12) := fun x hx e => by have h1 := (hn x hx).1; have h2 := BX_l.out.l; omega
              have N2Y : Hid (∀ x, a2 = some x → x.block ≠ g13) := fun x hx e => by have h1 := (hn x hx).1; have h2 := BY_l.out.l; omega
              have I2 := hide hI
              have J2 : Hid (Af wr WYAXT col2 F2 a2) := fun x hx => ⟨Nat.le_trans SB.out (hn x hx).1, (hn x hx).2.1, ZZ.out.np.away (hn x hx).1, (hn x hx).2.2⟩
              replace I1 := hide (I1.out.but hf.b (fun x hx e => (J1.out x hx).f e))
              replace J1 := hide (J1.out.told hf)
              replace BX := hide ((hf.b.block _ BX_l.out.l BX_l.out.f).trans BX.out)
              replace BX_l := hide (BX_l.out.told hf)
              replace BY := hide ((hf.b.block _ BY_l.out.l BY_l.out.f).trans BY.out)
              replace BY_l := hide (BY_l.out.told hf)
              replace ZZ := hide (ZZ.out.told hp hf)
              replace SB := hide (Nat.le_trans SB.out hf.b.size)
              clear hI hn hp hf
              go_wp2_with fail
              refine hK.out _ _ (SK.out _ ZZ.out.np.b) (fun hHeld => ?_)
              clear hK K
              try simp only [Act.put, List.getElem_toArray, List.getElem_cons_zero, List.getElem_cons_succ, List.setIfInBounds_toArray, List.set_cons_zero, List.set_cons_succ]
              have NE12 : Hid (g12 ≠ g13) := by first | exact NEo.out | exact NEo.out.symm
              have FN : Hid (Qz w wr ((WYAXT.setRow g12 #[.int .i64 an, .int .i64 ann, .bool ais, .slice a1 al1.length d1, .int .i64 ae]).setRow g13 #[.int .i64 an, .int .i64 ann, .bool ais, .slice a2 al1.length d2, .int .i64 ae]) b q P2 col2 F2 E am cm M ak ck U aw cw V ⟨an, ann, ais, al1, ae⟩ g12 g13 a1 d1 a2 d2) := Qz.fin (A := ⟨an, ann, ais, al1, ae⟩) ZZ.out LO.out WB.out BX_l.out BY_l.out BX.out BY.out NE12.out I1.out J1.out I2.out J2.out (fun x hx => ⟨N1X.out x hx, N1Y.out x hx⟩) (fun x hx => ⟨N2X.out x hx, N2Y.out x hx⟩)
              have BY2 : Hid ((WYAXT.setRow g12 #[.int .i64 an, .int .i64 ann, .bool ais, .slice a1 al1.length d1, .int .i64 ae]).heap[g13]? = _) := (setRow_but WYAXT g12 #[.int .i64 an, .int .i64 ann, .bool ais, .slice a1 al1.length d1, .int .i64 ae]).same BY.out (fun e => NE12.out e.symm)
              have HS1 := hide (SK.out _ ((But.ofBelow (S := fun _ => False) ZZ.out.np.b).trans (setRow_but WYAXT g12 #[.int .i64 an, .int .i64 ann, .bool ais, .slice a1 al1.length d1, .int .i64 ae]) (fun k hk e => by have h1 := BX_l.out.b; have h2 := WB.out; omega) |>.below (fun _ _ h => h)))
              refine wpAnyH_ready (rs := [16]) (by kernel_rfl) (by simp) ?_
              refine AllReadyH.cons rfl (fun K hK => ?_) AllReadyH.nil
              rw [if_pos (by rfl)]
              refine wp_store_row 34 _ _ rfl g12 _ rfl rfl 34 _ BX.out sizeAns rfl (by simp [Value.oneCell']) ?_
              refine hK.out _ _ HS1.out (fun hHeld => ?_)
              clear hK K
              try simp only [Act.put, List.getElem_toArray, List.getElem_cons_zero, List.getElem_cons_succ, List.setIfInBounds_toArray, List.set_cons_zero, List.set_cons_succ]
              refine wpAnyH_ready (rs := [17]) (by kernel_rfl) (by simp) ?_
              refine AllReadyH.cons rfl (fun K hK => ?_) AllReadyH.nil
              rw [if_pos (by rfl)]
              refine wp_store_row 34 _ _ rfl g13 _ rfl rfl 34 _ BY2.out sizeAns rfl (by simp [Value.oneCell']) ?_
              refine hK.out _ _ (SK.out _ FN.out.z.np.b) (fun hHeld => ?_)
              clear hK K
              try simp only [Act.put, List.getElem_toArray, List.getElem_cons_zero, List.getElem_cons_succ, List.setIfInBounds_toArray, List.set_cons_zero, List.set_cons_succ]
              refine wpAnyH_done (by kernel_rfl) ?_ _
              go_wp2_with fail
              go_meet
              case rel => exact ⟨g12, g13, a1, a2, d1, d2, col2, F2, rfl, rfl, FN.out⟩
        case q28 =>
          go_simp
          refine hK.out _ _ (SK.out _ (bt ZZ.out.np.b (al _ _))) (fun hHeld => ?_)
          clear hK K
          try simp only [Act.put, List.getElem_toArray, List.getElem_cons_zero, List.getElem_cons_succ, List.setIfInBounds_toArray, List.set_cons_zero, List.set_cons_succ]
          have aX := al WY (.cells #[.int .i64 0, .int .i64 0, .bool false, .slice none 0 0, .int .i64 0] 34)
          have NEo : Hid (g13 ≠ WY.heap.size) := Nat.ne_of_lt BY_l.out.l
          have BX_n := hide (ZZ.out.new SB.out (.cells #[.int .i64 0, .int .i64 0, .bool false, .slice none 0 0, .int .i64 0] 34))
          have BX_h := hide (World.alloc_heap_new WY (.cells #[.int .i64 0, .int .i64 0, .bool false, .slice none 0 0, .int .i64 0] 34))
          replace BY := hide ((aX.block _ BY_l.out.l).trans BY.out)
          replace BY_l := hide (BY_l.out.keep aX)
          replace ZZ := hide (ZZ.out.keep aX)
          replace SB := hide (Nat.le_trans SB.out aX.size)
          clear aX
          generalize WY.alloc (.cells #[.int .i64 0, .int .i64 0, .bool false, .slice none 0 0, .int .i64 0] 34) = WYX at *
          generalize WY.heap.size = g12 at *
          have BX := BX_h
          have BX_l := BX_n
          clear BX_h BX_n
          refine wpAnyH_ready (rs := [6]) (by kernel_rfl) (by simp) ?_
          refine AllReadyH.cons rfl (fun K hK => ?q33) AllReadyH.nil
          case q33 =>
            go_simp
            refine (AC.out _ ZZ.out.np.p ZZ.out.mg.ir).mono ?_
            rintro _ WYXA ⟨a1, d1, col2, rfl, hI, hn, hp, hf⟩
            have N1X : Hid (∀ x, a1 = some x → x.block ≠ g12) := fun x hx e => by have h1 := (hn x hx).1; have h2 := BX_l.out.l; omega
            have N1Y : Hid (∀ x, a1 = some x → x.block ≠ g13) := fun x hx e => by have h1 := (hn x hx).1; have h2 := BY_l.out.l; omega
            have I1 := hide hI
            have J1 : Hid (Af wr WYXA col2 F a1) := fun x hx => ⟨Nat.le_trans SB.out (hn x hx).1, (hn x hx).2.1, (hn x hx).2.2, fun e => by have h1 := ZZ.out.rl.lt _ e; have h2 := (hn x hx).1; omega⟩
            replace BX := hide ((hf.b.block _ BX_l.out.l (fun e => e BX_l.out.c)).trans BX.out)
            replace BX_l := hide (BX_l.out.asked hf)
            replace BY := hide ((hf.b.block _ BY_l.out.l (fun e => e BY_l.out.c)).trans BY.out)
            replace BY_l := hide (BY_l.out.asked hf)
            replace ZZ := hide (ZZ.out.asked hp hf)
            replace SB := hide (Nat.le_trans SB.out hf.b.size)
            clear hI hn hp hf
            go_wp2_with fail
            refine hK.out _ _ (SK.out _ ZZ.out.np.b) (fun hHeld => ?_)
            clear hK K
            try simp only [Act.put, List.getElem_toArray, List.getElem_cons_zero, List.getElem_cons_succ, List.setIfInBounds_toArray, List.set_cons_zero, List.set_cons_succ]
            refine wpAnyH_ready (rs := [13]) (by kernel_rfl) (by simp) ?_
            refine AllReadyH.cons rfl (fun K hK => ?q34) AllReadyH.nil
            case q34 =>
              go_simp
              refine (TC.out _ _ ZZ.out.rl ZZ.out.mg.ir).mono ?_
              rintro _ WYXAT ⟨a2, d2, F2, rfl, hI, hn, hp, hf⟩
              have N2X : Hid (∀ x, a2 = some x → x.block ≠ g12) := fun x hx e => by have h1 := (hn x hx).1; have h2 := BX_l.out.l; omega
              have N2Y : Hid (∀ x, a2 = some x → x.block ≠ g13) := fun x hx e => by have h1 := (hn x hx).1; have h2 := BY_l.out.l; omega
              have I2 := hide hI
              have J2 : Hid (Af wr WYXAT col2 F2 a2) := fun x hx => ⟨Nat.le_trans SB.out (hn x hx).1, (hn x hx).2.1, ZZ.out.np.away (hn x hx).1, (hn x hx).2.2⟩
              replace I1 := hide (I1.out.but hf.b (fun x hx e => (J1.out x hx).f e))
              replace J1 := hide (J1.out.told hf)
              replace BX := hide ((hf.b.block _ BX_l.out.l BX_l.out.f).trans BX.out)
              replace BX_l := hide (BX_l.out.told hf)
              replace BY := hide ((hf.b.block _ BY_l.out.l BY_l.out.f).trans BY.out)
              replace BY_l := hide (BY_l.out.told hf)
              replace ZZ := hide (ZZ.out.told hp hf)
              replace SB := hide (Nat.le_trans SB.out hf.b.size)
              clear hI hn hp hf
              go_wp2_with fail
              refine hK.out _ _ (SK.out _ ZZ.out.np.b) (fun hHeld => ?_)
              clear hK K
              try simp only [Act.put, List.getElem_toArray, List.getElem_cons_zero, List.getElem_cons_succ, List.setIfInBounds_toArray, List.set_cons_zero, List.set_cons_succ]
              have NE12 : Hid (g12 ≠ g13) := by first | exact NEo.out | exact NEo.out.symm
              have FN : Hid (Qz w wr ((WYXAT.setRow g12 #[.int .i64 an, .int .i64 ann, .bool ais, .slice a1 al1.length d1, .int .i64 ae]).setRow g13 #[.int .i64 an, .int .i64 ann, .bool ais, .slice a2 al1.length d2, .int .i64 ae]) b q P2 col2 F2 E am cm M ak ck U aw cw V ⟨an, ann, ais, al1, ae⟩ g12 g13 a1 d1 a2 d2) := Qz.fin (A := ⟨an, ann, ais, al1, ae⟩) ZZ.out LO.out WB.out BX_l.out BY_l.out BX.out BY.out NE12.out I1.out J1.out I2.out J2.out (fun x hx => ⟨N1X.out x hx, N1Y.out x hx⟩) (fun x hx => ⟨N2X.out x hx, N2Y.out x hx⟩)
              have BY2 : Hid ((WYXAT.setRow g12 #[.int .i64 an, .int .i64 ann, .bool ais, .slice a1 al1.length d1, .int .i64 ae]).heap[g13]? = _) := (setRow_but WYXAT g12 #[.int .i64 an, .int .i64 ann, .bool ais, .slice a1 al1.length d1, .int .i64 ae]).same BY.out (fun e => NE12.out e.symm)
              have HS1 := hide (SK.out _ ((But.ofBelow (S := fun _ => False) ZZ.out.np.b).trans (setRow_but WYXAT g12 #[.int .i64 an, .int .i64 ann, .bool ais, .slice a1 al1.length d1, .int .i64 ae]) (fun k hk e => by have h1 := BX_l.out.b; have h2 := WB.out; omega) |>.below (fun _ _ h => h)))
              refine wpAnyH_ready (rs := [16]) (by kernel_rfl) (by simp) ?_
              refine AllReadyH.cons rfl (fun K hK => ?_) AllReadyH.nil
              rw [if_pos (by rfl)]
              refine wp_store_row 34 _ _ rfl g12 _ rfl rfl 34 _ BX.out sizeAns rfl (by simp [Value.oneCell']) ?_
              refine hK.out _ _ HS1.out (fun hHeld => ?_)
              clear hK K
              try simp only [Act.put, List.getElem_toArray, List.getElem_cons_zero, List.getElem_cons_succ, List.setIfInBounds_toArray, List.set_cons_zero, List.set_cons_succ]
              refine wpAnyH_ready (rs := [17]) (by kernel_rfl) (by simp) ?_
              refine AllReadyH.cons rfl (fun K hK => ?_) AllReadyH.nil
              rw [if_pos (by rfl)]
              refine wp_store_row 34 _ _ rfl g13 _ rfl rfl 34 _ BY2.out sizeAns rfl (by simp [Value.oneCell']) ?_
              refine hK.out _ _ (SK.out _ FN.out.z.np.b) (fun hHeld => ?_)
              clear hK K
              try simp only [Act.put, List.getElem_toArray, List.getElem_cons_zero, List.getElem_cons_succ, List.setIfInBounds_toArray, List.set_cons_zero, List.set_cons_succ]
              refine wpAnyH_done (by kernel_rfl) ?_ _
              go_wp2_with fail
              go_meet
              case rel => exact ⟨g12, g13, a1, a2, d1, d2, col2, F2, rfl, rfl, FN.out⟩
    case rest =>
      obtain ⟨g12, g13, a1, a2, d1, d2, col2, F2, rfl, rfl, hQ⟩ := hcut
      have QZ := hide hQ
      clear hQ ZB AC TC
      obtain ⟨x0, x1, x2, x3, x4⟩ := five QZ.out.x
      obtain ⟨y0, y1, y2, y3, y4⟩ := five QZ.out.y
      have SM := hide (same_any wc ⟨an, ann, ais, al1, ae⟩ a1 a2 d1 d2 QZ.out.i.ir QZ.out.j (by have := HL.out; show al1.length ≤ _; omega))
      simp only at x0 x1 x2 x3 x4 y0 y1 y2 y3 y4 SM
      obtain ⟨nl, hnl⟩ : ∃ nl, al1.length = nl := ⟨_, rfl⟩
      have HNL := hide hnl
      rw [hnl] at SM x3 y3
      clear hnl
      go_wp2_with fail
      refine SM.out.mono ?_
      rintro _ w5 ⟨rfl, hb⟩
      replace QZ := hide (QZ.out.keep hb)
      clear hb SM x0 x1 x2 x3 x4 y0 y1 y2 y3 y4
      obtain ⟨t0, t1, t2⟩ := SK.out _ QZ.out.z.np.b
      by_cases h8 : k0 = 8
      · subst h8
        obtain ⟨x0, -, -, -, -⟩ := five QZ.out.x
        simp only at x0
        have aw5 := al w5 (.cells #[.int .i64 an] 3)
        have nc := cell_alloc_new w5 (.int .i64 an) 3
        have R1 := hide (QZ.out.z.mg.keep aw5)
        have HAW := hide aw5
        clear aw5
        go_wp2_with (refine wpList_apI rfl _ _ rfl am nm cm M (by simp [Act.eval]) HNM.out.symm R1.out ⟨w5.heap.size, 0, none⟩ 1 an (by simp [Act.eval]) nc (by rw [HNM.out]; omega) ?_; intro g c2 w6 hR hN hg hgl; have ZM := hide (QZ.out.z.mark HAW.out hR hN (But.inA hg)); obtain ⟨s0, s1, s2⟩ := SK.out _ ZM.out.np.b; clear hR hN hg hgl t0 t1 t2 x0 nc)
        go_roundw
        case rel => exact ⟨j + 1, P2, col2, F2, E, _, c2, M ++ [an], ak, ck, U, aw, cw, V, by omega, by go_num, by rw [List.length_append, HNM.out]; rfl, by rw [HNK.out], by rw [HNV.out], ZM.out, HMK.out, by rw [List.length_append, HNM.out]; show nm + 1 ≤ j + 1; omega⟩
        case measure => simp [intOf]; omega
      · have e8 : (k0 == 8) = false := by simp [h8]
        have NO : Hid (∃ (j_1 : Nat) (P : Po) (col : Nat → Nat) (F E : Nat → Prop) (am' : Option Addr) (cm' : Nat) (M : List Int) (ak' : Option Addr) (ck' : Nat) (U : List Bi) (aw' : Option Addr) (cw' : Nat) (V : List Bi), j_1 ≤ m ∧ Value.int .i64 ((j : Int) + 1) = .int .i64 (j_1 : Int) ∧ Value.slice am nm cm = .slice am' M.length cm' ∧ Value.slice ak nk ck = .slice ak' U.length ck' ∧ Value.slice aw nv cw = .slice aw' V.length cw' ∧ Zs w w5 b q P P col F E am' cm' M ak' ck' U aw' cw' V ∧ P.mark ≤ j_1 ∧ M.length ≤ j_1) :=
          ⟨j + 1, P2, col2, F2, E, am, cm, M, ak, ck, U, aw, cw, V, by omega, by go_num, by rw [HNM.out], by rw [HNK.out], by rw [HNV.out], QZ.out.z, HMK.out, by rw [HNM.out]; omega⟩
        by_cases h7 : k0 = 7
        · subst h7
          by_cases h40 : nk < 40
          · have d40 : decide ((nk : Int) < 40) = true := decide_eq_true (by omega)
            have i40 : (nk : Int) < 40 := by omega
            obtain ⟨-, -, -, x3, -⟩ := five QZ.out.x
            obtain ⟨-, -, -, y3, -⟩ := five QZ.out.y
            simp only at x3 y3
            rw [HNL.out] at x3 y3
            have aw5 := al w5 (.cells #[.slice a1 nl d1] 22)
            have nc := cell_alloc_new w5 (.slice a1 nl d1) 22
            have R1 := hide (QZ.out.z.kg.keep aw5)
            have HAW := hide aw5
            have LU : Hid (nk = (U.map biv).length) := by show _ = _; rw [List.length_map, HNK.out]
            have LV : Hid (nv = (V.map biv).length) := by show _ = _; rw [List.length_map, HNV.out]
            have HUV : Hid (nv = nk) := by
              show nv = nk
              have := congrArg List.length QZ.out.z.uv
              rw [List.length_map, List.length_map, HNK.out, HNV.out] at this
              exact this
            clear aw5
            have FIN : Hid (∀ (g c2 : Nat) (w6 : World), Ai w6 (some ⟨g, 0, none⟩) c2 (U.map biv ++ [.slice a1 nl d1]) → New (w5.alloc (.cells #[.slice a1 nl d1] 22)) ak (some ⟨g, 0, none⟩) → (w5.alloc (.cells #[.slice a1 nl d1] 22)).grownBy w6 (ak.map Addr.block) → w6.cell? ⟨g13, 3, none⟩ = some (.slice a2 nl d2) ∧ Ai (w6.alloc (.cells #[.slice a2 nl d2] 22)) aw cw (V.map biv) ∧ (w6.alloc (.cells #[.slice a2 nl d2] 22)).cell? ⟨w6.heap.size, 0, none⟩ = some (.slice a2 nl d2) ∧ ∀ (g' c3 : Nat) (w8 : World), Ai w8 (some ⟨g', 0, none⟩) c3 (V.map biv ++ [.slice a2 nl d2]) → New (w6.alloc (.cells #[.slice a2 nl d2] 22)) aw (some ⟨g', 0, none⟩) → (w6.alloc (.cells #[.slice a2 nl d2] 22)).grownBy w8 (aw.map Addr.block) → ∃ E2, Zs w w8 b q P2 P2 col2 F2 E2 am cm M (some ⟨g, 0, none⟩) c2 (U ++ [⟨a1, d1, al1⟩]) (some ⟨g', 0, none⟩) c3 (V ++ [⟨a2, d2, al1⟩])) := by
              intro g c2 w6 hR hN hg
              have K6 : But (InA ak) w5 w6 := (But.ofBelow (S := InA ak) HAW.out).trans (But.inA hg) (fun _ _ e => e)
              refine ⟨(K6.cell (p := ⟨g13, 3, none⟩) (block_lt_of_cell y3) (fun ⟨x, hx, e⟩ => QZ.out.z.kg.neB QZ.out.y hx e.symm)).trans y3, (QZ.out.z.wg.but K6 (fun y hy ⟨x, hx, e⟩ => QZ.out.z.kw x y hx hy e)).keep (al _ _), cell_alloc_new w6 _ _, fun g' c3 w8 hR' hN' hg' => ?_⟩
              rw [← HNL.out] at hR hR' hN hN' hg hg'
              exact ⟨_, QZ.out.z.both LO.out WB.out QZ.out.i QZ.out.ia QZ.out.j QZ.out.jd (al _ _) hR hN (But.inA hg) (al _ _) hR' hN' (But.inA hg') (by rw [HNK.out]; exact h40) (by have := HL.out; exact this)⟩
            go_wp2_with (first
              | (refine wpList_apIntL rfl _ _ rfl ak nk ck (U.map biv) (by simp [Act.eval]) LU.out R1.out ⟨w5.heap.size, 0, none⟩ 1 (.slice a1 nl d1) (by simp [Act.eval]) nc (by simp [Value.oneCell']) (by rw [← LU.out]; omega) ?_; intro g c2 w6 hR hN hg; obtain ⟨z3, r2, nd, f2⟩ := FIN.out g c2 w6 hR hN hg; have R2 := hide r2; have G2 := hide f2; clear hR hN hg r2 f2 t0 t1 t2 x3 y3 nc FIN R1)
              | (refine wpList_apIntL rfl _ _ rfl aw nv cw (V.map biv) (by simp [Act.eval]) LV.out R2.out ⟨w6.heap.size, 0, none⟩ 1 (.slice a2 nl d2) (by simp [Act.eval]) nd (by simp [Value.oneCell']) (by rw [← LV.out, HUV.out]; omega) ?_; intro g' c3 w8 hR hN hg; obtain ⟨E2, ze⟩ := G2.out g' c3 w8 hR hN hg; have ZE := hide ze; clear hR hN hg ze nd z3 G2 R2))
            go_roundw
            case rel => exact ⟨j + 1, P2, col2, F2, E2, am, cm, M, _, c2, U ++ [⟨a1, d1, al1⟩], _, c3, V ++ [⟨a2, d2, al1⟩], by omega, by go_num, by rw [HNM.out], by rw [List.length_append, HNK.out]; rfl, by rw [List.length_append, HNV.out]; rfl, ZE.out, HMK.out, by rw [HNM.out]; omega⟩
            case measure => simp [intOf]; omega
          · have d40 : decide ((nk : Int) < 40) = false := decide_eq_false (by omega)
            have i40 : ¬ (nk : Int) < 40 := by omega
            go_wp2
            go_roundw
            case rel => exact NO.out
            case measure => simp [intOf]; omega
        · have e7 : (k0 == 7) = false := by simp [h7]
          go_wp2
          go_roundw
          case rel => exact NO.out
          case measure => simp [intOf]; omega
  · obtain rfl : j = m := by omega
    obtain ⟨nk, hnk⟩ : ∃ nk, U.length = nk := ⟨_, rfl⟩
    have HNK := hide hnk
    obtain ⟨nv, hnv⟩ : ∃ nv, V.length = nv := ⟨_, rfl⟩
    have HNV := hide hnv
    rw [hnk, hnv]
    clear hnk hnv
    have HUV : Hid (nv = nk) := by
      show nv = nk
      have := congrArg List.length ZB.out.uv
      rw [List.length_map, List.length_map, HNK.out, HNV.out] at this
      exact this
    have N40 : nk ≤ 40 := by have := ZB.out.n40; rwa [HNK.out] at this
    have AP := hide fun (W : World) (hZ : Zs w W b q P P col F E am cm M ak ck U aw cw V) => Fi.apart2 W w U ak ck nk HNK.out.symm hZ.fi hZ.kg (by rw [HNK.out]; omega) (fun u hu => by have := hZ.len u hu; omega)
    have LK := hide fun (W : World) (hP : Pl W b P col) (hR : Rl W q P F) => likelyG_any W b q P col F hP hR (by omega)
    go_wp2_with fail
    go_loopw [14] (fun i wx => ∃ t : Nat, t ≤ nk ∧ i = .int .i64 (t : Int) ∧ Zs w wx b q P P col F E am cm M ak ck U aw cw V) (fun i _ => nk - (intOf i).toNat)
    case atStart => exact ⟨0, Nat.zero_le _, rfl, ZB.out⟩
    case round =>
      clear ZB
      obtain ⟨t, ht, rfl, hZ⟩ := hrel
      have ZB := hide hZ
      clear hZ
      by_cases hlt2 : t < nk
      · have hti : (t : Int) < (nk : Int) := by omega
        have htv : (t : Int) < (nv : Int) := by have := HUV.out; omega
        have hU : t < U.length := by rw [HNK.out]; exact hlt2
        have hV : t < V.length := by rw [HNV.out, HUV.out]; exact hlt2
        obtain ⟨gk, hgk, ck0⟩ := ZB.out.kg.cell (i := t) (v := biv (U.getD t Bi0)) (by simp [hU])
        obtain ⟨gv, hgv, cv0⟩ := ZB.out.wg.cell (i := t) (v := biv (V.getD t Bi0)) (by simp [hV])
        have hmU : U.getD t Bi0 ∈ U := by simp [hU]
        have hmV : V.getD t Bi0 ∈ V := by simp [hV]
        have hll : (V.getD t Bi0).l = (U.getD t Bi0).l := by
          have := congrArg (fun L => L.getD t []) ZB.out.uv
          simpa [hU, hV] using this
        have IU := hide fun (W : World) (h : Zs w W b q P P col F E am cm M ak ck U aw cw V) => (h.fi.own _ hmU).r.ir
        have IV := hide fun (W : World) (h : Zs w W b q P P col F E am cm M ak ck U aw cw V) => h.vr _ hmV
        have hlen := ZB.out.len _ hmU
        obtain ⟨⟨ua, uc, ul⟩, hu⟩ : ∃ u, U.getD t Bi0 = u := ⟨_, rfl⟩
        obtain ⟨⟨va, vc, vl⟩, hv⟩ : ∃ v, V.getD t Bi0 = v := ⟨_, rfl⟩
        rw [hu] at ck0 IU hlen hll
        rw [hv] at cv0 IV hll
        simp only at hll hlen IU IV
        subst hll
        unfold biv at ck0 cv0
        simp only at ck0 cv0
        have EQ := hide fun (W : World) (h : Zs w W b q P P col F E am cm M ak ck U aw cw V) => EqInts_same W ua va vl.length vl.length uc vc vl (IU.out W h) (IV.out W h) rfl rfl (by omega)
        clear IU IV hmU hmV hu hv hU hV
        obtain ⟨nl, hnl⟩ : ∃ nl, vl.length = nl := ⟨_, rfl⟩
        rw [hnl] at ck0 cv0 EQ
        clear hnl hlen
        have SC : Hid (∀ W : World, Below wr.heap.size wr W → W.cell? ⟨gk, t, none⟩ = some (.slice ua nl uc) ∧ W.cell? ⟨gv, t, none⟩ = some (.slice va nl vc)) := fun W hb => ⟨(hb.cell (p := ⟨gk, t, none⟩) (block_lt_of_cell ck0)).trans ck0, (hb.cell (p := ⟨gv, t, none⟩) (block_lt_of_cell cv0)).trans cv0⟩
        subst hgk
        subst hgv
        go_wp2_with fail
        refine wp_region_held_drew (S := fun W => W.cell? ⟨gk, t, none⟩ = some (.slice ua nl uc) ∧ W.cell? ⟨gv, t, none⟩ = some (.slice va nl vc)) (by kernel_rfl) (SC.out _ (drw _)) (fun hHeld => ?_)
        refine wpAnyH_take (i := 0) (v := ?vae0) rfl (by kernel_rfl) (by kernel_rfl) (by kernel_rfl) (fun _ _ _ h => h) (Or.inl ⟨by rfl, ?hye0⟩) (by assumption) ?rae0
        case hye0 => (intro wq hSw; (try dsimp only at hSw); obtain ⟨e0, e1⟩ := hSw; go_simp <;> with_reducible rfl)
        try simp only [Act.put, List.getElem_toArray, List.getElem_cons_zero, List.setIfInBounds_toArray, List.set_cons_zero, List.set_cons_succ]
        refine wpAnyH_take (i := 1) (v := ?vae1) rfl (by kernel_rfl) (by kernel_rfl) (by kernel_rfl) (fun _ _ _ h => h) (Or.inl ⟨by rfl, ?hye1⟩) (by assumption) ?rae1
        case hye1 => (intro wq hSw; (try dsimp only at hSw); obtain ⟨e0, e1⟩ := hSw; go_simp <;> with_reducible rfl)
        try simp only [Act.put, List.getElem_toArray, List.getElem_cons_zero, List.getElem_cons_succ, List.setIfInBounds_toArray, List.set_cons_zero, List.set_cons_succ]
        refine wpAnyH_take (i := 2) (v := ?vae2) rfl (by kernel_rfl) (by kernel_rfl) (by kernel_rfl) (fun _ _ _ h => h) (Or.inl ⟨by rfl, ?hye2⟩) (by assumption) ?rae2
        case hye2 => (intro wq hSw; (try dsimp only at hSw); obtain ⟨e0, e1⟩ := hSw; go_simp <;> with_reducible rfl)
        try simp only [Act.put, List.getElem_toArray, List.getElem_cons_zero, List.getElem_cons_succ, List.setIfInBounds_toArray, List.set_cons_zero, List.set_cons_succ]
        refine wpAnyH_take (i := 3) (v := ?vae3) rfl (by kernel_rfl) (by kernel_rfl) (by kernel_rfl) (fun _ _ _ h => h) (Or.inl ⟨by rfl, ?hye3⟩) (by assumption) ?rae3
        case hye3 => (intro wq hSw; (try dsimp only at hSw); obtain ⟨e0, e1⟩ := hSw; go_simp <;> with_reducible rfl)
        try simp only [Act.put, List.getElem_toArray, List.getElem_cons_zero, List.getElem_cons_succ, List.setIfInBounds_toArray, List.set_cons_zero, List.set_cons_succ]
        refine wpAnyH_take (i := 4) (v := ?vae4) rfl (by kernel_rfl) (by kernel_rfl) (by kernel_rfl) (fun _ _ _ h => h) (Or.inl ⟨by rfl, ?hye4⟩) (by assumption) ?rae4
        case hye4 => (intro wq hSw; (try dsimp only at hSw); obtain ⟨e0, e1⟩ := hSw; go_simp <;> with_reducible rfl)
        try simp only [Act.put, List.getElem_toArray, List.getElem_cons_zero, List.getElem_cons_succ, List.setIfInBounds_toArray, List.set_cons_zero, List.set_cons_succ]
        refine wpAnyH_take (i := 5) (v := ?vae5) rfl (by kernel_rfl) (by kernel_rfl) (by kernel_rfl) (fun _ _ _ h => h) (Or.inl ⟨by rfl, ?hye5⟩) (by assumption) ?rae5
        case hye5 => (intro wq hSw; (try dsimp only at hSw); obtain ⟨e0, e1⟩ := hSw; go_simp <;> with_reducible rfl)
        try simp only [Act.put, List.getElem_toArray, List.getElem_cons_zero, List.getElem_cons_succ, List.setIfInBounds_toArray, List.set_cons_zero, List.set_cons_succ]
        refine wpAnyH_take (i := 6) (v := ?vae6) rfl (by kernel_rfl) (by kernel_rfl) (by kernel_rfl) (fun _ _ _ h => h) (Or.inl ⟨by rfl, ?hye6⟩) (by assumption) ?rae6
        case hye6 => (intro wq hSw; (try dsimp only at hSw); obtain ⟨e0, e1⟩ := hSw; go_simp <;> with_reducible rfl)
        try simp only [Act.put, List.getElem_toArray, List.getElem_cons_zero, List.getElem_cons_succ, List.setIfInBounds_toArray, List.set_cons_zero, List.set_cons_succ]
        refine wpAnyH_take (i := 7) (v := ?vae7) rfl (by kernel_rfl) (by kernel_rfl) (by kernel_rfl) (fun _ _ _ h => h) (Or.inl ⟨by rfl, ?hye7⟩) (by assumption) ?rae7
        case hye7 => (intro wq hSw; (try dsimp only at hSw); obtain ⟨e0, e1⟩ := hSw; go_simp <;> with_reducible rfl)
        try simp only [Act.put, List.getElem_toArray, List.getElem_cons_zero, List.getElem_cons_succ, List.setIfInBounds_toArray, List.set_cons_zero, List.set_cons_succ]
        refine wpAnyH_ready (rs := [8]) (by kernel_rfl) (by simp) ?_
        refine AllReadyH.cons rfl (fun K hK => ?_) AllReadyH.nil
        go_simp
        refine (EQ.out _ (ZB.out.keep (drw _))).mono ?_
        rintro _ w5 ⟨rfl, hb⟩
        have hb2 := bt (drw wr) hb
        replace ZB := hide (ZB.out.keep hb2)
        have S5 := hide (SC.out _ hb2)
        clear hb hb2
        go_wp2_with fail
        refine hK.out _ _ (S5.out) (fun hHeld => ?_)
        clear hK K
        try simp only [Act.put, List.getElem_toArray, List.getElem_cons_zero, List.getElem_cons_succ, List.setIfInBounds_toArray, List.set_cons_zero, List.set_cons_succ]
        refine wpAnyH_take (i := 9) (v := ?vae9) rfl (by kernel_rfl) (by kernel_rfl) (by kernel_rfl) (fun _ _ _ h => h) (Or.inl ⟨by rfl, ?hye9⟩) (by assumption) ?rae9
        case hye9 => (intro wq hSw; (try dsimp only at hSw); obtain ⟨e0, e1⟩ := hSw; go_simp <;> with_reducible rfl)
        try simp only [Act.put, List.getElem_toArray, List.getElem_cons_zero, List.getElem_cons_succ, List.setIfInBounds_toArray, List.set_cons_zero, List.set_cons_succ]
        refine wpAnyH_done (by kernel_rfl) ?_ _
        go_wp2
        go_roundw
        case rel => exact ⟨t + 1, by omega, by go_num, ZB.out⟩
        case measure => simp [intOf]; omega
      · obtain rfl : t = nk := by omega
        go_wp2_with fail
        refine (AP.out _ ZB.out).mono ?_
        rintro _ w5 ⟨rfl, hb⟩
        have HE := hide fun (k : Nat) (e : ∃ u ∈ U, ∃ x, u.a = some x ∧ x.block = k) => (show E k by obtain ⟨u, hu, x, hx, e⟩ := e; rw [← e]; exact ZB.out.eu u hu x hx)
        have P5 := hide (ZB.out.np.p.but hb (fun k hk e => hk (ZB.out.e0 k (HE.out k e)).2.2.1))
        have R5 := hide (ZB.out.rl.but hb (fun k hk e => (ZB.out.e0 k (HE.out k e)).2.2.2 hk))
        have B5 : Hid (Below w.heap.size w w5) := ((But.ofBelow (S := fun _ => False) ZB.out.np.b).trans hb (fun k hk e => by have := (ZB.out.e0 k (HE.out k e)).1; omega)).below (fun _ _ h => h)
        clear hb HE
        go_wp2_with fail
        refine (LK.out _ P5.out R5.out).mono ?_
        rintro _ w6 ⟨rfl, hb⟩
        have B6 := hide (bt B5.out hb)
        clear hb
        go_wp2
        go_ret
        exact ⟨rfl, B6.out⟩
end Go.Proofs.YtceeeofkigkpkaaGreat
