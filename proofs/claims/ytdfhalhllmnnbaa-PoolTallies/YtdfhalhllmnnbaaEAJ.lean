import Derived.Test.YtdfhalhllmnnbaaEAE
namespace Go.Proofs.Ytdfhalhllmnnbaa
set_option linter.unusedVariables false
open Go.RowKit

/-! ### PoolTallies -/
theorem four_len (f : Nat → Nat) : ∀ (L : List Nat), (∀ i ∈ L, 1 ≤ f i ∧ f i ≤ 4) → (L.filter fun i => decide (f i = 1)).length + (L.filter fun i => decide (f i = 2)).length + (L.filter fun i => decide (f i = 3)).length + (L.filter fun i => decide (f i = 4)).length = L.length
  | [], _ => rfl
  | x :: xs, h => by
    have ih := four_len f xs (fun i hi => h i (List.mem_cons_of_mem _ hi))
    have hx := h x List.mem_cons_self
    have hc : f x = 1 ∨ f x = 2 ∨ f x = 3 ∨ f x = 4 := by omega
    simp only [List.filter_cons, List.length_cons]
    rcases hc with e | e | e | e <;> simp [e] <;> omega
def tot (P : Po) : Nat → Nat
  | 0 => 0
  | j + 1 => tot P j + (P.pages ((j : Int) + 1)).length
theorem pages_nat (P : Po) {s : Nat} (h1 : 1 ≤ s) (h2 : s ≤ 4) : P.pages (s : Int) = pagesOf P.pg s := by
  unfold Po.pages; rw [if_pos ⟨by omega, by omega⟩, Int.toNat_natCast]
theorem tot_four (P : Po) : tot P 4 = P.pg.length := by
  have h := four_len (fun i => stt (P.pg.getD i Pg.zero)) (List.range P.pg.length) (fun i _ => stt_pos _)
  rw [List.length_range] at h
  have e1 := pages_nat P (s := 1) (by decide) (by decide)
  have e2 := pages_nat P (s := 2) (by decide) (by decide)
  have e3 := pages_nat P (s := 3) (by decide) (by decide)
  have e4 := pages_nat P (s := 4) (by decide) (by decide)
  show 0 + (P.pages (((1 : Nat) : Int))).length + (P.pages (((2 : Nat) : Int))).length + (P.pages (((3 : Nat) : Int))).length + (P.pages (((4 : Nat) : Int))).length = _
  rw [e1, e2, e3, e4]
  unfold pagesOf
  rw [List.length_map, List.length_map, List.length_map, List.length_map, Nat.zero_add]
  exact h
theorem tot_le {P : Po} (h : P.Ok) : ∀ j, tot P j ≤ j * 65536
  | 0 => Nat.le_refl _
  | j + 1 => by
    have ih := tot_le h j
    have pl := Po.pages_len h ((j : Int) + 1)
    show tot P j + (P.pages ((j : Int) + 1)).length ≤ _
    generalize (P.pages ((j : Int) + 1)).length = q at *
    generalize tot P j = t at *
    omega
theorem pages_in {P : Po} (h : P.Ok) {s : Nat} (h1 : 1 ≤ s) (h2 : s ≤ 4) {x : Int} (hx : x ∈ P.pages (s : Int)) : P.state x = s ∧ decide (0 < P.count x) = decide (3 ≤ (s : Int)) ∧ P.count x ≤ P.rf := by
  have hc := h.count x
  rw [pages_nat P h1 h2] at hx
  obtain ⟨z1, z2, z3⟩ := inS_iff.1 ((mem_pagesOf _ _ _).1 hx)
  have hh : P.has x = true := Po.has_iff.2 ⟨z1, z2⟩
  have e : P.count x = (P.pg.getD (x - 1).toNat Pg.zero).1 := by unfold Po.count; rw [if_pos hh]
  refine ⟨by unfold Po.state; rw [if_pos hh]; exact z3, ?_, hc.2⟩
  congr 1
  apply propext
  rw [e] at hc ⊢
  unfold stt at z3
  split at z3
  · split at z3 <;> constructor <;> intro k <;> omega
  · split at z3 <;> constructor <;> intro k <;> omega
theorem pages_up {P : Po} {s : Nat} (h1 : 1 ≤ s) (h2 : s ≤ 4) {i j : Nat} (hij : i < j) (hj : j < (P.pages (s : Int)).length) : (P.pages (s : Int)).getD i 0 < (P.pages (s : Int)).getD j 0 := by
  have hp := pagesOf_rise P.pg s
  rw [← pages_nat P h1 h2] at hp
  have k := List.pairwise_iff_getElem.1 hp i j (by omega) hj hij
  have e1 : (P.pages (s : Int)).getD i 0 = (P.pages (s : Int))[i] := by simp [show i < (P.pages (s : Int)).length by omega]
  have e2 : (P.pages (s : Int)).getD j 0 = (P.pages (s : Int))[j] := by simp [hj]
  rw [e1, e2]; exact k
set_option maxHeartbeats 16000000 in
set_option maxRecDepth 16000 in
theorem poolTallies_any (w : World) (l : Bool) (n r : Int) (a : Option Addr) (cap : Nat) (C : List Int) (hC : Ir w a C) (hN : C.length ≤ 17592186043904) (aF : Option Addr) (cF : Nat) (T : List Ov) (hT : Oq w aF T) (hTl : T.length ≤ 5864062014805) :
    Calls Try.prog 6 #[.agg #[.bool l, .int .i64 n, .int .i64 r, .slice a C.length cap], .slice aF T.length cF] w fun e w' => e = .returned (.bool true) ∧ Below w.heap.size w w' := by
  have aw := al w (.cells #[.bool l, .int .i64 n, .int .i64 r, .slice a C.length cap] 24)
  have FX := hide (fixed_any (w.alloc (.cells #[.bool l, .int .i64 n, .int .i64 r, .slice a C.length cap] 24)))
  have bx := World.alloc_heap_new w (.cells #[.bool l, .int .i64 n, .int .i64 r, .slice a C.length cap] 24)
  have BX := hide (show ∀ W, Below (w.alloc (.cells #[.bool l, .int .i64 n, .int .i64 r, .slice a C.length cap] 24)).heap.size (w.alloc (.cells #[.bool l, .int .i64 n, .int .i64 r, .slice a C.length cap] 24)) W → W.cell? ⟨w.heap.size, 0, none⟩ = some (.bool l) ∧ W.cell? ⟨w.heap.size, 1, none⟩ = some (.int .i64 n) ∧ W.cell? ⟨w.heap.size, 2, none⟩ = some (.int .i64 r) ∧ W.cell? ⟨w.heap.size, 3, none⟩ = some (.slice a C.length cap) from fun W hb => by
    have h := (hb.block w.heap.size (Array.getElem?_eq_some_iff.1 bx).1).trans bx
    rw [cell_of_row _ _ _ _ _ _ h, cell_of_row _ _ _ _ _ _ h, cell_of_row _ _ _ _ _ _ h, cell_of_row _ _ _ _ _ _ h]
    exact ⟨rfl, rfl, rfl, rfl⟩)
  have MD := hide fun (W : World) (hb : Below w.heap.size w W) => made_any W l n r a C.length cap C (hC.keep hb) rfl (by omega)
  have HT := hide hT
  have AW := hide aw
  obtain ⟨m, hm⟩ : ∃ m, T.length = m := ⟨_, rfl⟩
  have HM := hide hm
  rw [hm] at hTl ⊢
  generalize C.length = k at *
  clear aw bx hC hT hm
  go_enter Try.func6, Try.ntmps6
  go_wp2_with fail
  generalize w.alloc (.cells #[.bool l, .int .i64 n, .int .i64 r, .slice a k cap] 24) = W0 at *
  refine FX.out.mono ?_
  rintro _ w1 ⟨rfl, hb⟩
  obtain ⟨x0, x1, x2, x3⟩ := BX.out _ hb
  have B1 := hide (bt AW.out hb)
  clear hb FX BX
  go_wp2_with fail
  refine (MD.out _ B1.out).mono ?_
  rintro e w2 (⟨-, rfl, hb2⟩ | ⟨-, b, q, col, cb, lb, rfl, hT2⟩)
  · have B2 := hide (bt B1.out hb2)
    clear hb2 MD x0 x1 x2 x3
    go_wp2
    go_ret
    exact ⟨rfl, B2.out⟩
  have H0 := hide (show Np w w2 b (Po.start r (cnB l n C)) col from ⟨hT2.np.p, bt B1.out hT2.np.b, fun k hk => by have := hT2.np.n k hk; have := B1.out.size; omega⟩)
  clear hT2 MD x0 x1 x2 x3
  obtain ⟨P0, hP0⟩ : ∃ P0, Po.start r (cnB l n C) = P0 := ⟨_, rfl⟩
  have M0 : P0.mark = 0 := by rw [← hP0]; rfl
  rw [hP0] at H0
  clear hP0
  go_wp2_with fail
  go_loopw [8, 9, 10, 11, 12] (fun i _ _ _ _ wr => ∃ (j : Nat) (c' : Nat → Nat) (P : Po), j ≤ m + 1 ∧ i = .int .i64 (j : Int) ∧ Np w wr b P c' ∧ P.mark ≤ j) (fun i _ _ _ _ _ => m + 1 - (intOf i).toNat)
  case atStart => exact ⟨0, col, P0, Nat.zero_le _, rfl, H0.out, by omega⟩
  case round =>
    clear H0 M0
    obtain ⟨j, c', P, hj, rfl, hNp, hmk⟩ := hrel
    have H := hide hNp
    clear hNp
    by_cases hlt : j ≤ m
    · have d1 : decide ((j : Int) ≤ (m : Int)) = true := decide_eq_true (by omega)
      have hjm : (j : Int) ≤ (m : Int) := by omega
      have OK := hide H.out.p.ok
      have TF := tot_four P
      have l1 := pcounts_len P
      have l2 := OK.out.l2
      obtain ⟨pn, hpn⟩ : ∃ pn, P.pg.length = pn := ⟨_, rfl⟩
      rw [hpn] at TF l1 l2
      have HPN := hide hpn
      have L1 := hide l1
      have HTF := hide TF
      clear hpn l1 TF
      go_wp2_with fail
      go_loopw [9, 10, 11, 12] (fun t s _ _ wr => ∃ (v : Nat), v ≤ 4 ∧ s = .int .i64 ((v : Int) + 1) ∧ t = .int .i64 ((tot P v : Nat) : Int) ∧ Np w wr b P c') (fun _ s _ _ _ => 4 - (intOf s - 1).toNat)
      case atStart => exact ⟨0, Nat.zero_le _, rfl, rfl, H.out⟩
      case round =>
        clear H
        obtain ⟨v, hv, rfl, rfl, hNp⟩ := hrel
        have H := hide hNp
        clear hNp
        by_cases hv4 : v < 4
        · have dv : decide ((v : Int) + 1 ≤ 4) = true := decide_eq_true (by omega)
          have hvi : (v : Int) + 1 ≤ 4 := by omega
          have TS := hide (show tot P (v + 1) = tot P v + (P.pages ((v : Int) + 1)).length from rfl)
          have WK := hide (walked_any _ b P c' H.out.p ((v : Int) + 1) (-1))
          have TA := hide fun (W : World) (h : Np w W b P c') => Tally_any W b P c' h.p ((v : Int) + 1)
          rw [wl_all] at WK
          have tl := tot_le OK.out v
          have pl := Po.pages_len OK.out ((v : Int) + 1)
          have FA := hide (show ∀ i, i < (P.pages ((v : Int) + 1)).length → P.state ((P.pages ((v : Int) + 1)).getD i 0) = v + 1 ∧ decide (0 < P.count ((P.pages ((v : Int) + 1)).getD i 0)) = decide (3 ≤ (v : Int) + 1) ∧ P.count ((P.pages ((v : Int) + 1)).getD i 0) ≤ P.rf from fun i hi => pages_in OK.out (s := v + 1) (by omega) (by omega) (by
            show (P.pages ((v : Int) + 1)).getD i 0 ∈ P.pages ((v : Int) + 1)
            have : (P.pages ((v : Int) + 1)).getD i 0 = (P.pages ((v : Int) + 1))[i] := by simp [hi]
            rw [this]; exact List.getElem_mem hi))
          have FB := hide (show ∀ i k, i < k → k < (P.pages ((v : Int) + 1)).length → (P.pages ((v : Int) + 1)).getD i 0 < (P.pages ((v : Int) + 1)).getD k 0 from fun i k hik hk => pages_up (P := P) (s := v + 1) (by omega) (by omega) hik hk)
          generalize P.pages ((v : Int) + 1) = L at *
          obtain ⟨tv, htv⟩ : ∃ tv, tot P v = tv := ⟨_, rfl⟩
          have HTV := hide htv
          rw [htv] at tl TS ⊢
          have tl2 : tv ≤ 262144 := by omega
          obtain ⟨ln, hln⟩ : ∃ ln, L.length = ln := ⟨_, rfl⟩
          have HL := hide hln
          rw [hln] at pl TA FA FB TS
          clear hln htv tl
          go_wp2_with fail
          refine WK.out.mono ?_
          rintro _ w4 ⟨a4, d4, rfl, hI⟩
          have I4 := hide hI.r
          have H4 := hide (H.out.keep hI.b)
          clear hI WK H
          rw [HL.out]
          go_wp2_with fail
          refine (TA.out _ H4.out).mono ?_
          rintro _ w5 ⟨rfl, hb⟩
          have I5 := hide (I4.out.keep hb)
          have H5 := hide (H4.out.keep hb)
          clear hb TA I4 H4
          have e1 : ((ln : Int) != (ln : Int)) = false := by simp
          have s1 : IntKind.i64.wrap ((tv : Int) + (ln : Int)) = ((tv : Int) + (ln : Int)) := wrapI (by omega) (by omega)
          have s2 : wrap64 ((tv : Int) + (ln : Int)) = ((tv : Int) + (ln : Int)) := by unfold wrap64; omega
          go_wp2_with fail
          clear s1 s2
          go_loopw [12] (fun i wr => ∃ (kk : Nat), kk ≤ ln ∧ i = .int .i64 (kk : Int) ∧ Np w wr b P c' ∧ Ig wr a4 d4 L) (fun i _ => ln - (intOf i).toNat)
          case atStart => exact ⟨0, Nat.zero_le _, rfl, H5.out, I5.out⟩
          case round =>
            clear H5 I5
            obtain ⟨kk, hkk, rfl, hNp, hIg⟩ := hrel
            have H := hide hNp
            have I := hide hIg
            clear hNp hIg
            by_cases hk : kk < ln
            · have hki : (kk : Int) < (ln : Int) := by omega
              obtain ⟨f1, f2, f3⟩ := FA.out kk hk
              obtain ⟨b5, o5, rfl, -⟩ := I.out.ir.at (j := kk) (by rw [HL.out]; exact hk)
              have SA := hide (show ∀ W, Ig W (some ⟨b5, o5, none⟩) d4 L → ∀ i, i < ln → W.cell? ⟨b5, o5 + i, none⟩ = some (.int .i64 (L.getD i 0)) from fun W hI i hi => by
                obtain ⟨b6, o6, e6, h6⟩ := hI.ir.at (j := i) (by rw [HL.out]; exact hi)
                cases e6; exact h6)
              have HD := hide (H.out.keep (show Below wr.heap.size wr wr.drew from ⟨rfl, rfl, rfl, Nat.le_refl _, fun _ _ => rfl⟩))
              have ID := hide (I.out.keep (show Below wr.heap.size wr wr.drew from ⟨rfl, rfl, rfl, Nat.le_refl _, fun _ _ => rfl⟩))
              have ST := hide fun (W : World) (h : Np w W b P c') => State_pl W b P c' h.p (L.getD kk 0)
              have CO := hide fun (W : World) (h : Np w W b P c') => Count_pl W b P c' h.p (L.getD kk 0)
              have RF := hide fun (W : World) (h : Np w W b P c') => Refs_pl W b P c' h.p
              rw [f1] at ST
              obtain ⟨cx, hcx⟩ : ∃ cx, P.count (L.getD kk 0) = cx := ⟨_, rfl⟩
              rw [hcx] at f2 f3 CO
              obtain ⟨bb, hbb⟩ : ∃ bb, decide (3 ≤ (v : Int) + 1) = bb := ⟨_, rfl⟩
              rw [hbb] at f2
              have q1 : (((v : Int) + 1) != ((v : Int) + 1)) = false := by simp
              have q2 : (bb != bb) = false := by simp
              have q3 : decide (P.rf < cx) = false := decide_eq_false (by omega)
              obtain ⟨rf, hrf⟩ : ∃ rf, P.rf = rf := ⟨_, rfl⟩
              rw [hrf] at q3 RF
              obtain ⟨x, hx⟩ : ∃ x, L.getD kk 0 = x := ⟨_, rfl⟩
              rw [hx] at ST CO
              clear f1 f3 hcx hrf
              by_cases hk0 : kk = 0
              · have dk : decide (0 < (kk : Int)) = false := decide_eq_false (by omega)
                have dk2 : decide (0 < kk) = false := decide_eq_false (by omega)
                have K0 := hide hk0
                clear hk0
                have SS := hide (show ∀ W, Below w.heap.size w W → Ig W (some ⟨b5, o5, none⟩) d4 L → W.cell? ⟨b5, o5 + kk, none⟩ = some (.int .i64 x) ∧ True from fun W _ hI => ⟨(SA.out W hI kk hk).trans (by rw [hx]), trivial⟩)
                clear hx
                go_wp2_with fail
                refine wp_region_held_drew (S := fun w' => w'.cell? ⟨b5, o5 + kk, none⟩ = some (.int .i64 x) ∧ True) (by kernel_rfl) (SS.out _ HD.out.b ID.out) (fun hHeld => ?_)
                refine wpAnyH_take (i := 0) (v := ?vaa0) rfl (by kernel_rfl) (by kernel_rfl) (by kernel_rfl) (fun _ _ _ h => h) (Or.inl ⟨by rfl, ?hya0⟩) (by assumption) ?raa0
                case hya0 => (intro wq hSw; (try dsimp only at hSw); obtain ⟨g1, g2⟩ := hSw; go_simp <;> with_reducible rfl)
                try simp only [Act.put, List.getElem_toArray, List.getElem_cons_zero, List.setIfInBounds_toArray, List.set_cons_zero, List.set_cons_succ]
                refine wpAnyH_take (i := 1) (v := ?vaa1) rfl (by kernel_rfl) (by kernel_rfl) (by kernel_rfl) (fun _ _ _ h => h) (Or.inl ⟨by rfl, ?hya1⟩) (by assumption) ?raa1
                case hya1 => (intro wq hSw; (try dsimp only at hSw); obtain ⟨g1, g2⟩ := hSw; go_simp <;> with_reducible rfl)
                try simp only [Act.put, List.getElem_toArray, List.getElem_cons_zero, List.getElem_cons_succ, List.setIfInBounds_toArray, List.set_cons_zero, List.set_cons_succ]
                refine wpAnyH_take (i := 2) (v := ?vaa2) rfl (by kernel_rfl) (by kernel_rfl) (by kernel_rfl) (fun _ _ _ h => h) (Or.inl ⟨by rfl, ?hya2⟩) (by assumption) ?raa2
                case hya2 => (intro wq hSw; (try dsimp only at hSw); obtain ⟨g1, g2⟩ := hSw; go_simp <;> with_reducible rfl)
                try simp only [Act.put, List.getElem_toArray, List.getElem_cons_zero, List.getElem_cons_succ, List.setIfInBounds_toArray, List.set_cons_zero, List.set_cons_succ]
                refine wpAnyH_take (i := 3) (v := ?vaa3) rfl (by kernel_rfl) (by kernel_rfl) (by kernel_rfl) (fun _ _ _ h => h) (Or.inl ⟨by rfl, ?hya3⟩) (by assumption) ?raa3
                case hya3 => (intro wq hSw; (try dsimp only at hSw); obtain ⟨g1, g2⟩ := hSw; go_simp <;> with_reducible rfl)
                try simp only [Act.put, List.getElem_toArray, List.getElem_cons_zero, List.getElem_cons_succ, List.setIfInBounds_toArray, List.set_cons_zero, List.set_cons_succ]
                refine wpAnyH_take (i := 4) (v := ?vaa4) rfl (by kernel_rfl) (by kernel_rfl) (by kernel_rfl) (fun _ _ _ h => h) (Or.inl ⟨by rfl, ?hya4⟩) (by assumption) ?raa4
                case hya4 => (intro wq hSw; (try dsimp only at hSw); obtain ⟨g1, g2⟩ := hSw; go_simp <;> with_reducible rfl)
                try simp only [Act.put, List.getElem_toArray, List.getElem_cons_zero, List.getElem_cons_succ, List.setIfInBounds_toArray, List.set_cons_zero, List.set_cons_succ]
                refine wpAnyH_take (i := 6) (v := ?vaa6) rfl (by kernel_rfl) (by kernel_rfl) (by kernel_rfl) (fun _ _ _ h => h) (Or.inl ⟨by rfl, ?hya6⟩) (by assumption) ?raa6
                case hya6 => (intro wq hSw; (try dsimp only at hSw); obtain ⟨g1, g2⟩ := hSw; go_simp <;> with_reducible rfl)
                try simp only [Act.put, List.getElem_toArray, List.getElem_cons_zero, List.getElem_cons_succ, List.setIfInBounds_toArray, List.set_cons_zero, List.set_cons_succ]
                refine wpAnyH_ready (rs := [5]) (by kernel_rfl) (by simp) ?_
                refine AllReadyH.cons rfl (fun K hK => ?_) AllReadyH.nil
                go_simp
                refine (ST.out _ HD.out).mono ?_
                rintro _ wA ⟨rfl, hb⟩
                have ID := hide (ID.out.keep hb)
                have HD := hide (HD.out.keep hb)
                clear hb
                go_wp2_with fail
                refine hK.out _ _ (SS.out _ HD.out.b ID.out) (fun hHeld => ?_)
                clear hK K
                try simp only [Act.put, List.getElem_toArray, List.getElem_cons_zero, List.getElem_cons_succ, List.setIfInBounds_toArray, List.set_cons_zero, List.set_cons_succ]
                refine wpAnyH_take (i := 7) (v := ?vaa7) rfl (by kernel_rfl) (by kernel_rfl) (by kernel_rfl) (fun _ _ _ h => h) (Or.inl ⟨by rfl, ?hya7⟩) (by assumption) ?raa7
                case hya7 => (intro wq hSw; (try dsimp only at hSw); obtain ⟨g1, g2⟩ := hSw; go_simp <;> with_reducible rfl)
                try simp only [Act.put, List.getElem_toArray, List.getElem_cons_zero, List.getElem_cons_succ, List.setIfInBounds_toArray, List.set_cons_zero, List.set_cons_succ]
                refine wpAnyH_take (i := 8) (v := ?vaa8) rfl (by kernel_rfl) (by kernel_rfl) (by kernel_rfl) (fun _ _ _ h => h) (Or.inl ⟨by rfl, ?hya8⟩) (by assumption) ?raa8
                case hya8 => (intro wq hSw; (try dsimp only at hSw); obtain ⟨g1, g2⟩ := hSw; go_simp <;> with_reducible rfl)
                try simp only [Act.put, List.getElem_toArray, List.getElem_cons_zero, List.getElem_cons_succ, List.setIfInBounds_toArray, List.set_cons_zero, List.set_cons_succ]
                refine wpAnyH_take (i := 9) (v := ?vaa9) rfl (by kernel_rfl) (by kernel_rfl) (by kernel_rfl) (fun _ _ _ h => h) (Or.inl ⟨by rfl, ?hya9⟩) (by assumption) ?raa9
                case hya9 => (intro wq hSw; (try dsimp only at hSw); obtain ⟨g1, g2⟩ := hSw; go_simp <;> with_reducible rfl)
                try simp only [Act.put, List.getElem_toArray, List.getElem_cons_zero, List.getElem_cons_succ, List.setIfInBounds_toArray, List.set_cons_zero, List.set_cons_succ]
                refine wpAnyH_take (i := 10) (v := ?vaa10) rfl (by kernel_rfl) (by kernel_rfl) (by kernel_rfl) (fun _ _ _ h => h) (Or.inl ⟨by rfl, ?hya10⟩) (by assumption) ?raa10
                case hya10 => (intro wq hSw; (try dsimp only at hSw); obtain ⟨g1, g2⟩ := hSw; go_simp <;> with_reducible rfl)
                try simp only [Act.put, List.getElem_toArray, List.getElem_cons_zero, List.getElem_cons_succ, List.setIfInBounds_toArray, List.set_cons_zero, List.set_cons_succ]
                refine wpAnyH_take (i := 11) (v := ?vaa11) rfl (by kernel_rfl) (by kernel_rfl) (by kernel_rfl) (fun _ _ _ h => h) (Or.inl ⟨by rfl, ?hya11⟩) (by assumption) ?raa11
                case hya11 => (intro wq hSw; (try dsimp only at hSw); obtain ⟨g1, g2⟩ := hSw; go_simp <;> with_reducible rfl)
                try simp only [Act.put, List.getElem_toArray, List.getElem_cons_zero, List.getElem_cons_succ, List.setIfInBounds_toArray, List.set_cons_zero, List.set_cons_succ]
                refine wpAnyH_take (i := 12) (v := ?vaa12) rfl (by kernel_rfl) (by kernel_rfl) (by kernel_rfl) (fun _ _ _ h => h) (Or.inl ⟨by rfl, ?hya12⟩) (by assumption) ?raa12
                case hya12 => (intro wq hSw; (try dsimp only at hSw); obtain ⟨g1, g2⟩ := hSw; go_simp <;> with_reducible rfl)
                try simp only [Act.put, List.getElem_toArray, List.getElem_cons_zero, List.getElem_cons_succ, List.setIfInBounds_toArray, List.set_cons_zero, List.set_cons_succ]
                refine wpAnyH_take (i := 13) (v := ?vaa13) rfl (by kernel_rfl) (by kernel_rfl) (by kernel_rfl) (fun _ _ _ h => h) (Or.inl ⟨by rfl, ?hya13⟩) (by assumption) ?raa13
                case hya13 => (intro wq hSw; (try dsimp only at hSw); obtain ⟨g1, g2⟩ := hSw; go_simp <;> with_reducible rfl)
                try simp only [Act.put, List.getElem_toArray, List.getElem_cons_zero, List.getElem_cons_succ, List.setIfInBounds_toArray, List.set_cons_zero, List.set_cons_succ]
                refine wpAnyH_take (i := 16) (v := ?vaa16) rfl (by kernel_rfl) (by kernel_rfl) (by kernel_rfl) (fun _ _ _ h => h) (Or.inl ⟨by rfl, ?hya16⟩) (by assumption) ?raa16
                case hya16 => (intro wq hSw; (try dsimp only at hSw); obtain ⟨g1, g2⟩ := hSw; go_simp <;> with_reducible rfl)
                try simp only [Act.put, List.getElem_toArray, List.getElem_cons_zero, List.getElem_cons_succ, List.setIfInBounds_toArray, List.set_cons_zero, List.set_cons_succ]
                refine wpAnyH_take (i := 17) (v := ?vaa17) rfl (by kernel_rfl) (by kernel_rfl) (by kernel_rfl) (fun _ _ _ h => h) (Or.inl ⟨by rfl, ?hya17⟩) (by assumption) ?raa17
                case hya17 => (intro wq hSw; (try dsimp only at hSw); obtain ⟨g1, g2⟩ := hSw; go_simp <;> with_reducible rfl)
                try simp only [Act.put, List.getElem_toArray, List.getElem_cons_zero, List.getElem_cons_succ, List.setIfInBounds_toArray, List.set_cons_zero, List.set_cons_succ]
                refine wpAnyH_ready (rs := [14]) (by kernel_rfl) (by simp) ?_
                refine AllReadyH.cons rfl (fun K hK => ?_) AllReadyH.nil
                go_simp
                refine (CO.out _ HD.out).mono ?_
                rintro _ wq ⟨rfl, hwq⟩
                obtain rfl := hwq.symm
                go_wp2_with fail
                refine hK.out _ _ (SS.out _ HD.out.b ID.out) (fun hHeld => ?_)
                clear hK K
                try simp only [Act.put, List.getElem_toArray, List.getElem_cons_zero, List.getElem_cons_succ, List.setIfInBounds_toArray, List.set_cons_zero, List.set_cons_succ]
                refine wpAnyH_take (i := 15) (v := ?vaa15) rfl (by kernel_rfl) (by kernel_rfl) (by kernel_rfl) (fun _ _ _ h => h) (Or.inl ⟨by rfl, ?hya15⟩) (by assumption) ?raa15
                case hya15 => (intro wq hSw; (try dsimp only at hSw); obtain ⟨g1, g2⟩ := hSw; go_simp <;> with_reducible rfl)
                try simp only [Act.put, List.getElem_toArray, List.getElem_cons_zero, List.getElem_cons_succ, List.setIfInBounds_toArray, List.set_cons_zero, List.set_cons_succ]
                refine wpAnyH_take (i := 18) (v := ?vaa18) rfl (by kernel_rfl) (by kernel_rfl) (by kernel_rfl) (fun _ _ _ h => h) (Or.inl ⟨by rfl, ?hya18⟩) (by assumption) ?raa18
                case hya18 => (intro wq hSw; (try dsimp only at hSw); obtain ⟨g1, g2⟩ := hSw; go_simp <;> with_reducible rfl)
                try simp only [Act.put, List.getElem_toArray, List.getElem_cons_zero, List.getElem_cons_succ, List.setIfInBounds_toArray, List.set_cons_zero, List.set_cons_succ]
                refine wpAnyH_take (i := 19) (v := ?vaa19) rfl (by kernel_rfl) (by kernel_rfl) (by kernel_rfl) (fun _ _ _ h => h) (Or.inl ⟨by rfl, ?hya19⟩) (by assumption) ?raa19
                case hya19 => (intro wq hSw; (try dsimp only at hSw); obtain ⟨g1, g2⟩ := hSw; go_simp <;> with_reducible rfl)
                try simp only [Act.put, List.getElem_toArray, List.getElem_cons_zero, List.getElem_cons_succ, List.setIfInBounds_toArray, List.set_cons_zero, List.set_cons_succ]
                refine wpAnyH_take (i := 20) (v := ?vaa20) rfl (by kernel_rfl) (by kernel_rfl) (by kernel_rfl) (fun _ _ _ h => h) (Or.inl ⟨by rfl, ?hya20⟩) (by assumption) ?raa20
                case hya20 => (intro wq hSw; (try dsimp only at hSw); obtain ⟨g1, g2⟩ := hSw; go_simp <;> with_reducible rfl)
                try simp only [Act.put, List.getElem_toArray, List.getElem_cons_zero, List.getElem_cons_succ, List.setIfInBounds_toArray, List.set_cons_zero, List.set_cons_succ]
                refine wpAnyH_take (i := 21) (v := ?vaa21) rfl (by kernel_rfl) (by kernel_rfl) (by kernel_rfl) (fun _ _ _ h => h) (Or.inl ⟨by rfl, ?hya21⟩) (by assumption) ?raa21
                case hya21 => (intro wq hSw; (try dsimp only at hSw); obtain ⟨g1, g2⟩ := hSw; go_simp <;> with_reducible rfl)
                try simp only [Act.put, List.getElem_toArray, List.getElem_cons_zero, List.getElem_cons_succ, List.setIfInBounds_toArray, List.set_cons_zero, List.set_cons_succ]
                refine wpAnyH_take (i := 22) (v := ?vaa22) rfl (by kernel_rfl) (by kernel_rfl) (by kernel_rfl) (fun _ _ _ h => h) (Or.inl ⟨by rfl, ?hya22⟩) (by assumption) ?raa22
                case hya22 => (intro wq hSw; (try dsimp only at hSw); obtain ⟨g1, g2⟩ := hSw; go_simp <;> with_reducible rfl)
                try simp only [Act.put, List.getElem_toArray, List.getElem_cons_zero, List.getElem_cons_succ, List.setIfInBounds_toArray, List.set_cons_zero, List.set_cons_succ]
                refine wpAnyH_take (i := 23) (v := ?vaa23) rfl (by kernel_rfl) (by kernel_rfl) (by kernel_rfl) (fun _ _ _ h => h) (Or.inl ⟨by rfl, ?hya23⟩) (by assumption) ?raa23
                case hya23 => (intro wq hSw; (try dsimp only at hSw); obtain ⟨g1, g2⟩ := hSw; go_simp <;> with_reducible rfl)
                try simp only [Act.put, List.getElem_toArray, List.getElem_cons_zero, List.getElem_cons_succ, List.setIfInBounds_toArray, List.set_cons_zero, List.set_cons_succ]
                refine wpAnyH_take (i := 24) (v := ?vaa24) rfl (by kernel_rfl) (by kernel_rfl) (by kernel_rfl) (fun _ _ _ h => h) (Or.inl ⟨by rfl, ?hya24⟩) (by assumption) ?raa24
                case hya24 => (intro wq hSw; (try dsimp only at hSw); obtain ⟨g1, g2⟩ := hSw; go_simp <;> with_reducible rfl)
                try simp only [Act.put, List.getElem_toArray, List.getElem_cons_zero, List.getElem_cons_succ, List.setIfInBounds_toArray, List.set_cons_zero, List.set_cons_succ]
                refine wpAnyH_take (i := 25) (v := ?vaa25) rfl (by kernel_rfl) (by kernel_rfl) (by kernel_rfl) (fun _ _ _ h => h) (Or.inl ⟨by rfl, ?hya25⟩) (by assumption) ?raa25
                case hya25 => (intro wq hSw; (try dsimp only at hSw); obtain ⟨g1, g2⟩ := hSw; go_simp <;> with_reducible rfl)
                try simp only [Act.put, List.getElem_toArray, List.getElem_cons_zero, List.getElem_cons_succ, List.setIfInBounds_toArray, List.set_cons_zero, List.set_cons_succ]
                refine wpAnyH_take (i := 27) (v := ?vaa27) rfl (by kernel_rfl) (by kernel_rfl) (by kernel_rfl) (fun _ _ _ h => h) (Or.inl ⟨by rfl, ?hya27⟩) (by assumption) ?raa27
                case hya27 => (intro wq hSw; (try dsimp only at hSw); obtain ⟨g1, g2⟩ := hSw; go_simp <;> with_reducible rfl)
                try simp only [Act.put, List.getElem_toArray, List.getElem_cons_zero, List.getElem_cons_succ, List.setIfInBounds_toArray, List.set_cons_zero, List.set_cons_succ]
                refine wpAnyH_ready (rs := [26]) (by kernel_rfl) (by simp) ?_
                refine AllReadyH.cons rfl (fun K hK => ?_) AllReadyH.nil
                go_simp
                refine (CO.out _ HD.out).mono ?_
                rintro _ wq ⟨rfl, hwq⟩
                obtain rfl := hwq.symm
                go_wp2_with fail
                refine hK.out _ _ (SS.out _ HD.out.b ID.out) (fun hHeld => ?_)
                clear hK K
                try simp only [Act.put, List.getElem_toArray, List.getElem_cons_zero, List.getElem_cons_succ, List.setIfInBounds_toArray, List.set_cons_zero, List.set_cons_succ]
                refine wpAnyH_ready (rs := [28]) (by kernel_rfl) (by simp) ?_
                refine AllReadyH.cons rfl (fun K hK => ?_) AllReadyH.nil
                go_simp
                refine (RF.out _ HD.out).mono ?_
                rintro _ wq ⟨rfl, hwq⟩
                obtain rfl := hwq.symm
                go_wp2_with fail
                refine hK.out _ _ (SS.out _ HD.out.b ID.out) (fun hHeld => ?_)
                clear hK K
                try simp only [Act.put, List.getElem_toArray, List.getElem_cons_zero, List.getElem_cons_succ, List.setIfInBounds_toArray, List.set_cons_zero, List.set_cons_succ]
                refine wpAnyH_take (i := 29) (v := ?vaa29) rfl (by kernel_rfl) (by kernel_rfl) (by kernel_rfl) (fun _ _ _ h => h) (Or.inl ⟨by rfl, ?hya29⟩) (by assumption) ?raa29
                case hya29 => (intro wq hSw; (try dsimp only at hSw); obtain ⟨g1, g2⟩ := hSw; go_simp <;> with_reducible rfl)
                try simp only [Act.put, List.getElem_toArray, List.getElem_cons_zero, List.getElem_cons_succ, List.setIfInBounds_toArray, List.set_cons_zero, List.set_cons_succ]
                refine wpAnyH_take (i := 30) (v := ?vaa30) rfl (by kernel_rfl) (by kernel_rfl) (by kernel_rfl) (fun _ _ _ h => h) (Or.inl ⟨by rfl, ?hya30⟩) (by assumption) ?raa30
                case hya30 => (intro wq hSw; (try dsimp only at hSw); obtain ⟨g1, g2⟩ := hSw; go_simp <;> with_reducible rfl)
                try simp only [Act.put, List.getElem_toArray, List.getElem_cons_zero, List.getElem_cons_succ, List.setIfInBounds_toArray, List.set_cons_zero, List.set_cons_succ]
                refine wpAnyH_take (i := 31) (v := ?vaa31) rfl (by kernel_rfl) (by kernel_rfl) (by kernel_rfl) (fun _ _ _ h => h) (Or.inl ⟨by rfl, ?hya31⟩) (by assumption) ?raa31
                case hya31 => (intro wq hSw; (try dsimp only at hSw); obtain ⟨g1, g2⟩ := hSw; go_simp <;> with_reducible rfl)
                try simp only [Act.put, List.getElem_toArray, List.getElem_cons_zero, List.getElem_cons_succ, List.setIfInBounds_toArray, List.set_cons_zero, List.set_cons_succ]
                refine wpAnyH_take (i := 32) (v := ?vaa32) rfl (by kernel_rfl) (by kernel_rfl) (by kernel_rfl) (fun _ _ _ h => h) (Or.inl ⟨by rfl, ?hya32⟩) (by assumption) ?raa32
                case hya32 => (intro wq hSw; (try dsimp only at hSw); obtain ⟨g1, g2⟩ := hSw; go_simp <;> with_reducible rfl)
                try simp only [Act.put, List.getElem_toArray, List.getElem_cons_zero, List.getElem_cons_succ, List.setIfInBounds_toArray, List.set_cons_zero, List.set_cons_succ]
                refine wpAnyH_take (i := 33) (v := ?vaa33) rfl (by kernel_rfl) (by kernel_rfl) (by kernel_rfl) (fun _ _ _ h => h) (Or.inl ⟨by rfl, ?hya33⟩) (by assumption) ?raa33
                case hya33 => (intro wq hSw; (try dsimp only at hSw); obtain ⟨g1, g2⟩ := hSw; go_simp <;> with_reducible rfl)
                try simp only [Act.put, List.getElem_toArray, List.getElem_cons_zero, List.getElem_cons_succ, List.setIfInBounds_toArray, List.set_cons_zero, List.set_cons_succ]
                refine wpAnyH_take (i := 34) (v := ?vaa34) rfl (by kernel_rfl) (by kernel_rfl) (by kernel_rfl) (fun _ _ _ h => h) (Or.inl ⟨by rfl, ?hya34⟩) (by assumption) ?raa34
                case hya34 => (intro wq hSw; (try dsimp only at hSw); obtain ⟨g1, g2⟩ := hSw; go_simp <;> with_reducible rfl)
                try simp only [Act.put, List.getElem_toArray, List.getElem_cons_zero, List.getElem_cons_succ, List.setIfInBounds_toArray, List.set_cons_zero, List.set_cons_succ]
                refine wpAnyH_take (i := 35) (v := undef) rfl (by kernel_rfl) (by kernel_rfl) (by kernel_rfl) (fun _ _ _ h => h) (Or.inr ⟨by rfl, rfl⟩) (by assumption) ?raa35
                try simp only [Act.put, List.getElem_toArray, List.getElem_cons_zero, List.getElem_cons_succ, List.setIfInBounds_toArray, List.set_cons_zero, List.set_cons_succ]
                refine wpAnyH_take (i := 36) (v := undef) rfl (by kernel_rfl) (by kernel_rfl) (by kernel_rfl) (fun _ _ _ h => h) (Or.inr ⟨by rfl, rfl⟩) (by assumption) ?raa36
                try simp only [Act.put, List.getElem_toArray, List.getElem_cons_zero, List.getElem_cons_succ, List.setIfInBounds_toArray, List.set_cons_zero, List.set_cons_succ]
                refine wpAnyH_take (i := 37) (v := undef) rfl (by kernel_rfl) (by kernel_rfl) (by kernel_rfl) (fun _ _ _ h => h) (Or.inr ⟨by rfl, rfl⟩) (by assumption) ?raa37
                try simp only [Act.put, List.getElem_toArray, List.getElem_cons_zero, List.getElem_cons_succ, List.setIfInBounds_toArray, List.set_cons_zero, List.set_cons_succ]
                refine wpAnyH_take (i := 38) (v := undef) rfl (by kernel_rfl) (by kernel_rfl) (by kernel_rfl) (fun _ _ _ h => h) (Or.inr ⟨by rfl, rfl⟩) (by assumption) ?raa38
                try simp only [Act.put, List.getElem_toArray, List.getElem_cons_zero, List.getElem_cons_succ, List.setIfInBounds_toArray, List.set_cons_zero, List.set_cons_succ]
                refine wpAnyH_take (i := 39) (v := undef) rfl (by kernel_rfl) (by kernel_rfl) (by kernel_rfl) (fun _ _ _ h => h) (Or.inr ⟨by rfl, rfl⟩) (by assumption) ?raa39
                try simp only [Act.put, List.getElem_toArray, List.getElem_cons_zero, List.getElem_cons_succ, List.setIfInBounds_toArray, List.set_cons_zero, List.set_cons_succ]
                refine wpAnyH_take (i := 40) (v := undef) rfl (by kernel_rfl) (by kernel_rfl) (by kernel_rfl) (fun _ _ _ h => h) (Or.inr ⟨by rfl, rfl⟩) (by assumption) ?raa40
                try simp only [Act.put, List.getElem_toArray, List.getElem_cons_zero, List.getElem_cons_succ, List.setIfInBounds_toArray, List.set_cons_zero, List.set_cons_succ]
                refine wpAnyH_take (i := 41) (v := undef) rfl (by kernel_rfl) (by kernel_rfl) (by kernel_rfl) (fun _ _ _ h => h) (Or.inr ⟨by rfl, rfl⟩) (by assumption) ?raa41
                try simp only [Act.put, List.getElem_toArray, List.getElem_cons_zero, List.getElem_cons_succ, List.setIfInBounds_toArray, List.set_cons_zero, List.set_cons_succ]
                refine wpAnyH_take (i := 42) (v := undef) rfl (by kernel_rfl) (by kernel_rfl) (by kernel_rfl) (fun _ _ _ h => h) (Or.inr ⟨by rfl, rfl⟩) (by assumption) ?raa42
                try simp only [Act.put, List.getElem_toArray, List.getElem_cons_zero, List.getElem_cons_succ, List.setIfInBounds_toArray, List.set_cons_zero, List.set_cons_succ]
                refine wpAnyH_take (i := 43) (v := undef) rfl (by kernel_rfl) (by kernel_rfl) (by kernel_rfl) (fun _ _ _ h => h) (Or.inr ⟨by rfl, rfl⟩) (by assumption) ?raa43
                try simp only [Act.put, List.getElem_toArray, List.getElem_cons_zero, List.getElem_cons_succ, List.setIfInBounds_toArray, List.set_cons_zero, List.set_cons_succ]
                refine wpAnyH_take (i := 44) (v := undef) rfl (by kernel_rfl) (by kernel_rfl) (by kernel_rfl) (fun _ _ _ h => h) (Or.inr ⟨by rfl, rfl⟩) (by assumption) ?raa44
                try simp only [Act.put, List.getElem_toArray, List.getElem_cons_zero, List.getElem_cons_succ, List.setIfInBounds_toArray, List.set_cons_zero, List.set_cons_succ]
                refine wpAnyH_take (i := 45) (v := ?vaa45) rfl (by kernel_rfl) (by kernel_rfl) (by kernel_rfl) (fun _ _ _ h => h) (Or.inl ⟨by rfl, ?hya45⟩) (by assumption) ?raa45
                case hya45 => (intro wq hSw; (try dsimp only at hSw); obtain ⟨g1, g2⟩ := hSw; go_simp <;> with_reducible rfl)
                try simp only [Act.put, List.getElem_toArray, List.getElem_cons_zero, List.getElem_cons_succ, List.setIfInBounds_toArray, List.set_cons_zero, List.set_cons_succ]
                refine wpAnyH_take (i := 46) (v := ?vaa46) rfl (by kernel_rfl) (by kernel_rfl) (by kernel_rfl) (fun _ _ _ h => h) (Or.inl ⟨by rfl, ?hya46⟩) (by assumption) ?raa46
                case hya46 => (intro wq hSw; (try dsimp only at hSw); obtain ⟨g1, g2⟩ := hSw; go_simp <;> with_reducible rfl)
                try simp only [Act.put, List.getElem_toArray, List.getElem_cons_zero, List.getElem_cons_succ, List.setIfInBounds_toArray, List.set_cons_zero, List.set_cons_succ]
                refine wpAnyH_done (by kernel_rfl) ?_ _
                go_wp2
                go_roundw
                case rel => exact ⟨kk + 1, by omega, by go_num, HD.out, ID.out⟩
                case measure => simp [intOf]; omega
              · obtain ⟨kp, hkp⟩ : ∃ kp, kk = kp + 1 := ⟨kk - 1, by omega⟩
                have dk : decide (0 < (kk : Int)) = true := decide_eq_true (by omega)
                have hkI : 0 < (kk : Int) := by omega
                have hkN : 0 < kk := by omega
                have dk2 : decide (0 < kk) = true := decide_eq_true hkN
                have hkpI : (kp : Int) < (ln : Int) := by omega
                have s3 : IntKind.i64.wrap ((kk : Int) - 1) = (kp : Int) := by rw [wrapI (by omega) (by omega)]; omega
                have s4 : wrap64 ((kk : Int) - 1) = (kp : Int) := by unfold wrap64; omega
                have up := FB.out kp kk (by omega) hk
                rw [hx] at up
                obtain ⟨y, hy⟩ : ∃ y, L.getD kp 0 = y := ⟨_, rfl⟩
                rw [hy] at up
                have q4 : decide (x ≤ y) = false := decide_eq_false (by omega)
                have SS := hide (show ∀ W, Below w.heap.size w W → Ig W (some ⟨b5, o5, none⟩) d4 L → W.cell? ⟨b5, o5 + kk, none⟩ = some (.int .i64 x) ∧ W.cell? ⟨b5, o5 + kp, none⟩ = some (.int .i64 y) from fun W _ hI => ⟨(SA.out W hI kk hk).trans (by rw [hx]), (SA.out W hI kp (by omega)).trans (by rw [hy])⟩)
                have KP := hide hkp
                clear hx hy hkp up hk0 FA FB
                go_wp2_with fail
                refine wp_region_held_drew (S := fun w' => w'.cell? ⟨b5, o5 + kk, none⟩ = some (.int .i64 x) ∧ w'.cell? ⟨b5, o5 + kp, none⟩ = some (.int .i64 y)) (by kernel_rfl) (SS.out _ HD.out.b ID.out) (fun hHeld => ?_)
                refine wpAnyH_take (i := 0) (v := ?vab0) rfl (by kernel_rfl) (by kernel_rfl) (by kernel_rfl) (fun _ _ _ h => h) (Or.inl ⟨by rfl, ?hyb0⟩) (by assumption) ?rab0
                case hyb0 => (intro wq hSw; (try dsimp only at hSw); obtain ⟨g1, g2⟩ := hSw; go_simp <;> with_reducible rfl)
                try simp only [Act.put, List.getElem_toArray, List.getElem_cons_zero, List.setIfInBounds_toArray, List.set_cons_zero, List.set_cons_succ]
                refine wpAnyH_take (i := 1) (v := ?vab1) rfl (by kernel_rfl) (by kernel_rfl) (by kernel_rfl) (fun _ _ _ h => h) (Or.inl ⟨by rfl, ?hyb1⟩) (by assumption) ?rab1
                case hyb1 => (intro wq hSw; (try dsimp only at hSw); obtain ⟨g1, g2⟩ := hSw; go_simp <;> with_reducible rfl)
                try simp only [Act.put, List.getElem_toArray, List.getElem_cons_zero, List.getElem_cons_succ, List.setIfInBounds_toArray, List.set_cons_zero, List.set_cons_succ]
                refine wpAnyH_take (i := 2) (v := ?vab2) rfl (by kernel_rfl) (by kernel_rfl) (by kernel_rfl) (fun _ _ _ h => h) (Or.inl ⟨by rfl, ?hyb2⟩) (by assumption) ?rab2
                case hyb2 => (intro wq hSw; (try dsimp only at hSw); obtain ⟨g1, g2⟩ := hSw; go_simp <;> with_reducible rfl)
                try simp only [Act.put, List.getElem_toArray, List.getElem_cons_zero, List.getElem_cons_succ, List.setIfInBounds_toArray, List.set_cons_zero, List.set_cons_succ]
                refine wpAnyH_take (i := 3) (v := ?vab3) rfl (by kernel_rfl) (by kernel_rfl) (by kernel_rfl) (fun _ _ _ h => h) (Or.inl ⟨by rfl, ?hyb3⟩) (by assumption) ?rab3
                case hyb3 => (intro wq hSw; (try dsimp only at hSw); obtain ⟨g1, g2⟩ := hSw; go_simp <;> with_reducible rfl)
                try simp only [Act.put, List.getElem_toArray, List.getElem_cons_zero, List.getElem_cons_succ, List.setIfInBounds_toArray, List.set_cons_zero, List.set_cons_succ]
                refine wpAnyH_take (i := 4) (v := ?vab4) rfl (by kernel_rfl) (by kernel_rfl) (by kernel_rfl) (fun _ _ _ h => h) (Or.inl ⟨by rfl, ?hyb4⟩) (by assumption) ?rab4
                case hyb4 => (intro wq hSw; (try dsimp only at hSw); obtain ⟨g1, g2⟩ := hSw; go_simp <;> with_reducible rfl)
                try simp only [Act.put, List.getElem_toArray, List.getElem_cons_zero, List.getElem_cons_succ, List.setIfInBounds_toArray, List.set_cons_zero, List.set_cons_succ]
                refine wpAnyH_take (i := 6) (v := ?vab6) rfl (by kernel_rfl) (by kernel_rfl) (by kernel_rfl) (fun _ _ _ h => h) (Or.inl ⟨by rfl, ?hyb6⟩) (by assumption) ?rab6
                case hyb6 => (intro wq hSw; (try dsimp only at hSw); obtain ⟨g1, g2⟩ := hSw; go_simp <;> with_reducible rfl)
                try simp only [Act.put, List.getElem_toArray, List.getElem_cons_zero, List.getElem_cons_succ, List.setIfInBounds_toArray, List.set_cons_zero, List.set_cons_succ]
                refine wpAnyH_ready (rs := [5]) (by kernel_rfl) (by simp) ?_
                refine AllReadyH.cons rfl (fun K hK => ?_) AllReadyH.nil
                go_simp
                refine (ST.out _ HD.out).mono ?_
                rintro _ wA ⟨rfl, hb⟩
                have ID := hide (ID.out.keep hb)
                have HD := hide (HD.out.keep hb)
                clear hb
                go_wp2_with fail
                refine hK.out _ _ (SS.out _ HD.out.b ID.out) (fun hHeld => ?_)
                clear hK K
                try simp only [Act.put, List.getElem_toArray, List.getElem_cons_zero, List.getElem_cons_succ, List.setIfInBounds_toArray, List.set_cons_zero, List.set_cons_succ]
                refine wpAnyH_take (i := 7) (v := ?vab7) rfl (by kernel_rfl) (by kernel_rfl) (by kernel_rfl) (fun _ _ _ h => h) (Or.inl ⟨by rfl, ?hyb7⟩) (by assumption) ?rab7
                case hyb7 => (intro wq hSw; (try dsimp only at hSw); obtain ⟨g1, g2⟩ := hSw; go_simp <;> with_reducible rfl)
                try simp only [Act.put, List.getElem_toArray, List.getElem_cons_zero, List.getElem_cons_succ, List.setIfInBounds_toArray, List.set_cons_zero, List.set_cons_succ]
                refine wpAnyH_take (i := 8) (v := ?vab8) rfl (by kernel_rfl) (by kernel_rfl) (by kernel_rfl) (fun _ _ _ h => h) (Or.inl ⟨by rfl, ?hyb8⟩) (by assumption) ?rab8
                case hyb8 => (intro wq hSw; (try dsimp only at hSw); obtain ⟨g1, g2⟩ := hSw; go_simp <;> with_reducible rfl)
                try simp only [Act.put, List.getElem_toArray, List.getElem_cons_zero, List.getElem_cons_succ, List.setIfInBounds_toArray, List.set_cons_zero, List.set_cons_succ]
                refine wpAnyH_take (i := 9) (v := ?vab9) rfl (by kernel_rfl) (by kernel_rfl) (by kernel_rfl) (fun _ _ _ h => h) (Or.inl ⟨by rfl, ?hyb9⟩) (by assumption) ?rab9
                case hyb9 => (intro wq hSw; (try dsimp only at hSw); obtain ⟨g1, g2⟩ := hSw; go_simp <;> with_reducible rfl)
                try simp only [Act.put, List.getElem_toArray, List.getElem_cons_zero, List.getElem_cons_succ, List.setIfInBounds_toArray, List.set_cons_zero, List.set_cons_succ]
                refine wpAnyH_take (i := 10) (v := ?vab10) rfl (by kernel_rfl) (by kernel_rfl) (by kernel_rfl) (fun _ _ _ h => h) (Or.inl ⟨by rfl, ?hyb10⟩) (by assumption) ?rab10
                case hyb10 => (intro wq hSw; (try dsimp only at hSw); obtain ⟨g1, g2⟩ := hSw; go_simp <;> with_reducible rfl)
                try simp only [Act.put, List.getElem_toArray, List.getElem_cons_zero, List.getElem_cons_succ, List.setIfInBounds_toArray, List.set_cons_zero, List.set_cons_succ]
                refine wpAnyH_take (i := 11) (v := ?vab11) rfl (by kernel_rfl) (by kernel_rfl) (by kernel_rfl) (fun _ _ _ h => h) (Or.inl ⟨by rfl, ?hyb11⟩) (by assumption) ?rab11
                case hyb11 => (intro wq hSw; (try dsimp only at hSw); obtain ⟨g1, g2⟩ := hSw; go_simp <;> with_reducible rfl)
                try simp only [Act.put, List.getElem_toArray, List.getElem_cons_zero, List.getElem_cons_succ, List.setIfInBounds_toArray, List.set_cons_zero, List.set_cons_succ]
                refine wpAnyH_take (i := 12) (v := ?vab12) rfl (by kernel_rfl) (by kernel_rfl) (by kernel_rfl) (fun _ _ _ h => h) (Or.inl ⟨by rfl, ?hyb12⟩) (by assumption) ?rab12
                case hyb12 => (intro wq hSw; (try dsimp only at hSw); obtain ⟨g1, g2⟩ := hSw; go_simp <;> with_reducible rfl)
                try simp only [Act.put, List.getElem_toArray, List.getElem_cons_zero, List.getElem_cons_succ, List.setIfInBounds_toArray, List.set_cons_zero, List.set_cons_succ]
                refine wpAnyH_take (i := 13) (v := ?vab13) rfl (by kernel_rfl) (by kernel_rfl) (by kernel_rfl) (fun _ _ _ h => h) (Or.inl ⟨by rfl, ?hyb13⟩) (by assumption) ?rab13
                case hyb13 => (intro wq hSw; (try dsimp only at hSw); obtain ⟨g1, g2⟩ := hSw; go_simp <;> with_reducible rfl)
                try simp only [Act.put, List.getElem_toArray, List.getElem_cons_zero, List.getElem_cons_succ, List.setIfInBounds_toArray, List.set_cons_zero, List.set_cons_succ]
                refine wpAnyH_take (i := 16) (v := ?vab16) rfl (by kernel_rfl) (by kernel_rfl) (by kernel_rfl) (fun _ _ _ h => h) (Or.inl ⟨by rfl, ?hyb16⟩) (by assumption) ?rab16
                case hyb16 => (intro wq hSw; (try dsimp only at hSw); obtain ⟨g1, g2⟩ := hSw; go_simp <;> with_reducible rfl)
                try simp only [Act.put, List.getElem_toArray, List.getElem_cons_zero, List.getElem_cons_succ, List.setIfInBounds_toArray, List.set_cons_zero, List.set_cons_succ]
                refine wpAnyH_take (i := 17) (v := ?vab17) rfl (by kernel_rfl) (by kernel_rfl) (by kernel_rfl) (fun _ _ _ h => h) (Or.inl ⟨by rfl, ?hyb17⟩) (by assumption) ?rab17
                case hyb17 => (intro wq hSw; (try dsimp only at hSw); obtain ⟨g1, g2⟩ := hSw; go_simp <;> with_reducible rfl)
                try simp only [Act.put, List.getElem_toArray, List.getElem_cons_zero, List.getElem_cons_succ, List.setIfInBounds_toArray, List.set_cons_zero, List.set_cons_succ]
                refine wpAnyH_ready (rs := [14]) (by kernel_rfl) (by simp) ?_
                refine AllReadyH.cons rfl (fun K hK => ?_) AllReadyH.nil
                go_simp
                refine (CO.out _ HD.out).mono ?_
                rintro _ wq ⟨rfl, hwq⟩
                obtain rfl := hwq.symm
                go_wp2_with fail
                refine hK.out _ _ (SS.out _ HD.out.b ID.out) (fun hHeld => ?_)
                clear hK K
                try simp only [Act.put, List.getElem_toArray, List.getElem_cons_zero, List.getElem_cons_succ, List.setIfInBounds_toArray, List.set_cons_zero, List.set_cons_succ]
                refine wpAnyH_take (i := 15) (v := ?vab15) rfl (by kernel_rfl) (by kernel_rfl) (by kernel_rfl) (fun _ _ _ h => h) (Or.inl ⟨by rfl, ?hyb15⟩) (by assumption) ?rab15
                case hyb15 => (intro wq hSw; (try dsimp only at hSw); obtain ⟨g1, g2⟩ := hSw; go_simp <;> with_reducible rfl)
                try simp only [Act.put, List.getElem_toArray, List.getElem_cons_zero, List.getElem_cons_succ, List.setIfInBounds_toArray, List.set_cons_zero, List.set_cons_succ]
                refine wpAnyH_take (i := 18) (v := ?vab18) rfl (by kernel_rfl) (by kernel_rfl) (by kernel_rfl) (fun _ _ _ h => h) (Or.inl ⟨by rfl, ?hyb18⟩) (by assumption) ?rab18
                case hyb18 => (intro wq hSw; (try dsimp only at hSw); obtain ⟨g1, g2⟩ := hSw; go_simp <;> with_reducible rfl)
                try simp only [Act.put, List.getElem_toArray, List.getElem_cons_zero, List.getElem_cons_succ, List.setIfInBounds_toArray, List.set_cons_zero, List.set_cons_succ]
                refine wpAnyH_take (i := 19) (v := ?vab19) rfl (by kernel_rfl) (by kernel_rfl) (by kernel_rfl) (fun _ _ _ h => h) (Or.inl ⟨by rfl, ?hyb19⟩) (by assumption) ?rab19
                case hyb19 => (intro wq hSw; (try dsimp only at hSw); obtain ⟨g1, g2⟩ := hSw; go_simp <;> with_reducible rfl)
                try simp only [Act.put, List.getElem_toArray, List.getElem_cons_zero, List.getElem_cons_succ, List.setIfInBounds_toArray, List.set_cons_zero, List.set_cons_succ]
                refine wpAnyH_take (i := 20) (v := ?vab20) rfl (by kernel_rfl) (by kernel_rfl) (by kernel_rfl) (fun _ _ _ h => h) (Or.inl ⟨by rfl, ?hyb20⟩) (by assumption) ?rab20
                case hyb20 => (intro wq hSw; (try dsimp only at hSw); obtain ⟨g1, g2⟩ := hSw; go_simp <;> with_reducible rfl)
                try simp only [Act.put, List.getElem_toArray, List.getElem_cons_zero, List.getElem_cons_succ, List.setIfInBounds_toArray, List.set_cons_zero, List.set_cons_succ]
                refine wpAnyH_take (i := 21) (v := ?vab21) rfl (by kernel_rfl) (by kernel_rfl) (by kernel_rfl) (fun _ _ _ h => h) (Or.inl ⟨by rfl, ?hyb21⟩) (by assumption) ?rab21
                case hyb21 => (intro wq hSw; (try dsimp only at hSw); obtain ⟨g1, g2⟩ := hSw; go_simp <;> with_reducible rfl)
                try simp only [Act.put, List.getElem_toArray, List.getElem_cons_zero, List.getElem_cons_succ, List.setIfInBounds_toArray, List.set_cons_zero, List.set_cons_succ]
                refine wpAnyH_take (i := 22) (v := ?vab22) rfl (by kernel_rfl) (by kernel_rfl) (by kernel_rfl) (fun _ _ _ h => h) (Or.inl ⟨by rfl, ?hyb22⟩) (by assumption) ?rab22
                case hyb22 => (intro wq hSw; (try dsimp only at hSw); obtain ⟨g1, g2⟩ := hSw; go_simp <;> with_reducible rfl)
                try simp only [Act.put, List.getElem_toArray, List.getElem_cons_zero, List.getElem_cons_succ, List.setIfInBounds_toArray, List.set_cons_zero, List.set_cons_succ]
                refine wpAnyH_take (i := 23) (v := ?vab23) rfl (by kernel_rfl) (by kernel_rfl) (by kernel_rfl) (fun _ _ _ h => h) (Or.inl ⟨by rfl, ?hyb23⟩) (by assumption) ?rab23
                case hyb23 => (intro wq hSw; (try dsimp only at hSw); obtain ⟨g1, g2⟩ := hSw; go_simp <;> with_reducible rfl)
                try simp only [Act.put, List.getElem_toArray, List.getElem_cons_zero, List.getElem_cons_succ, List.setIfInBounds_toArray, List.set_cons_zero, List.set_cons_succ]
                refine wpAnyH_take (i := 24) (v := ?vab24) rfl (by kernel_rfl) (by kernel_rfl) (by kernel_rfl) (fun _ _ _ h => h) (Or.inl ⟨by rfl, ?hyb24⟩) (by assumption) ?rab24
                case hyb24 => (intro wq hSw; (try dsimp only at hSw); obtain ⟨g1, g2⟩ := hSw; go_simp <;> with_reducible rfl)
                try simp only [Act.put, List.getElem_toArray, List.getElem_cons_zero, List.getElem_cons_succ, List.setIfInBounds_toArray, List.set_cons_zero, List.set_cons_succ]
                refine wpAnyH_take (i := 25) (v := ?vab25) rfl (by kernel_rfl) (by kernel_rfl) (by kernel_rfl) (fun _ _ _ h => h) (Or.inl ⟨by rfl, ?hyb25⟩) (by assumption) ?rab25
                case hyb25 => (intro wq hSw; (try dsimp only at hSw); obtain ⟨g1, g2⟩ := hSw; go_simp <;> with_reducible rfl)
                try simp only [Act.put, List.getElem_toArray, List.getElem_cons_zero, List.getElem_cons_succ, List.setIfInBounds_toArray, List.set_cons_zero, List.set_cons_succ]
                refine wpAnyH_take (i := 27) (v := ?vab27) rfl (by kernel_rfl) (by kernel_rfl) (by kernel_rfl) (fun _ _ _ h => h) (Or.inl ⟨by rfl, ?hyb27⟩) (by assumption) ?rab27
                case hyb27 => (intro wq hSw; (try dsimp only at hSw); obtain ⟨g1, g2⟩ := hSw; go_simp <;> with_reducible rfl)
                try simp only [Act.put, List.getElem_toArray, List.getElem_cons_zero, List.getElem_cons_succ, List.setIfInBounds_toArray, List.set_cons_zero, List.set_cons_succ]
                refine wpAnyH_ready (rs := [26]) (by kernel_rfl) (by simp) ?_
                refine AllReadyH.cons rfl (fun K hK => ?_) AllReadyH.nil
                go_simp
                refine (CO.out _ HD.out).mono ?_
                rintro _ wq ⟨rfl, hwq⟩
                obtain rfl := hwq.symm
                go_wp2_with fail
                refine hK.out _ _ (SS.out _ HD.out.b ID.out) (fun hHeld => ?_)
                clear hK K
                try simp only [Act.put, List.getElem_toArray, List.getElem_cons_zero, List.getElem_cons_succ, List.setIfInBounds_toArray, List.set_cons_zero, List.set_cons_succ]
                refine wpAnyH_ready (rs := [28]) (by kernel_rfl) (by simp) ?_
                refine AllReadyH.cons rfl (fun K hK => ?_) AllReadyH.nil
                go_simp
                refine (RF.out _ HD.out).mono ?_
                rintro _ wq ⟨rfl, hwq⟩
                obtain rfl := hwq.symm
                go_wp2_with fail
                refine hK.out _ _ (SS.out _ HD.out.b ID.out) (fun hHeld => ?_)
                clear hK K
                try simp only [Act.put, List.getElem_toArray, List.getElem_cons_zero, List.getElem_cons_succ, List.setIfInBounds_toArray, List.set_cons_zero, List.set_cons_succ]
                refine wpAnyH_take (i := 29) (v := ?vab29) rfl (by kernel_rfl) (by kernel_rfl) (by kernel_rfl) (fun _ _ _ h => h) (Or.inl ⟨by rfl, ?hyb29⟩) (by assumption) ?rab29
                case hyb29 => (intro wq hSw; (try dsimp only at hSw); obtain ⟨g1, g2⟩ := hSw; go_simp <;> with_reducible rfl)
                try simp only [Act.put, List.getElem_toArray, List.getElem_cons_zero, List.getElem_cons_succ, List.setIfInBounds_toArray, List.set_cons_zero, List.set_cons_succ]
                refine wpAnyH_take (i := 30) (v := ?vab30) rfl (by kernel_rfl) (by kernel_rfl) (by kernel_rfl) (fun _ _ _ h => h) (Or.inl ⟨by rfl, ?hyb30⟩) (by assumption) ?rab30
                case hyb30 => (intro wq hSw; (try dsimp only at hSw); obtain ⟨g1, g2⟩ := hSw; go_simp <;> with_reducible rfl)
                try simp only [Act.put, List.getElem_toArray, List.getElem_cons_zero, List.getElem_cons_succ, List.setIfInBounds_toArray, List.set_cons_zero, List.set_cons_succ]
                refine wpAnyH_take (i := 31) (v := ?vab31) rfl (by kernel_rfl) (by kernel_rfl) (by kernel_rfl) (fun _ _ _ h => h) (Or.inl ⟨by rfl, ?hyb31⟩) (by assumption) ?rab31
                case hyb31 => (intro wq hSw; (try dsimp only at hSw); obtain ⟨g1, g2⟩ := hSw; go_simp <;> with_reducible rfl)
                try simp only [Act.put, List.getElem_toArray, List.getElem_cons_zero, List.getElem_cons_succ, List.setIfInBounds_toArray, List.set_cons_zero, List.set_cons_succ]
                refine wpAnyH_take (i := 32) (v := ?vab32) rfl (by kernel_rfl) (by kernel_rfl) (by kernel_rfl) (fun _ _ _ h => h) (Or.inl ⟨by rfl, ?hyb32⟩) (by assumption) ?rab32
                case hyb32 => (intro wq hSw; (try dsimp only at hSw); obtain ⟨g1, g2⟩ := hSw; go_simp <;> with_reducible rfl)
                try simp only [Act.put, List.getElem_toArray, List.getElem_cons_zero, List.getElem_cons_succ, List.setIfInBounds_toArray, List.set_cons_zero, List.set_cons_succ]
                refine wpAnyH_take (i := 33) (v := ?vab33) rfl (by kernel_rfl) (by kernel_rfl) (by kernel_rfl) (fun _ _ _ h => h) (Or.inl ⟨by rfl, ?hyb33⟩) (by assumption) ?rab33
                case hyb33 => (intro wq hSw; (try dsimp only at hSw); obtain ⟨g1, g2⟩ := hSw; go_simp <;> with_reducible rfl)
                try simp only [Act.put, List.getElem_toArray, List.getElem_cons_zero, List.getElem_cons_succ, List.setIfInBounds_toArray, List.set_cons_zero, List.set_cons_succ]
                refine wpAnyH_take (i := 34) (v := ?vab34) rfl (by kernel_rfl) (by kernel_rfl) (by kernel_rfl) (fun _ _ _ h => h) (Or.inl ⟨by rfl, ?hyb34⟩) (by assumption) ?rab34
                case hyb34 => (intro wq hSw; (try dsimp only at hSw); obtain ⟨g1, g2⟩ := hSw; go_simp <;> with_reducible rfl)
                try simp only [Act.put, List.getElem_toArray, List.getElem_cons_zero, List.getElem_cons_succ, List.setIfInBounds_toArray, List.set_cons_zero, List.set_cons_succ]
                refine wpAnyH_take (i := 35) (v := ?vab35) rfl (by kernel_rfl) (by kernel_rfl) (by kernel_rfl) (fun _ _ _ h => h) (Or.inl ⟨by rfl, ?hyb35⟩) (by assumption) ?rab35
                case hyb35 => (intro wq hSw; (try dsimp only at hSw); obtain ⟨g1, g2⟩ := hSw; go_simp <;> with_reducible rfl)
                try simp only [Act.put, List.getElem_toArray, List.getElem_cons_zero, List.getElem_cons_succ, List.setIfInBounds_toArray, List.set_cons_zero, List.set_cons_succ]
                refine wpAnyH_take (i := 36) (v := ?vab36) rfl (by kernel_rfl) (by kernel_rfl) (by kernel_rfl) (fun _ _ _ h => h) (Or.inl ⟨by rfl, ?hyb36⟩) (by assumption) ?rab36
                case hyb36 => (intro wq hSw; (try dsimp only at hSw); obtain ⟨g1, g2⟩ := hSw; go_simp <;> with_reducible rfl)
                try simp only [Act.put, List.getElem_toArray, List.getElem_cons_zero, List.getElem_cons_succ, List.setIfInBounds_toArray, List.set_cons_zero, List.set_cons_succ]
                refine wpAnyH_take (i := 37) (v := ?vab37) rfl (by kernel_rfl) (by kernel_rfl) (by kernel_rfl) (fun _ _ _ h => h) (Or.inl ⟨by rfl, ?hyb37⟩) (by assumption) ?rab37
                case hyb37 => (intro wq hSw; (try dsimp only at hSw); obtain ⟨g1, g2⟩ := hSw; go_simp <;> with_reducible rfl)
                try simp only [Act.put, List.getElem_toArray, List.getElem_cons_zero, List.getElem_cons_succ, List.setIfInBounds_toArray, List.set_cons_zero, List.set_cons_succ]
                refine wpAnyH_take (i := 38) (v := ?vab38) rfl (by kernel_rfl) (by kernel_rfl) (by kernel_rfl) (fun _ _ _ h => h) (Or.inl ⟨by rfl, ?hyb38⟩) (by assumption) ?rab38
                case hyb38 => (intro wq hSw; (try dsimp only at hSw); obtain ⟨g1, g2⟩ := hSw; go_simp <;> with_reducible rfl)
                try simp only [Act.put, List.getElem_toArray, List.getElem_cons_zero, List.getElem_cons_succ, List.setIfInBounds_toArray, List.set_cons_zero, List.set_cons_succ]
                refine wpAnyH_take (i := 39) (v := ?vab39) rfl (by kernel_rfl) (by kernel_rfl) (by kernel_rfl) (fun _ _ _ h => h) (Or.inl ⟨by rfl, ?hyb39⟩) (by assumption) ?rab39
                case hyb39 => (intro wq hSw; (try dsimp only at hSw); obtain ⟨g1, g2⟩ := hSw; go_simp <;> with_reducible rfl)
                try simp only [Act.put, List.getElem_toArray, List.getElem_cons_zero, List.getElem_cons_succ, List.setIfInBounds_toArray, List.set_cons_zero, List.set_cons_succ]
                refine wpAnyH_take (i := 40) (v := ?vab40) rfl (by kernel_rfl) (by kernel_rfl) (by kernel_rfl) (fun _ _ _ h => h) (Or.inl ⟨by rfl, ?hyb40⟩) (by assumption) ?rab40
                case hyb40 => (intro wq hSw; (try dsimp only at hSw); obtain ⟨g1, g2⟩ := hSw; go_simp <;> with_reducible rfl)
                try simp only [Act.put, List.getElem_toArray, List.getElem_cons_zero, List.getElem_cons_succ, List.setIfInBounds_toArray, List.set_cons_zero, List.set_cons_succ]
                refine wpAnyH_take (i := 41) (v := ?vab41) rfl (by kernel_rfl) (by kernel_rfl) (by kernel_rfl) (fun _ _ _ h => h) (Or.inl ⟨by rfl, ?hyb41⟩) (by assumption) ?rab41
                case hyb41 => (intro wq hSw; (try dsimp only at hSw); obtain ⟨g1, g2⟩ := hSw; go_simp <;> with_reducible rfl)
                try simp only [Act.put, List.getElem_toArray, List.getElem_cons_zero, List.getElem_cons_succ, List.setIfInBounds_toArray, List.set_cons_zero, List.set_cons_succ]
                refine wpAnyH_take (i := 42) (v := ?vab42) rfl (by kernel_rfl) (by kernel_rfl) (by kernel_rfl) (fun _ _ _ h => h) (Or.inl ⟨by rfl, ?hyb42⟩) (by assumption) ?rab42
                case hyb42 => (intro wq hSw; (try dsimp only at hSw); obtain ⟨g1, g2⟩ := hSw; go_simp <;> with_reducible rfl)
                try simp only [Act.put, List.getElem_toArray, List.getElem_cons_zero, List.getElem_cons_succ, List.setIfInBounds_toArray, List.set_cons_zero, List.set_cons_succ]
                refine wpAnyH_take (i := 43) (v := ?vab43) rfl (by kernel_rfl) (by kernel_rfl) (by kernel_rfl) (fun _ _ _ h => h) (Or.inl ⟨by rfl, ?hyb43⟩) (by assumption) ?rab43
                case hyb43 => (intro wq hSw; (try dsimp only at hSw); obtain ⟨g1, g2⟩ := hSw; go_simp <;> with_reducible rfl)
                try simp only [Act.put, List.getElem_toArray, List.getElem_cons_zero, List.getElem_cons_succ, List.setIfInBounds_toArray, List.set_cons_zero, List.set_cons_succ]
                refine wpAnyH_take (i := 44) (v := ?vab44) rfl (by kernel_rfl) (by kernel_rfl) (by kernel_rfl) (fun _ _ _ h => h) (Or.inl ⟨by rfl, ?hyb44⟩) (by assumption) ?rab44
                case hyb44 => (intro wq hSw; (try dsimp only at hSw); obtain ⟨g1, g2⟩ := hSw; go_simp <;> with_reducible rfl)
                try simp only [Act.put, List.getElem_toArray, List.getElem_cons_zero, List.getElem_cons_succ, List.setIfInBounds_toArray, List.set_cons_zero, List.set_cons_succ]
                refine wpAnyH_take (i := 45) (v := ?vab45) rfl (by kernel_rfl) (by kernel_rfl) (by kernel_rfl) (fun _ _ _ h => h) (Or.inl ⟨by rfl, ?hyb45⟩) (by assumption) ?rab45
                case hyb45 => (intro wq hSw; (try dsimp only at hSw); obtain ⟨g1, g2⟩ := hSw; go_simp <;> with_reducible rfl)
                try simp only [Act.put, List.getElem_toArray, List.getElem_cons_zero, List.getElem_cons_succ, List.setIfInBounds_toArray, List.set_cons_zero, List.set_cons_succ]
                refine wpAnyH_take (i := 46) (v := ?vab46) rfl (by kernel_rfl) (by kernel_rfl) (by kernel_rfl) (fun _ _ _ h => h) (Or.inl ⟨by rfl, ?hyb46⟩) (by assumption) ?rab46
                case hyb46 => (intro wq hSw; (try dsimp only at hSw); obtain ⟨g1, g2⟩ := hSw; go_simp <;> with_reducible rfl)
                try simp only [Act.put, List.getElem_toArray, List.getElem_cons_zero, List.getElem_cons_succ, List.setIfInBounds_toArray, List.set_cons_zero, List.set_cons_succ]
                refine wpAnyH_done (by kernel_rfl) ?_ _
                go_wp2
                go_roundw
                case rel => exact ⟨kk + 1, by omega, by go_num, HD.out, ID.out⟩
                case measure => simp [intOf]; omega
            · obtain rfl : kk = ln := by omega
              have TS2 := TS.out
              have s3 : IntKind.i64.wrap ((v : Int) + 1 + 1) = (v : Int) + 1 + 1 := wrapI (by omega) (by omega)
              have s4 : wrap64 ((v : Int) + 1 + 1) = (v : Int) + 1 + 1 := by unfold wrap64; omega
              clear TS2
              go_wp2
              go_roundw
              case rel => exact ⟨v + 1, by omega, by go_num, by rw [TS.out]; go_num, H.out⟩
              case measure => simp [intOf]; omega
        · obtain rfl : v = 4 := by omega
          have CN := hide fun (W : World) (h : Np w W b P c') => Counts_any W b P c' h.p
          have LE := hide fun (W : World) (h : Np w W b P c') => Len_pl W b P c' h.p
          rw [HTF.out]
          rw [HPN.out] at LE
          have e1 : ((pn : Int) != (pn : Int)) = false := by simp
          go_wp2_with fail
          refine (LE.out _ H.out).mono ?_
          rintro _ wq ⟨rfl, hwq⟩
          obtain rfl := hwq.symm
          go_wp2_with fail
          refine (CN.out _ H.out).mono ?_
          rintro _ w4 ⟨a4, d4, rfl, hI⟩
          have H4 := hide (H.out.keep hI.b)
          clear hI CN LE H
          rw [L1.out]
          by_cases hjl : j < m
          · have hjl' : j < T.length := by rw [HM.out]; exact hjl
            have hji : (j : Int) < (m : Int) := by omega
            obtain ⟨b1, o1, rfl, t0, t1, t2⟩ := (HT.out.keep H4.out.b).at hjl'
            have AC := hide (acted_any w4 b P c' H4.out.p (T.getD j Ov.zero) (by omega))
            have sm := P.step_mark (T.getD j Ov.zero)
            obtain ⟨ov, hov⟩ : ∃ ov, T.getD j Ov.zero = ov := ⟨_, rfl⟩
            rw [hov] at t0 t1 t2 AC sm
            obtain ⟨o0, o2, o3⟩ := ov
            simp only at t0 t1 t2 AC
            generalize P.step (o0, o2, o3) = P2 at *
            clear hov
            go_wp2_with fail
            refine AC.out.mono ?_
            rintro _ w5 ⟨rfl, c5, h5, f5⟩
            have H5 := hide (H4.out.step h5 f5)
            clear h5 f5 AC t0 t1 t2
            go_wp2
            go_roundw
            case rel => exact ⟨j + 1, c5, P2, by omega, by go_num, H5.out, by omega⟩
            case measure => simp [intOf]; omega
          · have dj : decide ((j : Int) < (m : Int)) = false := decide_eq_false (by omega)
            go_wp2
            go_roundw
            case rel => exact ⟨j + 1, c', P, by omega, by go_num, H4.out, by omega⟩
            case measure => simp [intOf]; omega
    · obtain rfl : j = m + 1 := by omega
      have d1 : decide (((m + 1 : Nat) : Int) ≤ (m : Int)) = false := decide_eq_false (by omega)
      have d2 : decide ((m : Int) + 1 ≤ (m : Int)) = false := decide_eq_false (by omega)
      go_wp2
      go_ret
      exact ⟨rfl, H.out.b⟩
end Go.Proofs.Ytdfhalhllmnnbaa
