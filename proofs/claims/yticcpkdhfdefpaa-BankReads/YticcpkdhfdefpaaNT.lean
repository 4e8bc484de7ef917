import Derived.Test.YticcpkdhfdefpaaNS
import Derived.Test.YticcpkdhfdefpaaNOD
namespace Go.Proofs.Yticcpkdhfdefpaa
open Go.RowKit

theorem Rw.same {w w' : World} {a : Option Addr} {cap : Nat} {l : List Nat} (h : Rw w a cap l) (hb : ∀ x, a = some x → w'.heap[x.block]? = w.heap[x.block]?) : Rw w' a cap l := by
  rcases h.cases with ⟨rfl, rfl, rfl⟩ | ⟨g, cur, rfl, hg, h1, h2, h3, h4⟩
  · exact Rw.nil w'
  · exact Rw.mk ((hb _ rfl).trans hg) h1 h2 h3 h4
/-! ### the document's blocks -/
set_option maxRecDepth 8000 in
set_option maxHeartbeats 3200000 in
theorem mSummed_any (w : World) (a : Option Addr) (n c : Nat) (l : List Nat) (hB : Bs w a l) (hn : n = l.length) (hl : l.length ≤ 508) :
    Calls Try.prog 43 #[.slice a n c] w fun e w' => ∃ a' c', e = .returned (.slice a' (l.length + 4) c') ∧ Own w w' a' c' (l ++ numB (M.of l) 4) := by
  subst hn
  have CB := hide (CopyBytes_any w a l.length c l hB rfl (by omega))
  have OF := hide fun (w1 : World) (hb : Below w.heap.size w w1) => rOf_any a l.length c l w1 (hB.keep hb) rfl
  have hof : M.of l < 4294967296 := M.of_lt hB.1
  have H8 := hide (hB.1 : B8 l)
  clear hB
  generalize M.of l = s at *
  have NU := hide fun w1 => Number_any w1 s 4 (by omega) (by decide)
  have HLN := numB_length s 4
  have HNL := hide (numB_lt s 4)
  generalize numB s 4 = nb at *
  go_enter Try.func43, Try.ntmps43
  go_wp2_with fail
  refine CB.out.mono ?_
  rintro e w1 ⟨a1, c1, rfl, r1, n1, b1⟩
  have O1 := hide (Od.first (v := w) (w := w1) ⟨r1, n1, b1⟩)
  clear r1 n1 b1 CB
  go_wp2_with fail
  refine (OF.out _ O1.out.b).mono ?_
  rintro e w2 ⟨rfl, hww⟩
  obtain rfl := hww.symm
  clear hww
  have hsi : IntKind.u64.wrap (s : Int) = (s : Int) := by rw [IntKind.wrap_u64]; omega
  go_wp2_with fail
  refine (NU.out w1).mono ?_
  rintro e w3 ⟨a3, c3, rfl, r3, n3, b3⟩
  have O3 := hide (O1.out.more b3 (fun k => ∃ x, a3 = some x ∧ x.block = k) (fun k hk => by obtain ⟨x, hx, rfl⟩ := hk; exact .inr (new_at n3 hx)))
  have HG3 : Hid (Gl (fun k => ∃ x, a3 = some x ∧ x.block = k) w3) := by
    rintro k ⟨x, hx, rfl⟩
    exact r3.lt hx
  have R3 := hide r3
  clear r3 n3 b3 O1 NU
  go_wp2
  go_loopw [3, 5] (fun o q wx => ∃ (j : Nat) (aj : Option Addr) (cj : Nat), j ≤ 4 ∧ q = .int .i64 j ∧ o = .slice aj (l.length + j) cj ∧ Od w (fun k => ∃ x, a3 = some x ∧ x.block = k) w3 wx aj cj (l ++ nb.take j)) (fun _ q _ => 4 - (intOf q).toNat)
  case atStart => exact ⟨0, a1, c1, by omega, rfl, rfl, by simpa using O3.out⟩
  case round =>
    obtain ⟨j, aj, cj, hj, rfl, rfl, hO⟩ := hrel
    have O := hide hO
    clear hO
    have hz : (l ++ nb.take j).length = l.length + j := by rw [List.length_append, List.length_take]; omega
    by_cases hlt : j < 4
    · have hlti : (j : Int) < 4 := by omega
      have SN : Hid (l ++ nb.take j ++ [nb.getD j 0] = l ++ nb.take (j + 1)) := by
        show _ = _
        rw [List.append_assoc, take_snoc _ (by omega)]
      have RW := hide (R3.out.same (w' := wr) fun x hx => O.out.g _ (R3.out.lt hx) ⟨x, hx, rfl⟩)
      obtain ⟨g3, ha3, _, _⟩ := RW.out.addr2 (by omega)
      subst ha3
      have cA := RW.out.cell (i := j) (by omega)
      generalize nb.getD j 0 = xx at *
      generalize l ++ nb.take j = L at *
      generalize hm : l.length + j = m at *
      go_wp2_with (at_builtin; refine wpList_ap1 rfl _ _ rfl aj m cj L rfl hz.symm (O.out.r.keep (al _ _)) ⟨wr.heap.size, 0, none⟩ 1 xx rfl ?c1 (by omega) ?_)
      try case c1 => simp
      intro g c2 w2 hR hN hg hlt2
      have O2 := hide ((O.out.keep (al wr _)).grow HG3.out hR hN hg)
      rw [SN.out] at O2
      clear hR hN hg
      go_wp2
      go_roundw
      case rel => exact ⟨j + 1, _, c2, by omega, by go_num, by rw [← hm, Nat.add_assoc], O2.out⟩
      case measure => simp [intOf]; omega
    · obtain rfl : j = 4 := by omega
      rw [List.take_of_length_le (by omega)] at O
      go_wp2
      go_ret
      exact ⟨aj, cj, rfl, O.out.own⟩
/-- the document's writer of a block -/
def Wq (v w : World) (b : Nat) (l : List Nat) : Prop := Below v.heap.size v w ∧ ∃ a cap, Wt 84 w b a cap ⟨512, l, 0⟩ ∧ ∀ k, Ft b a k → v.heap.size ≤ k
theorem Wq.keep {v w w' : World} {b : Nat} {l : List Nat} (h : Wq v w b l) (hb : Below w.heap.size w w') : Wq v w' b l := by
  obtain ⟨h1, a, cap, h2, h3⟩ := h
  exact ⟨bt h1 hb, a, cap, h2.keep hb, h3⟩
theorem Wq.did {v w w' : World} {b : Nat} {l' : List Nat} {a : Option Addr} (h1 : Below v.heap.size v w) (h3 : ∀ k, Ft b a k → v.heap.size ≤ k) (hd : Did 84 w w' b a ⟨512, l', 0⟩) : Wq v w' b l' := by
  obtain ⟨a', cap', k1, k2, k3⟩ := hd
  refine ⟨((But.ofBelow (S := fun _ => False) h1).trans k3 fun x hx hf => by have := h3 x hf; omega).below fun _ _ h => h, a', cap', k1, ?_⟩
  rintro k (rfl | ⟨x, hx, rfl⟩)
  · exact h3 k (.inl rfl)
  · rcases k2 x hx with ⟨y, hy, e⟩ | h4
    · rw [← e]; exact h3 _ (.inr ⟨y, hy, rfl⟩)
    · have := h1.size; omega
theorem qNew (v : World) : Calls Try.prog 56 #[.int .i64 512] v fun y w' => y = .returned (.pointer (some ⟨v.heap.size, 0, none⟩)) ∧ Wq v w' v.heap.size [] := by
  refine (rNewWriter_any v 512).mono ?_
  rintro y w' ⟨rfl, h1, h2⟩
  refine ⟨rfl, h2, none, 0, h1, ?_⟩
  rintro k (rfl | ⟨x, hx, _⟩)
  · exact Nat.le_refl _
  · cases hx
theorem qPut {v w : World} {b : Nat} {l : List Nat} (h : Wq v w b l) (x k : Nat) (hx : x < 18446744073709551616) (hk : k ≤ 8) (hl : l.length + k ≤ 512) : Calls Try.prog 57 #[.pointer (some ⟨b, 0, none⟩), .int .u64 (x : Int), .int .i64 (k : Int)] w fun y w' => y = .returned (.tuple #[]) ∧ Wq v w' b (l ++ numB x k) := by
  obtain ⟨h1, a, cap, h2, h3⟩ := h
  refine (rPut_any w b a cap ⟨512, l, 0⟩ x k hx hk h2).mono ?_
  rintro y w' ⟨rfl, hd⟩
  rw [put_512 (by rw [numB_length]; exact hl)] at hd
  exact ⟨rfl, Wq.did h1 h3 hd⟩
theorem qFill {v w : World} {b : Nat} {l : List Nat} (h : Wq v w b l) (hl : l.length ≤ 508) : Calls Try.prog 58 #[.pointer (some ⟨b, 0, none⟩), .int .i64 508] w fun y w' => y = .returned (.tuple #[]) ∧ Wq v w' b (padded l) := by
  obtain ⟨h1, a, cap, h2, h3⟩ := h
  refine (rFill_any w b a cap ⟨512, l, 0⟩ 508 h2).mono ?_
  rintro y w' ⟨rfl, hd⟩
  have e : (⟨512, l, 0⟩ : WS).fill 508 = ⟨512, padded l, 0⟩ := by
    unfold WS.fill
    rw [if_neg (by simp), if_neg (by simp only []; omega), if_neg (by simp)]
    rfl
  rw [e] at hd
  exact ⟨rfl, Wq.did h1 h3 hd⟩
set_option maxRecDepth 8000 in
set_option maxHeartbeats 3200000 in
theorem mOne_any (w : World) (gen i : Nat) (a : Option Addr) (c : Nat) (C : List Int) (hI : Ir w a C) (hg : gen ≤ 1099511627776) (hi : i < nbl C.length) (hl : C.length ≤ 65536) (hc : ∀ x ∈ C, 0 ≤ x ∧ x < 65536) :
    Calls Try.prog 31 #[.int .i64 (gen : Int), .int .i64 (i : Int), .slice a C.length c] w fun e w' => ∃ a' c', e = .returned (.slice a' 512 c') ∧ Own w w' a' c' (bbk gen i C.length (chunk (nats C) i)) := by
  have HI := hide hI
  have HC := hide hc
  have hcl : (chunk (nats C) i).length = cin C.length i := by rw [chunk_length, nats_length]
  have hcc : cin C.length i = min (C.length - 240 * i) 240 := rfl
  have hi' : i ≤ 274 := by unfold nbl at hi; omega
  have hic : i * 240 < C.length := by unfold nbl at hi; omega
  have c1 : IntKind.u64.wrap (gen : Int) = (gen : Int) := by rw [IntKind.wrap_u64]; omega
  have c2 : IntKind.u64.wrap (i : Int) = (i : Int) := by rw [IntKind.wrap_u64]; omega
  have c3 : IntKind.u64.wrap (C.length : Int) = (C.length : Int) := by rw [IntKind.wrap_u64]; omega
  have HCC := hide hcc
  have HCL := hide hcl
  clear hI hc hcc hcl
  generalize hCH : chunk (nats C) i = CH at *
  have HGT := hide fun j (hj : j < CH.length) => (show CH.getD j 0 = (nats C).getD (i * 240 + j) 0 by rw [← hCH] at hj ⊢; exact chunk_get _ _ hj)
  go_enter Try.func31, Try.ntmps31
  go_wp2_with fail
  refine (qNew w).mono ?_
  rintro y w1 ⟨rfl, hk⟩
  have K := hide hk
  clear hk
  go_wp2_with fail
  refine (qPut K.out 66 1 (by decide) (by decide) (by simp)).mono ?_
  rintro y w2 ⟨rfl, hk⟩
  have K := hide hk
  clear hk
  go_wp2_with fail
  refine (qPut K.out gen 8 (by omega) (by decide) (by simp [numB_length])).mono ?_
  rintro y w3 ⟨rfl, hk⟩
  have K := hide hk
  clear hk
  go_wp2_with fail
  refine (qPut K.out i 4 (by omega) (by decide) (by simp [numB_length])).mono ?_
  rintro y w4 ⟨rfl, hk⟩
  have K := hide hk
  clear hk
  go_wp2_with fail
  refine (qPut K.out C.length 4 (by omega) (by decide) (by simp [numB_length])).mono ?_
  rintro y w5 ⟨rfl, hk⟩
  have K := hide hk
  clear hk
  have hd : [] ++ numB 66 1 ++ numB gen 8 ++ numB i 4 ++ numB C.length 4 = hdr gen i C.length := by unfold hdr; simp only [List.nil_append, List.append_assoc]
  rw [hd] at K
  clear hd
  have hhl := hdr_length gen i C.length
  go_wp2
  go_loopw [8] (fun q wx => ∃ j : Nat, j ≤ CH.length ∧ q = .int .i64 ((i * 240 + j : Nat) : Int) ∧ Wq w wx w.heap.size (hdr gen i C.length ++ cB (CH.take j))) (fun q _ => i * 240 + CH.length - (intOf q).toNat)
  case atStart => exact ⟨0, Nat.zero_le _, by push_cast; simp, by simpa [cB] using K.out⟩
  case round =>
    obtain ⟨j, hj, rfl, hK⟩ := hrel
    have K := hide hK
    clear hK
    by_cases hlt : j < CH.length
    · have hq : i * 240 + j < C.length := by have h1 := HCC.out; have h2 := HCL.out; omega
      have hqi : ((i * 240 + j : Nat) : Int) < (C.length : Int) := by omega
      have hq2 : ((i * 240 + j : Nat) : Int) < ((i : Int) + 1) * 240 := by have h1 := HCC.out; have h2 := HCL.out; omega
      obtain ⟨b1, o1, rfl, cA⟩ := (HI.out.keep K.out.1).at hq
      obtain ⟨m, hm, hm6⟩ : ∃ m : Nat, C.getD (i * 240 + j) 0 = (m : Int) ∧ m < 65536 := by
        have h1 := HC.out (C.getD (i * 240 + j) 0) (by simp [hq])
        exact ⟨(C.getD (i * 240 + j) 0).toNat, by omega, by omega⟩
      have CS : Hid (hdr gen i C.length ++ cB (CH.take (j + 1)) = hdr gen i C.length ++ cB (CH.take j) ++ numB m 2) := by
        show _ = _
        rw [← take_snoc _ hlt, HGT.out j hlt, nats_get _ hq, hm, Int.toNat_natCast, cB_append, cB_one, List.append_assoc]
      have hlen : Hid ((hdr gen i C.length ++ cB (CH.take j)).length + 2 ≤ 512) := by
        show _ ≤ _
        rw [List.length_append, cB_length, hhl, List.length_take]
        have h1 := HCC.out; have h2 := HCL.out; omega
      rw [hm] at cA
      have cm : IntKind.u64.wrap (m : Int) = (m : Int) := by rw [IntKind.wrap_u64]; omega
      generalize hqq : i * 240 + j = q at *
      have hnx : ((q : Nat) : Int) + 1 = ((i * 240 + (j + 1) : Nat) : Int) := by omega
      have HNX := hide hnx
      clear hnx
      go_wp2_with fail
      refine (qPut K.out m 2 (by omega) (by decide) hlen.out).mono ?_
      rintro y w6 ⟨rfl, hk⟩
      rw [← CS.out] at hk
      have K := hide hk
      clear hk
      go_wp2
      go_roundw
      case rel => exact ⟨j + 1, by omega, by first | rfl | (rw [← HNX.out]) | (refine congrArg (Value.int .i64) ?_; have := HNX.out; omega), K.out⟩
      case measure => simp [intOf]; omega
    · obtain rfl : j = CH.length := by omega
      rw [List.take_length] at K
      by_cases hA : i * 240 + CH.length < C.length
      · have hqi : ((i * 240 + CH.length : Nat) : Int) < (C.length : Int) := by omega
        have hq2 : ¬ ((i * 240 + CH.length : Nat) : Int) < ((i : Int) + 1) * 240 := by have h1 := HCC.out; have h2 := HCL.out; omega
        generalize i * 240 + CH.length = q at *
        go_wp2_with fail
        refine (qFill K.out (by rw [List.length_append, cB_length, hhl]; have h1 := HCC.out; have h2 := HCL.out; omega)).mono ?_
        rintro y w7 ⟨rfl, hk⟩
        obtain ⟨h1, aW, cW, h2, h3⟩ := hk
        have e1 := h2.c1
        have hpl : (padded (hdr gen i C.length ++ cB CH)).length = 508 := padded_length (by rw [List.length_append, cB_length, hhl]; have h1 := HCC.out; have h2 := HCL.out; omega)
        have MS := hide (mSummed_any w7 aW 508 cW (padded (hdr gen i C.length ++ cB CH)) (h2.2.1.bs (padded_b8 (B8.app.2 ⟨hdr_b8 _ _ _, cB_b8 _⟩)) (by rw [hpl]; decide)) hpl.symm (by omega))
        have H1 := hide h1
        dsimp only at e1
        rw [hpl] at e1 MS
        clear h1 h2 h3
        go_wp2_with fail
        refine MS.out.mono ?_
        rintro y w8 ⟨a8, c8, rfl, hO⟩
        have O8 := hide (Own.pre H1.out hO)
        clear hO
        go_wp2
        go_ret
        exact ⟨a8, c8, rfl, O8.out⟩
      · have hqi : ¬ ((i * 240 + CH.length : Nat) : Int) < (C.length : Int) := by omega
        generalize i * 240 + CH.length = q at *
        go_wp2_with fail
        refine (qFill K.out (by rw [List.length_append, cB_length, hhl]; have h1 := HCC.out; have h2 := HCL.out; omega)).mono ?_
        rintro y w7 ⟨rfl, hk⟩
        obtain ⟨h1, aW, cW, h2, h3⟩ := hk
        have e1 := h2.c1
        have hpl : (padded (hdr gen i C.length ++ cB CH)).length = 508 := padded_length (by rw [List.length_append, cB_length, hhl]; have h1 := HCC.out; have h2 := HCL.out; omega)
        have MS := hide (mSummed_any w7 aW 508 cW (padded (hdr gen i C.length ++ cB CH)) (h2.2.1.bs (padded_b8 (B8.app.2 ⟨hdr_b8 _ _ _, cB_b8 _⟩)) (by rw [hpl]; decide)) hpl.symm (by omega))
        have H1 := hide h1
        dsimp only at e1
        rw [hpl] at e1 MS
        clear h1 h2 h3
        go_wp2_with fail
        refine MS.out.mono ?_
        rintro y w8 ⟨a8, c8, rfl, hO⟩
        have O8 := hide (Own.pre H1.out hO)
        clear hO
        go_wp2
        go_ret
        exact ⟨a8, c8, rfl, O8.out⟩
set_option maxHeartbeats 400000 in
theorem mGen_any (w : World) (n : Int) : Calls Try.prog 30 #[.int .i64 n] w fun e w' => e = .returned (.bool (isGen n)) ∧ w' = w := by
  unfold isGen
  by_cases h1 : 0 ≤ n
  · have h1' : decide (0 ≤ n) = true := by simpa using h1
    go_enter Try.func30, Try.ntmps30
    go_wp2
    go_ret
    exact ⟨by simp [h1], rfl⟩
  · have h1' : decide (0 ≤ n) = false := by simpa using h1
    go_enter Try.func30, Try.ntmps30
    go_wp2
    go_ret
    exact ⟨by simp, rfl⟩
set_option maxHeartbeats 400000 in
theorem mPg_any (w : World) (n : Int) : Calls Try.prog 33 #[.int .i64 n] w fun e w' => e = .returned (.bool (isPg n)) ∧ w' = w := by
  unfold isPg
  by_cases h1 : 0 ≤ n
  · have h1' : decide (0 ≤ n) = true := by simpa using h1
    go_enter Try.func33, Try.ntmps33
    go_wp2
    go_ret
    exact ⟨by simp [h1], rfl⟩
  · have h1' : decide (0 ≤ n) = false := by simpa using h1
    go_enter Try.func33, Try.ntmps33
    go_wp2
    go_ret
    exact ⟨by simp, rfl⟩
set_option maxRecDepth 8000 in
set_option maxHeartbeats 3200000 in
theorem mEncode_any (w : World) (gen : Int) (a : Option Addr) (c : Nat) (C : List Int) (hI : Ir w a C) (hl : C.length ≤ 17592186044415) :
    Calls Try.prog 12 #[.int .i64 gen, .slice a C.length c] w (EnQ w gen C) := by
  have IG := hide fun w1 => mGen_any w1 gen
  cases hg : isGen gen with
  | false =>
    have h1 : enE gen C = 1 := by unfold enE; rw [if_pos hg]
    have HD := hide (fun w' hb => enQ_err (w := w) (w' := w') (gen := gen) (C := C) (by rw [h1]; decide) hb)
    rw [h1] at HD
    rw [hg] at IG
    clear h1 hg
    go_enter Try.func12, Try.ntmps12
    go_wp2_with (go_at_call 30; refine (IG.out _).mono ?_; rintro y w1 ⟨rfl, hww⟩; obtain rfl := hww.symm)
    go_ret2
    exact HD.out _ (Below.refl _ _)
  | true =>
    by_cases hm : 65536 < C.length
    · have h1 : enE gen C = 4 := by unfold enE; rw [if_neg (by rw [hg]; simp), if_pos hm]
      have HD := hide (fun w' hb => enQ_err (w := w) (w' := w') (gen := gen) (C := C) (by rw [h1]; decide) hb)
      rw [h1] at HD
      rw [hg] at IG
      have hmi : (65536 : Int) < (C.length : Int) := by omega
      clear h1 hg
      go_enter Try.func12, Try.ntmps12
      go_wp2_with (go_at_call 30; refine (IG.out _).mono ?_; rintro y w1 ⟨rfl, hww⟩; obtain rfl := hww.symm)
      go_ret2
      exact HD.out _ (Below.refl _ _)
    · have hmi : (C.length : Int) ≤ 65536 := by omega
      have hm6 : C.length ≤ 65536 := by omega
      have HI := hide hI
      have HGn := hide hg
      rw [hg] at IG
      have MB := hide fun w1 => mBlocks_any w1 (C.length : Int) (by omega)
      simp only [Int.toNat_natCast] at MB
      clear hg hI
      go_enter Try.func12, Try.ntmps12
      go_wp2_with (go_at_call 30; refine (IG.out _).mono ?_; rintro y w1 ⟨rfl, hww⟩; obtain rfl := hww.symm)
      go_loopw [6] (fun q wx => ∃ j : Nat, j ≤ C.length ∧ q = .int .i64 j ∧ (∀ k, k < j → badC (C.getD k 0) = false) ∧ Below w.heap.size w wx) (fun q _ => C.length - (intOf q).toNat)
      case atStart => exact ⟨0, Nat.zero_le _, rfl, fun k hk => by omega, Below.refl _ _⟩
      case round =>
        obtain ⟨j, hj, rfl, hN, hB⟩ := hrel
        have HN := hide hN
        have HB := hide hB
        clear hN hB
        by_cases hlt : j < C.length
        · have hlti : (j : Int) < (C.length : Int) := by omega
          obtain ⟨b1, o1, rfl, cA⟩ := (HI.out.keep HB.out).at hlt
          have hbad : badC (C.getD j 0) = true → enE gen C = 13 := fun hb => by unfold enE; rw [if_neg (by rw [HGn.out]; simp), if_neg hm, if_pos (any_bad hlt hb)]
          generalize hz : C.getD j 0 = z at *
          by_cases z0 : z < 0
          · have z0' : decide (z < 0) = true := by simpa using z0
            have h1 := hbad (by unfold badC; rw [z0']; rfl)
            have HD := hide (fun w' hb => enQ_err (w := w) (w' := w') (gen := gen) (C := C) (by rw [h1]; decide) hb)
            rw [h1] at HD
            clear hz hbad h1
            go_wp2
            go_ret2
            exact HD.out _ HB.out
          · have z0' : decide (z < 0) = false := by simpa using z0
            by_cases z1 : 65536 ≤ z
            · have z1' : decide (65536 ≤ z) = true := by simpa using z1
              have h1 := hbad (by unfold badC; rw [z1', Bool.or_true])
              have HD := hide (fun w' hb => enQ_err (w := w) (w' := w') (gen := gen) (C := C) (by rw [h1]; decide) hb)
              rw [h1] at HD
              clear hz hbad h1
              go_wp2
              go_ret2
              exact HD.out _ HB.out
            · have z1' : decide (65536 ≤ z) = false := by simpa using z1
              have HNN : Hid (∀ k, k < j + 1 → badC (C.getD k 0) = false) := by
                intro k hk
                by_cases e : k = j
                · rw [e, hz]; unfold badC; rw [z0', z1']; rfl
                · exact HN.out k (by omega)
              clear hz hbad
              go_wp2
              go_roundw
              case rel => exact ⟨j + 1, by omega, by go_num, HNN.out, HB.out⟩
              case measure => simp [intOf]; omega
        · obtain rfl : j = C.length := by omega
          have hall : ∀ x ∈ C, 0 ≤ x ∧ x < 65536 := by
            intro x hx
            obtain ⟨k, hk, rfl⟩ := List.getElem_of_mem hx
            have := HN.out k hk
            simp only [List.getD_eq_getElem?_getD, List.getElem?_eq_getElem hk, Option.getD_some] at this
            unfold badC at this
            simp at this
            omega
          have hE : enE gen C = 0 := enE_zero.2 ⟨HGn.out, hm6, hall⟩
          obtain ⟨g0, g1⟩ := isGen_iff.1 HGn.out
          obtain ⟨g, rfl⟩ : ∃ g : Nat, gen = (g : Int) := ⟨gen.toNat, by omega⟩
          have hBk := bank_eqL hE
          rw [Int.toNat_natCast] at hBk
          have HE := hide hE
          have HBk := hide hBk
          have ON := hide fun (w1 : World) (hb : Below w.heap.size w w1) (i : Nat) (hi : i < nbl C.length) => mOne_any w1 g i a c C (HI.out.keep hb) (by omega) hi hm6 hall
          have HTS := hide fun j (hj : j < nbl C.length) => bank_take g (nats C) (j := j) (by rw [nats_length]; exact hj)
          rw [nats_length] at HTS
          have hbl : (bank g (nats C)).length = nbl C.length := by rw [bank_length, nats_length]
          have hnb : nbl C.length ≤ 274 := by unfold nbl; omega
          have HCL := hide fun j => (show (chunk (nats C) j).length ≤ 240 by rw [chunk_length]; exact cin_le _ _)
          clear hE hBk hall g0 g1
          go_wp2
          go_loopw [7, 8] (fun o q wx => ∃ (j : Nat) (aj : Option Addr) (cj : Nat) (T : List Br), j ≤ nbl C.length ∧ q = .int .i64 j ∧ o = .slice aj j cj ∧ T.map Br.l = (bank g (nats C)).take j ∧ Lb w wx aj cj T) (fun _ q _ => nbl C.length - (intOf q).toNat)
          case atStart => exact ⟨0, none, 0, [], Nat.zero_le _, rfl, rfl, rfl, Lb.nil w HB.out⟩
          case round =>
            obtain ⟨j, aj, cj, T, hj, rfl, rfl, hT, hLb⟩ := hrel
            have L := hide hLb
            have HT := hide hT
            have htl : T.length = j := by have := congrArg List.length hT; rw [List.length_map, List.length_take] at this; omega
            clear hLb hT
            by_cases hlt : j < nbl C.length
            · have hlti : (j : Int) < (nbl C.length : Int) := by omega
              go_wp2_with (first | (go_at_call 9; refine (MB.out _).mono ?_; rintro y w1 ⟨rfl, hww⟩; obtain rfl := hww.symm) | (go_at_call 31; refine (ON.out _ L.out.x.b j hlt).mono ?_; rintro y w9 ⟨a9, c9, rfl, hO9⟩; have O9 := hide hO9; clear hO9) | (at_builtin; refine wpList_apRows rfl _ _ rfl aj j cj (T.map bv) ?r1 (by rw [List.length_map, htl]) (L.out.x.r.keep (bt O9.out.b (al _ _))) ⟨w9.heap.size, 0, none⟩ 1 (.slice a9 512 c9) ?r2 ?r3 rfl (by rw [List.length_map]; omega) ?_))
              try case r1 => rfl
              try case r2 => rfl
              try case r3 => simp
              intro g9 c2 wz hR hN hg
              have hbl9 : (bbk g j C.length (chunk (nats C) j)).length = 512 := bbk_length (HCL.out j)
              have L2 := hide (L.out.step (t := ⟨a9, c9, bbk g j C.length (chunk (nats C) j)⟩) O9.out (bbk_b8 _ _ _ _) (by unfold bv; dsimp only; rw [hbl9]; exact hR) hN hg)
              clear hR hN hg
              go_wp2
              go_roundw
              case rel => exact ⟨j + 1, _, c2, _, by omega, by go_num, rfl, by rw [List.map_append, HT.out, HTS.out j hlt]; rfl, L2.out⟩
              case measure => simp [intOf]; omega
            · obtain rfl : j = nbl C.length := by omega
              rw [List.take_of_length_le (by omega)] at HT
              go_wp2_with (go_at_call 9; refine (MB.out _).mono ?_; rintro y w1 ⟨rfl, hww⟩; obtain rfl := hww.symm)
              go_ret2
              refine ⟨aj, cj, T, ?_, by rw [HBk.out]; exact HT.out, L.out⟩
              rw [HE.out, htl]
              rfl
end Go.Proofs.Yticcpkdhfdefpaa
