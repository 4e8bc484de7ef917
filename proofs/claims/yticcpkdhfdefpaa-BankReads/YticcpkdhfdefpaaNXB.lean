import Derived.Test.YticcpkdhfdefpaaNX
namespace Go.Proofs.Yticcpkdhfdefpaa
open Go.RowKit

theorem bad_lt {x : Int} (h : badC x = false) : 0 ≤ x ∧ x < 65536 := by
  unfold badC at h
  simp at h
  omega
theorem all_ok {C : List Int} (h : ∀ k, k < C.length → badC (C.getD k 0) = false) : ∀ x ∈ C, 0 ≤ x ∧ x < 65536 := by
  intro x hx
  obtain ⟨k, hk, rfl⟩ := List.getElem_of_mem hx
  have := h k hk
  simp only [List.getD_eq_getElem?_getD, List.getElem?_eq_getElem hk, Option.getD_some] at this
  exact bad_lt this
theorem setB8 {l : List Nat} {k x : Nat} (h : B8 l) (hx : x < 256) : B8 (l.set k x) := fun y hy => by
  rcases List.mem_or_eq_of_mem_set hy with h1 | h1
  · exact h y h1
  · rw [h1]; exact hx
/-- a block of a bank and what is known of it -/
structure Kn (g n K : Nat) (C : List Int) (BK : List Nat) : Prop where
  len : BK.length = 512
  b8 : B8 BK
  ok : bkE g n K BK = 0
  c : bkC g n K BK = ints (chunk (nats C) K)
theorem kn {g : Nat} {C : List Int} (h : enE (g : Int) C = 0) {K : Nat} (hK : K < nbl C.length) : Kn g C.length K C (bbk g K C.length (chunk (nats C) K)) := by
  obtain ⟨h1, h2⟩ := bank_taken h hK
  rw [Int.toNat_natCast] at h1 h2
  exact ⟨bbk_length (by rw [chunk_length]; exact cin_le _ _), bbk_b8 _ _ _ _, h1, h2⟩
theorem Kn.other {g n K : Nat} {C : List Int} {BK : List Nat} (h : Kn g n K C BK) {g' p' i' : Int} (hne : g' ≠ g ∨ p' ≠ n ∨ i' ≠ K) : bkE g' p' i' BK ≠ 0 := fun e => by
  obtain ⟨h1, h2, h3⟩ := bk_same e h.ok
  omega
theorem first_chunk {C : List Int} {K : Nat} (hc : ∀ x ∈ C, 0 ≤ x ∧ x < 65536) (hK : K < nbl C.length) : K * 240 < C.length ∧ (ints (chunk (nats C) K)).getD 0 0 = C.getD (K * 240) 0 := by
  have h1 : K * 240 < C.length := by unfold nbl at hK; omega
  have h2 : 0 < (chunk (nats C) K).length := by rw [chunk_length, nats_length]; exact cin_pos hK
  refine ⟨h1, ?_⟩
  have h3 := chunk_get (nats C) K h2
  rw [Nat.add_zero, nats_get _ h1] at h3
  have h4 : (ints (chunk (nats C) K)).getD 0 0 = (((chunk (nats C) K).getD 0 0 : Nat) : Int) := by simp [ints, h2]
  rw [h4, h3]
  have := hc (C.getD (K * 240) 0) (by simp [h1])
  omega
set_option maxRecDepth 8000 in
set_option maxHeartbeats 12800000 in
theorem BankBack_any (w : World) (gen at' : Int) (x : Nat) (hx : x < 256) (a : Option Addr) (c : Nat) (C : List Int) (hI : Ir w a C) (hl : C.length ≤ 17592186043904) :
    Calls Try.prog 5 #[.int .i64 gen, .slice a C.length c, .int .i64 at', .int .u8 (x : Int)] w fun e w' => e = .returned (.bool true) ∧ Below w.heap.size w w' := by
  have WK := hide works_any
  by_cases g0 : gen < 0
  · have g0' : decide (gen < 0) = true := by simpa using g0
    go_enter Try.func5, Try.ntmps5
    go_wp2_with fail
    refine (WK.out _).mono ?_
    rintro y w9 ⟨rfl, hb9⟩
    have T9 := hide hb9
    clear hb9
    go_wp2
    go_ret
    exact ⟨rfl, T9.out⟩
  have g0' : decide (gen < 0) = false := by simpa using g0
  by_cases g1 : 1099511627776 < gen
  · have g1' : decide (1099511627776 < gen) = true := by simpa using g1
    go_enter Try.func5, Try.ntmps5
    go_wp2_with fail
    refine (WK.out _).mono ?_
    rintro y w9 ⟨rfl, hb9⟩
    have T9 := hide hb9
    clear hb9
    go_wp2
    go_ret
    exact ⟨rfl, T9.out⟩
  have g1' : decide (1099511627776 < gen) = false := by simpa using g1
  by_cases hm : 65536 < C.length
  · have hm' : decide (65536 < C.length) = true := by simpa using hm
    have hmi : (65536 : Int) < (C.length : Int) := by omega
    go_enter Try.func5, Try.ntmps5
    go_wp2_with fail
    refine (WK.out _).mono ?_
    rintro y w9 ⟨rfl, hb9⟩
    have T9 := hide hb9
    clear hb9
    go_wp2
    go_ret
    exact ⟨rfl, T9.out⟩
  have hmi : ¬ (65536 : Int) < (C.length : Int) := by omega
  have hm' : decide (65536 < C.length) = false := by simpa using hm
  have HI := hide hI
  have hm6 : C.length ≤ 65536 := by omega
  clear hI
  go_enter Try.func5, Try.ntmps5
  go_wp2
  go_loopw [9] (fun q wx => ∃ j : Nat, j ≤ C.length ∧ q = .int .i64 j ∧ (∀ k, k < j → badC (C.getD k 0) = false) ∧ Below w.heap.size w wx) (fun q _ => C.length - (intOf q).toNat)
  case atStart => exact ⟨0, Nat.zero_le _, rfl, fun k hk => by omega, Below.refl _ _⟩
  case round =>
    obtain ⟨j, hj, rfl, hN, hB⟩ := hrel
    have HN := hide hN
    have HB := hide hB
    clear hN hB
    by_cases hlt : j < C.length
    · have hlti : (j : Int) < (C.length : Int) := by omega
      obtain ⟨b1, o1, rfl, cA⟩ := (HI.out.keep HB.out).at hlt
      generalize hz : C.getD j 0 = z at *
      by_cases z0 : z < 0
      · have z0' : decide (z < 0) = true := by simpa using z0
        clear hz
        go_wp2_with fail
        refine (WK.out _).mono ?_
        rintro y w9 ⟨rfl, hb9⟩
        have T9 := hide (bt HB.out hb9)
        clear hb9
        go_wp2
        go_ret
        exact ⟨rfl, T9.out⟩
      · have z0' : decide (z < 0) = false := by simpa using z0
        by_cases z1 : 65536 ≤ z
        · have z1' : decide (65536 ≤ z) = true := by simpa using z1
          clear hz
          go_wp2_with fail
          refine (WK.out _).mono ?_
          rintro y w9 ⟨rfl, hb9⟩
          have T9 := hide (bt HB.out hb9)
          clear hb9
          go_wp2
          go_ret
          exact ⟨rfl, T9.out⟩
        · have z1' : decide (65536 ≤ z) = false := by simpa using z1
          have HNN : Hid (∀ k, k < j + 1 → badC (C.getD k 0) = false) := by
            intro k hk
            by_cases e : k = j
            · rw [e, hz]; unfold badC; rw [z0', z1']; rfl
            · exact HN.out k (by omega)
          clear hz
          go_wp2
          go_roundw
          case rel => exact ⟨j + 1, by omega, by go_num, HNN.out, HB.out⟩
          case measure => simp [intOf]; omega
    · obtain rfl : j = C.length := by omega
      have hall := all_ok HN.out
      have hE : enE gen C = 0 := enE_zero.2 ⟨isGen_iff.2 (by omega), hm6, hall⟩
      obtain ⟨g, rfl⟩ : ∃ g : Nat, gen = (g : Int) := ⟨gen.toNat, by omega⟩
      have hg40 : g ≤ 1099511627776 := by omega
      have hBk := bank_eqL hE
      rw [Int.toNat_natCast] at hBk
      have hTB := there_back hE
      rw [Int.toNat_natCast] at hTB
      have EN := hide (Encode_any wr (g : Int) a c C (HI.out.keep HB.out) (by omega))
      unfold EnQ at EN
      rw [hE, hBk] at EN
      have BL := hide fun w1 => Blocks_any w1 (C.length : Int) (by omega)
      simp only [Int.toNat_natCast] at BL
      have hNl : (bank g (nats C)).length = nbl C.length := by rw [bank_length, nats_length]
      have DE : Hid (∀ (w1 : World) (a1 : Option Addr) (c1 : Nat) (T : List Br), T.map Br.l = bank g (nats C) → Bl w1 a1 T → Calls Try.prog 17 #[.int .i64 (g : Int), .int .i64 (C.length : Int), .slice a1 (nbl C.length) c1] w1 fun y w' => ∃ a' c', y = .returned (.tuple #[.slice a' C.length c', .int .i64 0]) ∧ IOwn w1 w' a' c' C) := by
        intro w1 a1 c1 T hT hBl
        have := Decode_any w1 (g : Int) (C.length : Int) a1 (nbl C.length) c1 T hBl (by have h := congrArg List.length hT; rw [List.length_map, hNl] at h; exact h.symm) (by omega)
        unfold DeQ at this
        rw [hT, hTB.1, hTB.2] at this
        exact this
      have EQ := hide fun (w1 : World) (hb : Below w.heap.size w w1) (a1 : Option Addr) (c1 : Nat) (h1 : Ir w1 a1 C) => EqInts_same w1 a1 a C.length C.length c1 c C h1 (HI.out.keep hb) rfl rfl (by omega)
      have hNp : Hid (nbl C.length = 0 ↔ C.length = 0) := by
        show _ ↔ _
        unfold nbl; omega
      have hN274 : nbl C.length ≤ 274 := by unfold nbl; omega
      have KN := hide fun K hK => kn (K := K) hE hK
      have FC := hide fun K hK => first_chunk (K := K) hall hK
      have HBG := hide fun K (hK : K < nbl C.length) => (show (bank g (nats C)).getD K [] = bbk g K C.length (chunk (nats C) K) by rw [bank_get _ _ (by rw [nats_length]; exact hK), nats_length])
      clear hE hBk hTB hall g0 g1 g0' g1' hm hm' hmi
      go_wp2_with fail
      refine EN.out.mono ?_
      rintro y w1 ⟨a1, c1, T, rfl, hT, hL⟩
      have hTl : T.length = nbl C.length := by have h := congrArg List.length hT; rw [List.length_map, hNl] at h; exact h
      rw [hTl]
      have HT := hide hT
      have HTl := hide hTl
      have L := hide hL
      have T1 := hide (bt HB.out hL.x.b)
      clear hT hTl hL EN
      have hNi : ((nbl C.length : Nat) : Int) ≤ 274 := by omega
      by_cases h0 : C.length = 0
      · have hz : nbl C.length = 0 := hNp.out.2 h0
        rw [hz, h0] at BL
        rw [hz, h0] at DE
        rw [hz]
        have h00 : ((C.length : Nat) : Int) = 0 := by omega
        rw [h0] at EQ
        go_wp2_with (first | (go_at_call 7; refine (WK.out _).mono ?_; rintro y w2 ⟨rfl, hb2⟩; have L2 := hide (L.out.keep hb2); have T2 := hide (bt T1.out hb2); clear hb2) | (go_at_call 8; refine (BL.out _).mono ?_; rintro y w3 ⟨rfl, hww⟩; obtain rfl := hww.symm))
        refine (DE.out _ _ _ T HT.out L2.out.bl).mono ?_
        rintro y w3 ⟨a3, c3, rfl, hO⟩
        have O3 := hide hO
        have T3 := hide (bt T2.out hO.b)
        clear hO
        go_wp2_with (go_at_call 19; refine (EQ.out _ T3.out _ _ O3.out.r.ir).mono ?_; rintro y w4 ⟨rfl, hb4⟩; have T4 := hide (bt T3.out hb4); clear hb4)
        go_ret
        exact ⟨rfl, T4.out⟩
      · have hN1 : 0 < nbl C.length := by have h := hNp.out; omega
        have hNz : (((nbl C.length : Nat) : Int) == 0) = false := by simp; omega
        have hc0 : (0 : Int) < (C.length : Int) := by omega
        have hc0' : decide (0 < C.length) = true := by simp; omega
        generalize hNN : nbl C.length = N at *
        go_wp2_with (first | (go_at_call 7; refine (WK.out _).mono ?_; rintro y w2 ⟨rfl, hb2⟩; have L2 := hide (L.out.keep hb2); have T2 := hide (bt T1.out hb2); clear hb2) | (go_at_call 8; refine (BL.out _).mono ?_; rintro y w3 ⟨rfl, hww⟩; obtain rfl := hww.symm))
        refine (DE.out _ _ _ T HT.out L2.out.bl).mono ?_
        rintro y w3 ⟨a3, c3, rfl, hO⟩
        have O3 := hide hO
        have T3 := hide (bt T2.out hO.b)
        have L3 := hide (L2.out.keep hO.b)
        clear hO DE
        go_wp2_with fail
        refine (EQ.out _ T3.out _ _ O3.out.r.ir).mono ?_
        rintro y w4 ⟨rfl, hb4⟩
        have T4 := hide (bt T3.out hb4)
        have L4 := hide (L3.out.keep hb4)
        clear hb4 EQ O3
        by_cases at0 : at' < 0
        · have at0' : decide (at' < 0) = true := by simpa using at0
          go_wp2
          go_ret
          exact ⟨rfl, T4.out⟩
        have at0' : decide (at' < 0) = false := by simpa using at0
        obtain ⟨A, rfl⟩ : ∃ A : Nat, at' = (A : Int) := ⟨at'.toNat, by omega⟩
        by_cases at1 : 512 * N ≤ A
        · have at1' : (512 : Int) * (N : Int) ≤ (A : Int) := by omega
          have at2' : decide (512 * N ≤ A) = true := by simpa using at1
          have at3' : decide ((512 : Int) * (N : Int) ≤ (A : Int)) = true := by simpa using at1'
          go_wp2
          go_ret
          exact ⟨rfl, T4.out⟩
        have at1' : ¬ (512 : Int) * (N : Int) ≤ (A : Int) := by omega
        have at3' : decide ((512 : Int) * (N : Int) ≤ (A : Int)) = false := by simpa using at1'
        obtain ⟨K, R, hA, hR, hK⟩ : ∃ K R : Nat, A = 512 * K + R ∧ R < 512 ∧ K < N := ⟨A / 512, A % 512, by omega, by omega, by omega⟩
        have hk1 : (A : Int).tdiv 512 = (K : Int) := by rw [Int.tdiv_eq_ediv_of_nonneg (by omega)]; omega
        have hk2 : (A : Int) / 512 = (K : Int) := by omega
        have hr1 : (A : Int).tmod 512 = (R : Int) := by rw [Int.tmod_eq_emod_of_nonneg (by omega)]; omega
        have hr2 : (A : Int) % 512 = (R : Int) := by omega
        have hKN : (K : Int) < (N : Int) := by omega
        have kn := KN.out K hK
        obtain ⟨fc1, fc2⟩ := FC.out K hK
        have hTK : K < T.length := by have := HTl.out; omega
        have htl : (T.getD K Br0).l = bbk g K C.length (chunk (nats C) K) := by rw [← map_getD, HT.out, HBG.out K hK]
        obtain ⟨g4, ha4, cA⟩ := L4.out.x.r.cell (i := K) (v := bv (T.getD K Br0)) (by simp [hTK])
        subst ha4
        have LK := hide fun (w5 : World) (hb : Below w4.heap.size w4 w5) => (hb.cell (p := ⟨g4, K, none⟩) (block_lt_of_cell cA)).trans cA
        have hbr := L4.out.bl.r _ (Br0_mem hTK)
        unfold bv at LK
        rw [htl, kn.len] at LK
        rw [htl] at hbr
        generalize hBK : bbk g K C.length (chunk (nats C) K) = BK at *
        generalize T.getD K Br0 = t at *
        have HBR := hide hbr.1
        have hcap := hbr.2
        rw [kn.len] at hcap
        have KNh := hide kn
        have BK0 : Hid (∀ (w5 : World), Below w4.heap.size w4 w5 → Calls Try.prog 20 #[.int .i64 (g : Int), .int .i64 (C.length : Int), .int .i64 (K : Int), .slice t.a 512 t.c] w5 fun y w' => ∃ a' c', y = .returned (.tuple #[.slice a' (ints (chunk (nats C) K)).length c', .int .i64 0]) ∧ IOwn w5 w' a' c' (ints (chunk (nats C) K))) := by
          intro w5 hb
          have := Block_any w5 g C.length K t.a 512 t.c BK (HBR.out.keep hb) KNh.out.len.symm (by rw [KNh.out.len]; exact hcap) (by omega)
          unfold BkQ at this
          rw [KNh.out.ok, KNh.out.c] at this
          exact this
        have BKN : Hid (∀ (w5 : World), Below w4.heap.size w4 w5 → ∀ g' p' i' : Int, p' ≤ 9223372036854775807 → (g' ≠ g ∨ p' ≠ C.length ∨ i' ≠ K) → Calls Try.prog 20 #[.int .i64 g', .int .i64 p', .int .i64 i', .slice t.a 512 t.c] w5 fun y w' => ∃ (a' : Option Addr) (m c' E : Nat), y = .returned (.tuple #[.slice a' m c', .int .i64 (E : Int)]) ∧ E ≠ 0 ∧ Below w5.heap.size w5 w') := by
          intro w5 hb g' p' i' hp hne
          refine (Block_any w5 g' p' i' t.a 512 t.c BK (HBR.out.keep hb) KNh.out.len.symm (by rw [KNh.out.len]; exact hcap) hp).mono ?_
          rintro y w' ⟨a', c', rfl, hO⟩
          exact ⟨a', _, c', _, rfl, KNh.out.other hne, hO.b⟩
        have BKS := hide fun (w5 : World) (a5 : Option Addr) (c5 : Nat) (h : Rw w5 a5 c5 (BK.set R x)) => Block_any w5 g C.length K a5 512 c5 (BK.set R x) (h.bs (setB8 KNh.out.b8 hx) h.len_le) (by rw [List.length_set]; exact KNh.out.len.symm) h.cap_le (by omega)
        have CPB := hide fun (w5 : World) (hb : Below w4.heap.size w4 w5) => CopyBytes_any w5 t.a 512 t.c BK (HBR.out.keep hb) KNh.out.len.symm (by rw [KNh.out.len]; decide)
        have SPO := hide (bk_spoil kn.b8 kn.ok (j := R) (x := x) hR hx)
        have hlc : 0 < (ints (chunk (nats C) K)).length := by rw [ints_length, chunk_length, nats_length]; exact cin_pos (by omega)
        have hBl := hide kn.len
        clear cA hbr kn KN FC HBG hBK htl hcap hTK hA at0 at1
        generalize ints (chunk (nats C) K) = CH at *
        have W4 := hide (Below.refl w4.heap.size w4)
        have LKc := LK.out _ W4.out
        go_wp2_with fail
        refine (BK0.out _ W4.out).mono ?_
        rintro y w5 ⟨a5, c5, rfl, hO⟩
        have O5 := hide hO
        have W5 := hide hO.b
        clear hO BK0
        obtain ⟨b5, o5, rfl, cO⟩ := O5.out.r.ir.at (j := 0) hlc
        obtain ⟨bc, oc, rfl, cC⟩ := (HI.out.keep (bt T4.out W5.out)).at fc1
        rw [fc2, Nat.add_zero] at cO
        have hqn : (K : Int) * 240 = ((K * 240 : Nat) : Int) := by push_cast; rfl
        have hqi : (K : Int) * 240 < (C.length : Int) := by omega
        have hl0 : ((CH.length : Int) == 0) = false := beq_eq_false_iff_ne.2 (by omega)
        have hl1 : (0 : Int) < (CH.length : Int) := by omega
        generalize C.getD (K * 240) 0 = z at *
        generalize K * 240 = Q at *
        have q0 : (z == z) = true := by simp
        go_wp2
        go_quiet (fail)
        go_wp2
        have T5 := hide (bt T4.out W5.out)
        clear cO cC hqn hqi hl0 hl1 fc1 fc2 q0 O5 LKc
        go_loopw [15] (fun o wx => ∃ q : Int, (q = -1 ∨ q = 1 ∨ q = 3) ∧ o = .int .i64 q ∧ Below w4.heap.size w4 wx) (fun o _ => (4 - intOf o).toNat)
        case atStart => exact ⟨-1, .inl rfl, rfl, bt W5.out (drN _ _)⟩
        case round =>
          obtain ⟨q, hq, rfl, hW⟩ := hrel
          have WX := hide hW
          clear hW
          have LKc := LK.out _ WX.out
          by_cases hq3 : q = 3
          · subst hq3
            go_wp2_with fail
            refine (CPB.out _ WX.out).mono ?_
            rintro y w6 ⟨a6, c6, rfl, r6, n6, b6⟩
            have W6 := hide (bt WX.out b6)
            obtain ⟨g6, ha6, _, _⟩ := r6.addr2 (by rw [hBl.out]; decide)
            subst ha6
            have HN6 := hide (new_at n6 rfl)
            have e0 := r6.cell (i := R) (by rw [hBl.out]; exact hR)
            have hf6 : w6.frozen? ⟨g6, R, none⟩ = false := by
              rcases r6.cases with ⟨h1, _⟩ | ⟨g', cur, h1, hg', _⟩
              · cases h1
              · simp only [Option.some.injEq, Addr.mk.injEq] at h1
                obtain ⟨rfl, _⟩ := h1
                exact frozen_of_row _ _ _ _ _ hg'
            have R7 := hide (r6.set R x)
            have W7 : Hid (Below w4.heap.size w4 (w6.setCell ⟨g6, R, none⟩ (.int .u8 (x : Int)))) := ((But.ofBelow (S := fun _ => False) W6.out).setCell (p := ⟨g6, R, none⟩) (fun hp => by have h1 := HN6.out; have h2 := WX.out.size; simp only at hp h1; omega) (.int .u8 (x : Int))).below fun _ _ h => h
            have hRi : (R : Int) < 512 := by omega
            clear r6 n6 b6
            go_wp2_with fail
            refine (BKS.out _ _ _ R7.out).mono ?_
            rintro y w8 ⟨a8, c8, rfl, hO8⟩
            have W8 := hide (bt W7.out hO8.b)
            have TE := hide (bt T4.out W8.out)
            have LKe := LK.out _ W8.out
            obtain ⟨bt1, ot1, hta, cB⟩ := (HBR.out.keep W8.out).at (j := R) (by rw [hBl.out]; exact hR)
            rw [hta] at LKe
            obtain ⟨Bv, h1, h2⟩ : ∃ Bv : Bool, (((bkE g C.length K (BK.set R x) : Nat) : Int) == 0) = Bv ∧ ((x : Int) == ((BK.getD R 0 : Nat) : Int)) = Bv := by
              refine ⟨_, rfl, ?_⟩
              rw [Bool.eq_iff_iff, beq_iff_eq, beq_iff_eq]
              have h := SPO.out
              constructor
              · intro e; have := h.2 (by omega); omega
              · intro e; have := h.1 (by omega); omega
            clear hO8 e0 hf6 SPO BKS R7
            generalize bkE g C.length K (BK.set R x) = E8 at *
            generalize BK.getD R 0 = xx at *
            have h3 : (Bv == Bv) = true := by simp
            go_wp2
            go_ret
            exact ⟨rfl, TE.out⟩
          · have hq1 : q ≤ 1 := by omega
            have hq0 : q ≠ 0 := by omega
            have hqm : -1 ≤ q := by omega
            go_wp2_with fail
            refine (BKN.out _ WX.out _ _ _ (by omega) (.inl (by omega))).mono ?_
            rintro y w6 ⟨a6, m6, c6, E6, rfl, hE6, hb6⟩
            have W6 := hide (WX.out.trans (hb6.mono WX.out.size))
            have LKd := LK.out _ W6.out
            have E6' : (((E6 : Nat) : Int) == 0) = false := beq_eq_false_iff_ne.2 (by omega)
            clear hb6
            go_wp2_with fail
            refine (BKN.out _ W6.out _ _ _ (by omega) (.inr (.inr (by omega)))).mono ?_
            rintro y w7 ⟨a7, m7, c7, E7, rfl, hE7, hb7⟩
            have W7 := hide (W6.out.trans (hb7.mono W6.out.size))
            have LKe := LK.out _ W7.out
            have E7' : (((E7 : Nat) : Int) == 0) = false := beq_eq_false_iff_ne.2 (by omega)
            clear hb7
            go_wp2_with fail
            refine (BKN.out _ W7.out _ _ _ (by omega) (.inr (.inl (by omega)))).mono ?_
            rintro y w8 ⟨a8, m8, c8, E8, rfl, hE8, hb8⟩
            have W8 := hide (W7.out.trans (hb8.mono W7.out.size))
            have E8' : (((E8 : Nat) : Int) == 0) = false := beq_eq_false_iff_ne.2 (by omega)
            clear hb8
            go_wp2
            go_roundw
            case rel => exact ⟨q + 2, by omega, by go_num, W8.out⟩
            case measure => simp [intOf]; omega
theorem bankBack_any (W : World) (n0 : Int) (_ : N64 n0) (a1 : Option Addr) (c1 : Nat) (X1 : List Int) (hX : Ir W a1 X1) (_ : ∀ x ∈ X1, N64 x) (hl : X1.length ≤ 17592186043904) (n2 : Int) (_ : N64 n2) (x3 : Nat) (hx : x3 < 256) :
    Calls Try.prog 5 #[.int .i64 n0, .slice a1 X1.length c1, .int .i64 n2, .int .u8 (x3 : Int)] W fun e w' => e = .returned (.bool true) ∧ Below W.heap.size W w' :=
  BankBack_any W n0 n2 x3 hx a1 c1 X1 hX hl
end Go.Proofs.Yticcpkdhfdefpaa
