import Derived.Test.YtlkjpljfbmploaaBC
namespace Go.Proofs.Ytlkjpljfbmploaa
open Go.RowKit

theorem allS_fits (F : Nat → Fd) (most m : Nat) (hsh : ∀ r, r < m → isSh (F r).kind = true → (F r).l.length ≤ 255) (k : Nat) (hk : k ≤ m) (h : tot F k ≤ most) : allS ⟨most, [], 0⟩ F k = ⟨most, cat F k, 0⟩ := by
  induction k with
  | zero => rfl
  | succ k ih =>
    have hs := tot_succ F k
    rw [show allS ⟨most, [], 0⟩ F (k + 1) = (allS ⟨most, [], 0⟩ F k).fld (F k) from rfl, ih (by omega) (by omega), show cat F (k + 1) = cat F k ++ (F k).bytes from rfl]
    have hb := (F k).bytes_length
    have hfit : (cat F k).length + (F k).bytes.length ≤ most := by have : tot F k = (cat F k).length := rfl; omega
    have hput : ∀ p, p = (F k).bytes → (⟨most, cat F k, 0⟩ : WS).put p = ⟨most, cat F k ++ (F k).bytes, 0⟩ := fun p hp => by subst hp; exact WS.put_fits rfl hfit
    have hsk := hsh k (by omega)
    unfold WS.fld
    unfold Fd.bytes at hput ⊢
    rcases kinds (F k).kind with h | h | h | h | h | ⟨h1, h2, h4, h8, h0⟩
    · simp only [h] at hput ⊢; exact hput _ rfl
    · simp only [h] at hput ⊢; exact hput _ rfl
    · simp only [h] at hput ⊢; exact hput _ rfl
    · simp only [h] at hput ⊢; exact hput _ rfl
    · simp only [h] at hput ⊢; exact hput _ rfl
    · simp only [h1, h2, h4, h8, h0, if_false] at hput ⊢
      unfold WS.short
      rw [if_neg (by simp), if_neg (by have := hsk (by unfold isSh; exact decide_eq_true ⟨h1, h2, h4, h8, h0⟩); omega)]
      exact hput _ rfl

theorem cat_lt (w : World) (F : Nat → Fd) (m : Nat) (hok : ∀ r, r < m → (F r).ok w) (hsh : ∀ r, r < m → isSh (F r).kind = true → (F r).l.length ≤ 255) (k : Nat) (hk : k ≤ m) : ∀ x ∈ cat F k, x < 256 := by
  induction k with
  | zero => intro x hx; cases hx
  | succ k ih =>
    intro x hx
    rcases List.mem_append.1 hx with hx | hx
    · exact ih (by omega) x hx
    · have hl := (hok k (by omega)).2.2.1.1
      have hs := hsh k (by omega)
      unfold Fd.bytes at hx
      rcases kinds (F k).kind with h | h | h | h | h | ⟨h1, h2, h4, h8, h0⟩
      · simp only [h, if_true] at hx; exact numB_lt _ _ x hx
      · rw [if_neg (by omega), if_pos h] at hx; exact numB_lt _ _ x hx
      · rw [if_neg (by omega), if_neg (by omega), if_pos h] at hx; exact numB_lt _ _ x hx
      · rw [if_neg (by omega), if_neg (by omega), if_neg (by omega), if_pos h] at hx; exact numB_lt _ _ x hx
      · rw [if_neg (by omega), if_neg (by omega), if_neg (by omega), if_neg (by omega), if_pos h] at hx; exact hl x hx
      · rw [if_neg h1, if_neg h2, if_neg h4, if_neg h8, if_neg h0] at hx
        rcases List.mem_cons.1 hx with rfl | hx
        · have := hs (by unfold isSh; exact decide_eq_true ⟨h1, h2, h4, h8, h0⟩); omega
        · exact hl x hx

set_option maxRecDepth 100000 in
set_option maxHeartbeats 8000000 in
theorem wireBack_any (w : World) (af : Option Addr) (m capf : Nat) (F : Nat → Fd) (pad n : Int) (hF : FdsO w af m F) (hm : m ≤ 9223372036854775807) (hT : tot F m ≤ 4398046511104) :
    Calls Try.prog 5 #[.slice af m capf, .int .i64 pad, .int .i64 n] w fun x w' => x = .returned (.bool true) ∧ Below w.heap.size w w' := by
  have HF := hide hF
  clear hF
  go_enter Try.func5, Try.ntmps5
  go_wp2
  go_loopw [7, 8] (fun t i wx => ∃ j : Nat, j ≤ m ∧ i = .int .i64 j ∧ t = .int .i64 (tot F j : Int) ∧ (Below w.heap.size w wx ∧ ∀ r, r < j → isSh (F r).kind = true → (F r).l.length ≤ 255)) (fun _ i _ => m - (intOf i).toNat)
  case atStart => exact ⟨0, Nat.zero_le _, rfl, rfl, Below.refl _ _, fun r hr => by omega⟩
  case round =>
    obtain ⟨j, hj, rfl, rfl, hG⟩ := hrel
    have HG := hide hG
    clear hG
    by_cases hlt : j < m
    · have hi : (j : Int) < (m : Int) := by omega
      rcases HF.out with h0 | ⟨bf, off, rfl, hFF⟩
      · omega
      obtain ⟨hat, hok⟩ := hFF j hlt
      have hatx := hat.keep HG.out.1
      have hokx := hok.keep HG.out.1
      have hsz := tot_succ F j
      have htl := tot_le F (j + 1) m hlt
      obtain ⟨e0, e1, e2, e3⟩ := id hatx
      have hadd : IntKind.i64.wrap ((tot F j : Int) + ((F j).size : Int)) = (tot F (j + 1) : Int) := by rw [wrapI (by omega) (by omega)]; omega
      have IS := hide (isShort_any wr (F j))
      have SZ : ∀ wx, Hid (Calls Try.prog 20 #[.agg (F j).cells] wx fun x w' => x = .returned (.int .i64 ((F j).size : Int)) ∧ Below wx.heap.size wx w') := fun wx => hide (size_any wx (F j) (by have := hok.2.2.2; omega))
      unfold Fd.cells at SZ IS
      by_cases hs : isSh (F j).kind = true
      · rw [hs] at IS
        by_cases h255 : 255 < (F j).l.length
        · have hg : (255 : Int) < ((F j).l.length : Int) := by omega
          go_wp2_with fail
          refine IS.out.mono ?_
          rintro e w2 ⟨rfl, hb2⟩
          obtain ⟨g0, g1, g2, g3⟩ := hatx.keep hb2
          have HB2 := hide hb2
          clear e0 e1 e2 e3 hb2 IS SZ
          go_wp2
          go_ret
          exact ⟨rfl, bt HG.out.1 HB2.out⟩
        · have hg : ¬ (255 : Int) < ((F j).l.length : Int) := by omega
          go_wp2_with fail
          refine IS.out.mono ?_
          rintro e w2 ⟨rfl, hb2⟩
          obtain ⟨g0, g1, g2, g3⟩ := hatx.keep hb2
          have S2 := SZ w2
          have HB2 := hide hb2
          clear e0 e1 e2 e3 hb2 IS SZ
          go_wp2_with fail
          refine S2.out.mono ?_
          rintro e w3 ⟨rfl, hb3⟩
          go_wp2
          go_roundw
          case rel =>
            refine ⟨j + 1, by omega, by go_num, congrArg (Value.int IntKind.i64) (by omega), bt (bt HG.out.1 HB2.out) hb3, fun r hr h => ?_⟩
            by_cases e : r = j
            · subst e; omega
            · exact HG.out.2 r (by omega) h
          case measure => simp [intOf]; omega
      · have hsf : isSh (F j).kind = false := by simpa using hs
        rw [hsf] at IS
        go_wp2_with fail
        refine IS.out.mono ?_
        rintro e w2 ⟨rfl, hb2⟩
        obtain ⟨g0, g1, g2, g3⟩ := hatx.keep hb2
        have S2 := SZ w2
        have HB2 := hide hb2
        clear e0 e1 e2 e3 hb2 IS SZ
        go_wp2_with fail
        refine S2.out.mono ?_
        rintro e w3 ⟨rfl, hb3⟩
        go_wp2
        go_roundw
        case rel =>
          refine ⟨j + 1, by omega, by go_num, congrArg (Value.int IntKind.i64) (by omega), bt (bt HG.out.1 HB2.out) hb3, fun r hr h => ?_⟩
          by_cases e : r = j
          · subst e; exact absurd h hs
          · exact HG.out.2 r (by omega) h
        case measure => simp [intOf]; omega
    · obtain rfl : m = j := by omega
      have hbw := HG.out.1
      have hsh := HG.out.2
      have HSH := hide hsh
      have HBWR := hide hbw
      clear hbw hsh HG
      by_cases hp0 : pad < 0
      · go_wp2_with (go_at_call 21; refine (Long_any _ _).mono ?_; rintro e w0 ⟨rfl, hw0⟩; subst w0)
        go_ret
        exact ⟨rfl, HBWR.out⟩
      by_cases hp1 : 1048576 < pad
      · have hd : decide (1048576 < pad) = true := decide_eq_true hp1
        go_wp2_with (go_at_call 21; refine (Long_any _ _).mono ?_; rintro e w0 ⟨rfl, hw0⟩; subst w0; rw [hd])
        go_ret
        exact ⟨rfl, HBWR.out⟩
      have hd : decide (1048576 < pad) = false := decide_eq_false hp1
      by_cases ht1 : 1048576 < tot F m
      · have hd2 : decide ((1048576 : Int) < (tot F m : Int)) = true := decide_eq_true (by omega)
        go_wp2_with (go_at_call 21; refine (Long_any _ _).mono ?_; rintro e w0 ⟨rfl, hw0⟩; subst w0; first | rw [hd2] | rw [hd])
        go_ret
        exact ⟨rfl, HBWR.out⟩
      have hd2 : decide ((1048576 : Int) < (tot F m : Int)) = false := decide_eq_false (by omega)
      obtain ⟨P, rfl⟩ : ∃ P : Nat, pad = (P : Int) := ⟨pad.toNat, by omega⟩
      have hM : IntKind.i64.wrap ((tot F m : Int) + (P : Int)) = ((tot F m + P : Nat) : Int) := by rw [wrapI (by omega) (by omega)]; omega
      have HMB : Hid (tot F m + P ≤ 2097152) := by show tot F m + P ≤ 2097152; omega
      have HTL : Hid (tot F m = (cat F m).length) := rfl
      have NW := hide (NewWriter_any wr ((tot F m + P : Nat) : Int))
      have hcl : clamp ((tot F m + P : Nat) : Int) = tot F m + P := by unfold clamp; have := HMB.out; omega
      rw [hcl] at NW
      have HT := hide hT
      clear hcl hT
      generalize hMM : tot F m + P = M at *
      have HMM := hide hMM
      clear hMM
      go_wp2_with (first | (go_at_call 21; refine (Long_any _ _).mono ?_; rintro e w0 ⟨rfl, hw0⟩; subst w0; first | rw [hd2] | rw [hd]) | (go_at_call 7; refine NW.out.mono ?_; rintro e w2 ⟨rfl, h2, hb2⟩; have H2 := hide h2; have HB2 := hide hb2; clear h2 hb2))
      have AL := hide (all_any w2 wr.heap.size ⟨M, [], 0⟩ af m capf F w HF.out (bt HBWR.out HB2.out) HBWR.out.size H2.out hm)
      have hfit := allS_fits F M m HSH.out m (Nat.le_refl _) (by have := HMM.out; omega)
      rw [hfit] at AL
      clear hfit
      refine AL.out.mono ?_
      rintro e w3 ⟨rfl, h3⟩
      obtain ⟨a3, c3, h3w, h3n, h3b⟩ := h3
      have FL := hide (Fill_any w3 wr.heap.size a3 c3 ⟨M, cat F m, 0⟩ (M : Int) h3w (by have := HMB.out; omega))
      have hfill : (⟨M, cat F m, 0⟩ : WS).fill (M : Int) = ⟨M, cat F m ++ List.replicate P 0, 0⟩ := by
        unfold WS.fill
        dsimp only
        rw [if_neg (by simp), if_neg (by rw [← HTL.out]; have := HMM.out; omega), if_neg (by omega), Int.toNat_natCast, ← HTL.out, show M - tot F m = P by have := HMM.out; omega]
      rw [hfill] at FL
      have B3 := hide (belowOf (w := w) (bt HBWR.out HB2.out) h3b (by
        rintro x (e | ⟨y, hy, _⟩)
        · rw [e]; exact HBWR.out.size
        · cases hy))
      have N3 : Hid (∀ y, a3 = some y → w.heap.size ≤ y.block) := fun y hy => by
        rcases h3n y hy with ⟨z, hz, _⟩ | h
        · cases hz
        · have h1 := HBWR.out.size; have h2 := HB2.out.size; omega
      clear hfill h3w h3n h3b AL NW
      go_wp2_with fail
      refine FL.out.mono ?_
      rintro e w4 ⟨rfl, h4⟩
      obtain ⟨a4, c4, h4w, h4n, h4b⟩ := h4
      have hll : (cat F m ++ List.replicate P 0).length = M := by rw [List.length_append, List.length_replicate, ← HTL.out]; exact HMM.out
      have DN := hide (Done_ok w4 wr.heap.size a4 c4 _ h4w rfl)
      have LN := fun w5 (hb : Below w4.heap.size w4 w5) => hide (Len_any w5 wr.heap.size a4 c4 _ (h4w.keep hb))
      dsimp only at DN LN
      rw [hll] at DN LN
      have B4 := hide (belowOf (w := w) B3.out h4b (by
        rintro x (e | ⟨y, hy, e⟩)
        · rw [e]; exact HBWR.out.size
        · rw [← e]; exact N3.out y hy))
      have HBY := hide h4w.2.2.2.2
      dsimp only at HBY
      clear h4w h4n h4b FL
      go_wp2_with fail
      refine DN.out.mono ?_
      rintro e w5 ⟨a5, c5, rfl, h5R, h5n, h5b⟩
      have L5 := LN w5 h5b
      have NR := hide (NewReader_any w5 a5 M c5 (cat F m ++ List.replicate P 0) (h5R.bs HBY.out (by rw [hll]; have := HMB.out; omega)) hll.symm (by rw [hll]; have := HMB.out; omega))
      have R5 := hide h5R
      have N5 := hide h5n
      have B5 := hide (bt B4.out h5b)
      clear h5R h5n h5b LN DN
      go_wp2_with fail
      refine L5.out.mono ?_
      rintro e w6 ⟨rfl, hw6⟩
      subst w6
      go_wp2_with fail
      refine NR.out.mono ?_
      rintro e w7 ⟨b7, a7, c7, rfl, h7, h7b, h7n, h7w⟩
      have R7 := hide h7
      have B7 := hide (bt B5.out h7w)
      have G7 : Hid (w.heap.size ≤ b7) := by show w.heap.size ≤ b7; have := B5.out.size; omega
      have D7 : Hid (w5.heap.size ≤ b7) := h7b
      have W7 := hide h7w
      clear h7 h7b h7n h7w NR L5
      go_wp2
      go_loopw [13, 14] (fun i _ wx => ∃ (j : Nat) (aj : Option Addr) (cj : Nat), j ≤ m ∧ i = .int .i64 j ∧ (Rd wx b7 aj cj ⟨(cat F m ++ List.replicate P 0).drop (tot F j), 0⟩ ∧ Below w.heap.size w wx ∧ But (fun k => w5.heap.size ≤ k) w5 wx)) (fun i _ _ => m - (intOf i).toNat)
      case atStart => exact ⟨0, a7, c7, Nat.zero_le _, rfl, R7.out, B7.out, But.ofBelow W7.out⟩
      case round =>
        obtain ⟨j, aj, cj, hj, rfl, hG⟩ := hrel
        have HG := hide hG
        clear hG
        by_cases hlt : j < m
        · have hi : (j : Int) < (m : Int) := by omega
          rcases HF.out with h0 | ⟨bf, off, rfl, hFF⟩
          · omega
          obtain ⟨hat, hok⟩ := hFF j hlt
          obtain ⟨e0, e1, e2, e3⟩ := hat.keep HG.out.2.1
          have hnext := next_in F j m M (List.replicate P 0) hlt (by have h1 := tot_le F (j + 1) m hlt; have := HMM.out; omega)
          rw [List.take_of_length_le (by rw [hll]; exact Nat.le_refl _)] at hnext
          have BK := hide (back_any wr b7 aj cj _ (F j) _ HG.out.1 rfl hnext (hok.keep HG.out.2.1) (fun x hx h0 => by have h1 := hok.old hx h0; have := G7.out; omega) (HSH.out j hlt))
          unfold Fd.cells at BK
          clear hnext
          go_wp2_with fail
          refine BK.out.mono ?_
          rintro e w8 ⟨rfl, h8⟩
          obtain ⟨a8, c8, h8r, h8n, h8b⟩ := h8
          have R8 := hide h8r
          have B8 := hide h8b
          clear h8r h8n h8b e0 e1 e2 e3
          go_wp2
          go_roundw
          case rel => exact ⟨j + 1, a8, c8, by omega, by go_num, R8.out, belowOf HG.out.2.1 B8.out (fun x e => by rw [e]; exact G7.out), HG.out.2.2.trans B8.out (fun x _ e => by rw [e]; exact D7.out)⟩
          case measure => simp [intOf]; omega
        · obtain rfl : m = j := by omega
          have hz := Zeros_any wr b7 aj cj _ HG.out.1
          have hdrop : (cat F m ++ List.replicate P 0).drop (tot F m) = List.replicate P 0 := by rw [HTL.out, List.drop_left]
          rw [hdrop] at hz
          have hzs : (⟨List.replicate P 0, 0⟩ : RS).zeros = ⟨[], 0⟩ := by
            unfold RS.zeros RS.zerosE
            simp
          rw [hzs] at hz
          have ZR := hide hz
          clear hz hdrop hzs
          go_wp2_with fail
          refine ZR.out.mono ?_
          rintro e w9 ⟨rfl, h9⟩
          obtain ⟨a9, c9, h9r, h9n, h9b⟩ := h9
          have EN := hide (End_any w9 b7 a9 c9 _ h9r)
          rw [show (⟨[], 0⟩ : RS).fin = 0 from rfl] at EN
          have LF := hide (Left_any w9 b7 a9 c9 _ h9r)
          have B9 := hide (belowOf HG.out.2.1 h9b (fun x e => by rw [e]; exact G7.out))
          have Q9 := hide (HG.out.2.2.trans h9b (fun x _ e => by rw [e]; exact D7.out))
          clear h9r h9n h9b ZR
          go_wp2_with fail
          refine EN.out.mono ?_
          rintro e w10 ⟨rfl, hw10⟩
          subst w10
          go_wp2_with fail
          refine LF.out.mono ?_
          rintro e w11 ⟨rfl, hw11⟩
          subst w11
          clear EN LF
          by_cases hn0 : n < 0
          · go_wp2
            go_ret
            exact ⟨rfl, B9.out⟩
          by_cases hn1 : (tot F m : Int) < n
          · go_wp2
            go_ret
            exact ⟨rfl, B9.out⟩
          obtain ⟨nn, rfl⟩ : ∃ nn : Nat, n = (nn : Int) := ⟨n.toNat, by omega⟩
          have hnn : nn ≤ tot F m := by omega
          have hB9 : Bs w9 a5 ((cat F m).take nn) := by
            have h1 := ((R5.out.bs HBY.out (by rw [hll]; have := HMB.out; omega)).but Q9.out (fun x hx _ h => by have := R5.out.lt hx; omega)).take nn
            rwa [List.take_append_of_le_length (by rw [← HTL.out]; exact hnn)] at h1
          have SH := hide (short_any w9 a5 nn c5 af m capf F w HF.out B9.out hm HT.out HSH.out hnn hB9)
          have hI0 : ((0 : Nat) : Int) ≤ (nn : Int) := by omega
          rcases R5.out.cases with ⟨rfl, rfl, hnil⟩ | ⟨g5, cur5, rfl, _, hlc, hcm, _⟩
          · rw [hnil] at hll
            obtain rfl : nn = 0 := by have := HMM.out; simp at hll; omega
            obtain rfl : M = 0 := by simp at hll; omega
            clear hB9 hll hnil
            go_wp2_with fail
            refine SH.out.mono ?_
            rintro e w12 ⟨rfl, hb12⟩
            go_wp2
            go_ret
            exact ⟨rfl, bt B9.out hb12⟩
          · rw [hll] at hlc
            have hI1 : (nn : Int) ≤ (c5 : Int) := by have := HMM.out; omega
            have hI2 : (c5 : Int) ≤ 9223372036854775807 := by unfold maxLen at hcm; omega
            clear hB9 hlc hcm
            go_wp2_with fail
            refine SH.out.mono ?_
            rintro e w12 ⟨rfl, hb12⟩
            go_wp2
            go_ret
            exact ⟨rfl, bt B9.out hb12⟩
end Go.Proofs.Ytlkjpljfbmploaa
