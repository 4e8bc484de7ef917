import Derived.Test.YticcpkdhfdefpaaNW
namespace Go.Proofs.Yticcpkdhfdefpaa
open Go.RowKit

set_option maxHeartbeats 400000 in
theorem mBlocks_any (w : World) (p : Int) (hp : p ≤ 9223372036854775807) : Calls Try.prog 9 #[.int .i64 p] w fun e w' => e = .returned (.int .i64 ((nbl p.toNat : Nat) : Int)) ∧ w' = w := by
  by_cases h1 : p < 1
  · rw [nbl_none h1]
    go_enter Try.func9, Try.ntmps9
    go_wp2
    go_ret
    exact ⟨rfl, rfl⟩
  · have h1' : 1 ≤ p := by omega
    have HN := hide (nbl_int h1')
    generalize ((nbl p.toNat : Nat) : Int) = N at *
    have ht : (p - 1).tdiv 240 = (p - 1) / 240 := Int.tdiv_eq_ediv_of_nonneg (by omega)
    go_enter Try.func9, Try.ntmps9
    go_wp2
    go_ret
    exact ⟨by rw [← HN.out]; rfl, rfl⟩
/-! ### a bank with these counts there -/
def m7 (n : Nat) : List Int := (List.range n).map fun j : Nat => ((j % 7 : Nat) : Int)
theorem m7_length (n : Nat) : (m7 n).length = n := by simp [m7]
theorem m7_succ (n : Nat) : m7 (n + 1) = m7 n ++ [((n % 7 : Nat) : Int)] := by simp [m7, List.range_succ]
theorem m7_lt (n : Nat) : ∀ x ∈ m7 n, 0 ≤ x ∧ x < 65536 := by
  intro x hx
  obtain ⟨j, _, rfl⟩ := List.mem_map.1 hx
  omega
def ovr (B : List Int) (f : Nat) (X : List Int) : List Int := B.take f ++ (X ++ B.drop (f + X.length))
theorem ovr_nil (B : List Int) (f : Nat) : ovr B f [] = B := by simp [ovr]
theorem ovr_length {B : List Int} {f : Nat} {X : List Int} (h : f + X.length ≤ B.length) : (ovr B f X).length = B.length := by
  unfold ovr
  simp only [List.length_append, List.length_take, List.length_drop]
  omega
theorem ovr_set {B : List Int} {f : Nat} {X : List Int} {x : Int} (h : f + X.length < B.length) : (ovr B f X).set (f + X.length) x = ovr B f (X ++ [x]) := by
  unfold ovr
  have h1 : (B.take f).length = f := by rw [List.length_take]; omega
  rw [List.set_append_right _ _ (by omega), h1, Nat.add_sub_cancel_left, List.set_append_right _ _ (Nat.le_refl _), Nat.sub_self, List.length_append, List.length_singleton]
  rw [List.drop_eq_getElem_cons (i := f + X.length) h]
  simp [Nat.add_assoc]
theorem ovr_mem {B : List Int} {f : Nat} {X : List Int} {x : Int} (h : x ∈ ovr B f X) : x ∈ B ∨ x ∈ X := by
  unfold ovr at h
  simp only [List.mem_append] at h
  rcases h with h | h | h
  · exact .inl (List.mem_of_mem_take h)
  · exact .inr h
  · exact .inl (List.mem_of_mem_drop h)
theorem nats_ints (cs : List Nat) : nats (ints cs) = cs := by
  unfold nats ints
  rw [List.map_map]
  exact (List.map_congr_left (fun x _ => rfl)).trans (List.map_id cs)
theorem ints_lt {cs : List Nat} (h : ∀ x ∈ cs, x < 65536) : ∀ x ∈ ints cs, 0 ≤ x ∧ x < 65536 := by
  intro x hx
  obtain ⟨y, hy, rfl⟩ := List.mem_map.1 hx
  have := h y hy
  omega
theorem chunk_ovr {p k : Nat} {cs : List Nat} (hk : k < nbl p) (hc : cs.length = cin p k) : chunk (nats (ovr (m7 p) (240 * k) (ints cs))) k = cs := by
  have hl : ((nats (m7 p)).take (240 * k)).length = 240 * k := by rw [List.length_take, nats_length, m7_length]; unfold nbl at hk; omega
  have e : nats (ovr (m7 p) (240 * k) (ints cs)) = (nats (m7 p)).take (240 * k) ++ (cs ++ (nats (m7 p)).drop (240 * k + cs.length)) := by
    unfold ovr
    rw [ints_length]
    conv => rhs; rw [← nats_ints cs]
    unfold nats
    simp only [List.map_append, List.map_take, List.map_drop, List.length_map, ints_length]
  rw [e]
  unfold chunk
  rw [List.drop_append_of_le_length (by omega), List.drop_of_length_le (by omega), List.nil_append]
  unfold cin at hc
  by_cases h : cs.length = 240
  · rw [List.take_append_of_le_length (by omega), List.take_of_length_le (by omega)]
  · rw [List.drop_of_length_le (by rw [nats_length, m7_length]; omega), List.append_nil, List.take_of_length_le (by omega)]
theorem ints_cnt {gen pages i : Int} {b : List Nat} (h : bkE gen pages i b = 0) : bkC gen pages i b = ints (cnt (b.take 508) (cin pages.toNat i.toNat)) := by unfold bkC; rw [if_pos h]; rfl
theorem tm7 (j : Nat) : ((j : Int)).tmod 7 = ((j % 7 : Nat) : Int) := rfl
theorem t_one {T : List Br} {B : List (List Nat)} (h : T.map Br.l = B) (k : Nat) (hk : k < B.length) : k < T.length ∧ (T.getD k Br0).l = B.getD k [] := by
  subst h
  rw [List.length_map] at hk
  exact ⟨hk, by rw [map_getD]⟩
set_option maxRecDepth 8000 in
set_option maxHeartbeats 6400000 in
theorem BankForm_any (w : World) (gen pages i : Int) (a : Option Addr) (n c : Nat) (b : List Nat) (hB : Bs w a b) (hn : n = b.length) (hc : b.length ≤ c) (hp : pages ≤ 9223372036854775807) :
    Calls Try.prog 6 #[.int .i64 gen, .int .i64 pages, .int .i64 i, .slice a n c] w fun e w' => e = .returned (.bool true) ∧ Below w.heap.size w w' := by
  have WK := hide (works_any w)
  have BK := hide fun (w1 : World) (hb : Below w.heap.size w w1) => Block_any w1 gen pages i a n c b (hB.keep hb) hn hc hp
  unfold BkQ at BK
  by_cases hE : bkE gen pages i b = 0
  · obtain ⟨ha, hl, _⟩ := bkE_zero hE
    have hfm := bk_form hB.1 hE
    have hcb := ints_cnt hE
    obtain ⟨⟨g0, g1⟩, ⟨p0, p1⟩, i0, i1⟩ := argsOk_iff.1 ha
    obtain ⟨g, rfl⟩ : ∃ g : Nat, gen = (g : Int) := ⟨gen.toNat, by omega⟩
    obtain ⟨p, rfl⟩ : ∃ g : Nat, pages = (g : Int) := ⟨pages.toNat, by omega⟩
    obtain ⟨k, rfl⟩ : ∃ g : Nat, i = (g : Int) := ⟨i.toNat, by omega⟩
    simp only [Int.toNat_natCast] at i1 hfm hcb
    have hkn : k < nbl p := by omega
    have hcl := cnt_length (b.take 508) (cin p k)
    have hclt := cnt_lt (B8.take hB.1 508) (cin p k)
    rw [hE, hcb] at BK
    generalize cnt (b.take 508) (cin p k) = cs at *
    have hC0 : enE (g : Int) (ovr (m7 p) (240 * k) (ints cs)) = 0 := by
      refine enE_zero.2 ⟨isGen_iff.2 ⟨g0, g1⟩, ?_, fun x hx => ?_⟩
      · rw [ovr_length (by rw [ints_length, m7_length, hcl]; unfold nbl at hkn; unfold cin; omega), m7_length]; omega
      · rcases ovr_mem hx with h | h
        · exact m7_lt p x h
        · exact ints_lt hclt x h
    have hCl : (ovr (m7 p) (240 * k) (ints cs)).length = p := by rw [ovr_length (by rw [ints_length, m7_length, hcl]; unfold nbl at hkn; unfold cin; omega), m7_length]
    have hch := chunk_ovr hkn hcl
    have HFM : Hid ((enL (g : Int) (ovr (m7 p) (240 * k) (ints cs))).getD k [] = b ∧ (enL (g : Int) (ovr (m7 p) (240 * k) (ints cs))).length = nbl p) := by
      rw [bank_eqL hC0, Int.toNat_natCast]
      refine ⟨?_, by rw [bank_length, nats_length, hCl]⟩
      rw [bank_get _ _ (by rw [nats_length, hCl]; exact hkn), hch, nats_length, hCl]
      exact hfm.symm
    have MB := hide fun w1 => mBlocks_any w1 (p : Int) (by omega)
    simp only [Int.toNat_natCast] at MB
    have EN := hide fun (w1 : World) (a' : Option Addr) (c' : Nat) (h : Ir w1 a' (ovr (m7 p) (240 * k) (ints cs))) => Encode_any w1 (g : Int) a' c' (ovr (m7 p) (240 * k) (ints cs)) h (by rw [hCl]; omega)
    unfold EnQ at EN
    rw [hC0, hCl] at EN
    have EB := hide fun (w1 : World) (hb : Below w.heap.size w w1) (a' : Option Addr) (c' : Nat) (h : Bs w1 a' b) => EqBytes_same w1 a' a 512 n c' c b h (hB.keep hb) hl.symm hn
    have hmk := make_int p (by omega)
    have hp1 : 1 ≤ p := by unfold nbl at hkn; omega
    have hk274 : k ≤ 274 := by unfold nbl at hkn; omega
    have hcc : cs.length = min (p - 240 * k) 240 := hcl
    have hpk : 240 * k + cs.length ≤ p := by rw [hcc]; unfold nbl at hkn; omega
    have hin' : decide (nbl p ≤ k) = false := by simp; omega
    have h240 : cs.length ≤ 240 := by omega
    have hil := ints_length cs
    have HCC := hide hcc
    clear hcc
    have HLT := hide (ints_lt hclt)
    have HBL := hide hl
    clear hE ha hfm hcb g0 g1 p0 i0 i1 hcl hclt hC0 hch hB hc hn hl
    go_enter Try.func6, Try.ntmps6
    go_wp2_with fail
    refine WK.out.mono ?_
    rintro y w1 ⟨rfl, hb1⟩
    have T1 := hide hb1
    clear hb1 WK
    go_wp2_with fail
    refine (BK.out _ T1.out).mono ?_
    rintro y w2 ⟨a2, c2, rfl, hO⟩
    have O2 := hide hO
    have T2 := hide (bt T1.out hO.b)
    clear hO BK
    rw [hil]
    go_wp2_with (go_at_call 9; refine (MB.out _).mono ?_; rintro y wq ⟨rfl, hww⟩; obtain rfl := hww.symm)
    have IG := hide (Bx.new w2 3 (madeCells #[.int .i64 0] p))
    rw [made_ints, ← fil_nil] at IG
    have AL := hide (al w2 (.cells (madeCells #[.int .i64 0] p) 3))
    rw [made_ints, ← fil_nil] at AL ⊢
    generalize w2.alloc (.cells (vi (fil [] p)).toArray 3) = W at *
    go_loopw [12] (fun q wx => ∃ j : Nat, j ≤ p ∧ q = .int .i64 j ∧ Bx wx 3 w2.heap.size (vi (fil (m7 j) p)).toArray ∧ Below w2.heap.size w2 wx) (fun q _ => p - (intOf q).toNat)
    case atStart => exact ⟨0, Nat.zero_le _, rfl, IG.out, AL.out⟩
    case round =>
      obtain ⟨j, hj, rfl, h1, h2⟩ := hrel
      have H1 := hide h1
      have H2 := hide h2
      clear h1 h2 IG AL
      have hjl := m7_length j
      by_cases hlt : j < p
      · have hlti : (j : Int) < (p : Int) := by omega
        have CS := hide (m7_succ j)
        have ht7 := tm7 j
        have ht7b : (j : Int) % 7 = ((j % 7 : Nat) : Int) := rfl
        generalize j % 7 = r at *
        generalize m7 j = L at *
        have f0 := frozen_of_row _ w2.heap.size j _ _ H1.out
        have hfl : j < (fil L p).length := by rw [fil_length (by omega)]; exact hlt
        have e0 := H1.out.cell j (v := .int .i64 ((fil L p).getD j 0)) (by simp [vi, hfl])
        have N2 := hide (H1.out.setc j (.int .i64 (r : Int)))
        have N3 := hide (((But.ofBelow (S := fun _ => False) H2.out).setCell (p := ⟨w2.heap.size, j, none⟩) (fun hp => by simp only at hp; omega) (.int .i64 (r : Int))).below fun _ _ h => h)
        have hst : Hid ((vi (fil L p)).toArray.setIfInBounds j (.int .i64 (r : Int)) = (vi (fil (L ++ [(r : Int)]) p)).toArray) := by
          show _ = _
          rw [← fil_set (by omega), hjl]
          unfold vi
          rw [List.map_set]
          simp
        rw [hst.out] at N2
        go_wp2
        go_roundw
        case rel => exact ⟨j + 1, by omega, by go_num, by rw [CS.out]; exact N2.out, N3.out⟩
        case measure => simp [intOf]; omega
      · obtain rfl : j = p := by omega
        rw [fil_all hjl] at H1
        by_cases h24 : 240 ≤ j - 240 * k
        · have hmi : (240 : Int) ≤ (j : Int) - (k : Int) * 240 := by omega
          have hce : ((cs.length : Int) == 240) = true := by have := HCC.out; simp; omega
          clear h24
          go_wp2
          go_loopw [14] (fun q wx => ∃ t : Nat, t ≤ cs.length ∧ q = .int .i64 t ∧ Bx wx 3 w2.heap.size (vi (ovr (m7 j) (240 * k) ((ints cs).take t))).toArray ∧ Below w2.heap.size w2 wx) (fun q _ => cs.length - (intOf q).toNat)
          case atStart => exact ⟨0, Nat.zero_le _, rfl, by rw [List.take_zero, ovr_nil]; exact H1.out, H2.out⟩
          case round =>
            obtain ⟨t, ht, rfl, h1, h2⟩ := hrel
            have H1 := hide h1
            have H2 := hide h2
            clear h1 h2
            have htl : ((ints cs).take t).length = t := by rw [List.length_take, hil]; omega
            by_cases hlt2 : t < cs.length
            · have hlti : (t : Int) < (cs.length : Int) := by omega
              have CS : Hid ((ints cs).take (t + 1) = (ints cs).take t ++ [(ints cs).getD t 0]) := by
                show _ = _
                rw [← take_snocI _ (by rw [hil]; exact hlt2)]
              obtain ⟨b1, o1, ha2, cA⟩ := (O2.out.r.keep H2.out).ir.at (j := t) (by rw [hil]; exact hlt2)
              subst ha2
              have hxr := HLT.out ((ints cs).getD t 0) (by simp [hil, hlt2])
              generalize (ints cs).getD t 0 = x at *
              have hq : 240 * k + t < j := by omega
              have hqi : (k : Int) * 240 + (t : Int) < (j : Int) := by omega
              have hqn : (k : Int) * 240 + (t : Int) = ((240 * k + t : Nat) : Int) := by push_cast; omega
              have hol : (ovr (m7 j) (240 * k) ((ints cs).take t)).length = j := by rw [ovr_length (by rw [htl, m7_length]; omega), m7_length]
              have hst : Hid ((vi (ovr (m7 j) (240 * k) ((ints cs).take t))).toArray.setIfInBounds (240 * k + t) (.int .i64 x) = (vi (ovr (m7 j) (240 * k) ((ints cs).take t ++ [x]))).toArray) := by
                show _ = _
                rw [← ovr_set (by rw [htl, m7_length]; omega), htl]
                unfold vi
                rw [List.map_set]
                simp
              generalize ovr (m7 j) (240 * k) ((ints cs).take t) = OV at *
              generalize 240 * k + t = q at *
              have f0 := frozen_of_row _ w2.heap.size q _ _ H1.out
              have e0 := H1.out.cell q (v := .int .i64 (OV.getD q 0)) (by simp [vi, hol, hq])
              have N2 := hide (H1.out.setc q (.int .i64 x))
              have N3 := hide (((But.ofBelow (S := fun _ => False) H2.out).setCell (p := ⟨w2.heap.size, q, none⟩) (fun hp => by simp only at hp; omega) (.int .i64 x)).below fun _ _ h => h)
              rw [hst.out] at N2
              go_wp2
              go_roundw
              case rel => exact ⟨t + 1, by omega, by go_num, by rw [CS.out]; exact N2.out, N3.out⟩
              case measure => simp [intOf]; omega
            · obtain rfl : t = cs.length := by omega
              rw [List.take_of_length_le (by omega)] at H1
              have HIR := hide (Ig.bx H1.out (by rw [hCl]; unfold maxLen; omega)).ir
              go_wp2_with fail
              refine (EN.out _ _ _ HIR.out).mono ?_
              rintro y w4 ⟨a4, c4, T, rfl, hT, hL⟩
              have hk4 := t_one hT k (by rw [HFM.out.2]; exact hkn)
              have hTl : T.length = nbl j := by have h := congrArg List.length hT; rw [List.length_map, HFM.out.2] at h; exact h
              rw [HFM.out.1] at hk4
              obtain ⟨hk5, hk6⟩ := hk4
              have T4 := hide (bt T2.out (bt H2.out hL.x.b))
              obtain ⟨g4, ha4, cA⟩ := hL.x.r.cell (i := k) (v := bv (T.getD k Br0)) (by simp [hk5])
              subst ha4
              have hbs := hide (hL.bl.r _ (Br0_mem hk5)).1
              unfold bv at cA
              rw [hk6] at cA hbs
              have h512 := HBL.out
              rw [h512] at cA
              generalize T.getD k Br0 = tt at *
              rw [hTl]
              clear hT hL hk5 hk6 hTl h512
              have hkg : (k : Int) < (nbl j : Int) := by omega
              go_wp2_with fail
              refine (EB.out _ T4.out _ _ hbs.out).mono ?_
              rintro y w5 ⟨rfl, hb5⟩
              have T5 := hide (bt T4.out hb5)
              go_wp2
              go_ret
              exact ⟨rfl, T5.out⟩
        · have hmi : (j : Int) - (k : Int) * 240 < 240 := by omega
          have hce : ((cs.length : Int) == (j : Int) - (k : Int) * 240) = true := by have := HCC.out; simp; omega
          clear h24
          go_wp2
          go_loopw [14] (fun q wx => ∃ t : Nat, t ≤ cs.length ∧ q = .int .i64 t ∧ Bx wx 3 w2.heap.size (vi (ovr (m7 j) (240 * k) ((ints cs).take t))).toArray ∧ Below w2.heap.size w2 wx) (fun q _ => cs.length - (intOf q).toNat)
          case atStart => exact ⟨0, Nat.zero_le _, rfl, by rw [List.take_zero, ovr_nil]; exact H1.out, H2.out⟩
          case round =>
            obtain ⟨t, ht, rfl, h1, h2⟩ := hrel
            have H1 := hide h1
            have H2 := hide h2
            clear h1 h2
            have htl : ((ints cs).take t).length = t := by rw [List.length_take, hil]; omega
            by_cases hlt2 : t < cs.length
            · have hlti : (t : Int) < (cs.length : Int) := by omega
              have CS : Hid ((ints cs).take (t + 1) = (ints cs).take t ++ [(ints cs).getD t 0]) := by
                show _ = _
                rw [← take_snocI _ (by rw [hil]; exact hlt2)]
              obtain ⟨b1, o1, ha2, cA⟩ := (O2.out.r.keep H2.out).ir.at (j := t) (by rw [hil]; exact hlt2)
              subst ha2
              have hxr := HLT.out ((ints cs).getD t 0) (by simp [hil, hlt2])
              generalize (ints cs).getD t 0 = x at *
              have hq : 240 * k + t < j := by omega
              have hqi : (k : Int) * 240 + (t : Int) < (j : Int) := by omega
              have hqn : (k : Int) * 240 + (t : Int) = ((240 * k + t : Nat) : Int) := by push_cast; omega
              have hol : (ovr (m7 j) (240 * k) ((ints cs).take t)).length = j := by rw [ovr_length (by rw [htl, m7_length]; omega), m7_length]
              have hst : Hid ((vi (ovr (m7 j) (240 * k) ((ints cs).take t))).toArray.setIfInBounds (240 * k + t) (.int .i64 x) = (vi (ovr (m7 j) (240 * k) ((ints cs).take t ++ [x]))).toArray) := by
                show _ = _
                rw [← ovr_set (by rw [htl, m7_length]; omega), htl]
                unfold vi
                rw [List.map_set]
                simp
              generalize ovr (m7 j) (240 * k) ((ints cs).take t) = OV at *
              generalize 240 * k + t = q at *
              have f0 := frozen_of_row _ w2.heap.size q _ _ H1.out
              have e0 := H1.out.cell q (v := .int .i64 (OV.getD q 0)) (by simp [vi, hol, hq])
              have N2 := hide (H1.out.setc q (.int .i64 x))
              have N3 := hide (((But.ofBelow (S := fun _ => False) H2.out).setCell (p := ⟨w2.heap.size, q, none⟩) (fun hp => by simp only at hp; omega) (.int .i64 x)).below fun _ _ h => h)
              rw [hst.out] at N2
              go_wp2
              go_roundw
              case rel => exact ⟨t + 1, by omega, by go_num, by rw [CS.out]; exact N2.out, N3.out⟩
              case measure => simp [intOf]; omega
            · obtain rfl : t = cs.length := by omega
              rw [List.take_of_length_le (by omega)] at H1
              have HIR := hide (Ig.bx H1.out (by rw [hCl]; unfold maxLen; omega)).ir
              go_wp2_with fail
              refine (EN.out _ _ _ HIR.out).mono ?_
              rintro y w4 ⟨a4, c4, T, rfl, hT, hL⟩
              have hk4 := t_one hT k (by rw [HFM.out.2]; exact hkn)
              have hTl : T.length = nbl j := by have h := congrArg List.length hT; rw [List.length_map, HFM.out.2] at h; exact h
              rw [HFM.out.1] at hk4
              obtain ⟨hk5, hk6⟩ := hk4
              have T4 := hide (bt T2.out (bt H2.out hL.x.b))
              obtain ⟨g4, ha4, cA⟩ := hL.x.r.cell (i := k) (v := bv (T.getD k Br0)) (by simp [hk5])
              subst ha4
              have hbs := hide (hL.bl.r _ (Br0_mem hk5)).1
              unfold bv at cA
              rw [hk6] at cA hbs
              have h512 := HBL.out
              rw [h512] at cA
              generalize T.getD k Br0 = tt at *
              rw [hTl]
              clear hT hL hk5 hk6 hTl h512
              have hkg : (k : Int) < (nbl j : Int) := by omega
              go_wp2_with fail
              refine (EB.out _ T4.out _ _ hbs.out).mono ?_
              rintro y w5 ⟨rfl, hb5⟩
              have T5 := hide (bt T4.out hb5)
              go_wp2
              go_ret
              exact ⟨rfl, T5.out⟩
  · have hE' : (((bkE gen pages i b : Nat) : Int) == 0) = false := by simpa using hE
    generalize bkE gen pages i b = E at *
    generalize bkC gen pages i b = BC at *
    clear hB hn hE
    go_enter Try.func6, Try.ntmps6
    go_wp2_with fail
    refine WK.out.mono ?_
    rintro y w1 ⟨rfl, hb1⟩
    have T1 := hide hb1
    clear hb1
    go_wp2_with fail
    refine (BK.out _ T1.out).mono ?_
    rintro y w2 ⟨a2, c2, rfl, hO⟩
    have T2 := hide (bt T1.out hO.b)
    clear hO
    go_wp2
    go_ret
    exact ⟨rfl, T2.out⟩
theorem bankForm_any (W : World) (n0 : Int) (_ : N64 n0) (n1 : Int) (h1 : N64 n1) (n2 : Int) (_ : N64 n2) (a3 : Option Addr) (c3 : Nat) (L3 : List Nat) (hB : Bs W a3 L3) (_ : L3.length + 64 ≤ 140737488355328) (hC : L3.length ≤ c3) :
    Calls Try.prog 6 #[.int .i64 n0, .int .i64 n1, .int .i64 n2, .slice a3 L3.length c3] W fun e w' => e = .returned (.bool true) ∧ Below W.heap.size W w' :=
  BankForm_any W n0 n1 n2 a3 L3.length c3 L3 hB rfl hC h1.2
end Go.Proofs.Yticcpkdhfdefpaa
