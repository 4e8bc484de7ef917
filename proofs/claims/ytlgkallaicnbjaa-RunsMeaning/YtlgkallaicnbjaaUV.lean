import Derived.Test.YtlgkallaicnbjaaUU
import Derived.Test.YtlgkallaicnbjaaUQ
namespace Go.Proofs.Ytlgkallaicnbjaa
open Go.RowKit

/-! ### RunsMeaning -/
abbrev Sx := Int × Int × Bool
def Sx.zero : Sx := (0, 0, false)
/-- steps in memory -/
def Sp (w : World) (a : Option Addr) (T : List Sx) : Prop := T = [] ∨ ∃ b o, a = some ⟨b, o, none⟩ ∧ ∀ i, i < T.length → w.cell? ⟨b, o + i * 3, none⟩ = some (.int .u8 (T.getD i Sx.zero).1) ∧ w.cell? ⟨b, o + i * 3 + 1, none⟩ = some (.int .u8 (T.getD i Sx.zero).2.1) ∧ w.cell? ⟨b, o + i * 3 + 2, none⟩ = some (.bool (T.getD i Sx.zero).2.2)
theorem Arr.set {arr : Array Value} {f : Int → Bool} (h : Arr arr f) {t : Nat} (ht : t < 256) (v : Bool) : Arr (arr.setIfInBounds t (.bool v)) (fun z => if z = (t : Int) then v else f z) := by
  refine ⟨by simp [h.1], fun i hi => ?_⟩
  by_cases e : i = t
  · subst e
    simp [h.1, hi]
  · rw [Array.getElem?_setIfInBounds_ne (by omega), h.2 i hi]
    show some (Value.bool (f i)) = some (Value.bool (if (i : Int) = (t : Int) then v else f i))
    rw [if_neg (by omega)]
theorem Arr.congr {arr : Array Value} {f g : Int → Bool} (h : Arr arr f) (hg : ∀ z, 0 ≤ z → z < 256 → f z = g z) : Arr arr g := ⟨h.1, fun i hi => by rw [h.2 i hi, hg i (by omega) (by omega)]⟩
def z256 : Array Value := (List.replicate 256 (Value.bool false)).toArray
theorem infoZ : (Try.prog.info? 23).map (fun i => (i.zero, i.size, i.bytes)) = some (some (.agg z256), 256, 256) := by kernel_rfl
theorem zeroIn (w : World) : (zeroValue 23).run Try.prog w = .ok (.agg z256) w := by
  obtain ⟨i0, hi, hz0, hz1, hz2⟩ := info_parts infoZ
  simp [zeroValue, typeInfo, hi, hz0]
theorem arr0 : Arr z256 (fun _ => false) := ⟨by unfold z256; rw [List.size_toArray, List.length_replicate], fun i hi => by unfold z256; rw [List.getElem?_toArray, List.getElem?_replicate, if_pos hi]⟩
theorem infoIn : (Try.prog.info? 23).map (·.size) = some 256 := by kernel_rfl
theorem len256 {w : World} {b : Nat} {a : Option Addr} {cap : Nat} {L : List Rn} (h : St w b a cap L) : L.length ≤ 256 := by rw [← ends_count h.can h.bnd]; exact nb_le _ _ _
/-- what a step asks of a set -/
def stp (f : Int → Bool) (lo hi : Int) (g : Bool) (z : Int) : Bool := if lo ≤ z ∧ z ≤ hi then !g else f z
set_option maxHeartbeats 8000000 in
set_option maxRecDepth 20000 in
theorem runsMeaning_any (w : World) (a : Option Addr) (c : Nat) (T : List Sx) (hT : Sp w a T) (hb : ∀ t ∈ T, (0 ≤ t.1 ∧ t.1 ≤ 255) ∧ 0 ≤ t.2.1 ∧ t.2.1 ≤ 255) (hl : T.length ≤ 140737488355328) :
    Calls Try.prog 3 #[.slice a T.length c] w fun e w' => e = .returned (.bool true) ∧ Below w.heap.size w w' := by
  have N := hide fun W => New_none W
  obtain ⟨n, hn⟩ : ∃ n : Nat, n = T.length := ⟨_, rfl⟩
  have NT := hide hn
  rw [← hn] at hl ⊢
  have TT := hide hT
  clear hn hT
  have hz := zeroIn
  go_enter Try.func3, Try.ntmps3
  go_wp2_with fail
  refine (N.out _).mono ?_
  rintro e w1 ⟨b', a', cap', R, rfl, q1, q2, q3⟩
  have ha := al w (.cells z256 23)
  have nB := World.alloc_heap_new w (.cells z256 23)
  have sB := size_alloc w (.cells z256 23)
  have nB1 := (q1.w.block w.heap.size (by omega)).trans nB
  have hb' := q1.b
  have St1 := q1.st
  have ha1 := q1.a
  have bw1 := bt ha q1.w
  have A1 : Arr z256 (has R) := arr0.congr fun z _ _ => (q2 z).symm
  rw [sB] at hb' ha1
  clear q1 q2 q3 ha nB sB
  go_wp2_with fail
  obtain ⟨B, hB⟩ : ∃ B, B = w.heap.size := ⟨_, rfl⟩
  have HB := hide hB
  rw [← hB] at nB1 hb' ha1 ⊢
  have hbB : b' ≠ B := by omega
  have HB1 := hide hb'
  clear hB
  go_loopw [5] (fun i wx => ∃ k : Nat, k ≤ n ∧ i = .int .i64 k ∧ ∃ a' cap' R arr, St wx b' a' cap' R ∧ wx.heap[B]? = some (.cells arr 23 (0, 0)) ∧ Arr arr (has R) ∧ (∀ x, a' = some x → B + 1 ≤ x.block) ∧ Below w.heap.size w wx) (fun i _ => n - (intOf i).toNat)
  case atStart => exact ⟨0, Nat.zero_le _, rfl, a', cap', R, z256, St1, nB1, A1, ha1, bw1⟩
  case round =>
    clear St1 nB1 A1 ha1 bw1
    obtain ⟨k, hk, rfl, a', cap', R, arr, hS, hA0, hA, haa, hbw⟩ := hrel
    by_cases hlt : k < n
    · have hkT : k < T.length := by rw [← NT.out]; exact hlt
      obtain ⟨bs, o, rfl, hc⟩ : ∃ b o, a = some ⟨b, o, none⟩ ∧ ∀ i, i < T.length → w.cell? ⟨b, o + i * 3, none⟩ = some (.int .u8 (T.getD i Sx.zero).1) ∧ w.cell? ⟨b, o + i * 3 + 1, none⟩ = some (.int .u8 (T.getD i Sx.zero).2.1) ∧ w.cell? ⟨b, o + i * 3 + 2, none⟩ = some (.bool (T.getD i Sx.zero).2.2) := by
        rcases TT.out with h | h
        · rw [h] at hkT; simp at hkT
        · exact h
      obtain ⟨c1, c2, c3⟩ := hc k hkT
      obtain ⟨⟨t1, t2⟩, t3, t4⟩ := hb (T.getD k Sx.zero) (by simp [hkT])
      generalize T.getD k Sx.zero = t at *
      obtain ⟨lo, hi, g⟩ := t
      dsimp only at c1 c2 c3 t1 t2 t3 t4
      obtain ⟨p, rfl⟩ : ∃ p : Nat, lo = (p : Int) := ⟨lo.toNat, by omega⟩
      obtain ⟨q, rfl⟩ : ∃ q : Nat, hi = (q : Int) := ⟨hi.toNat, by omega⟩
      have C3 := hide (And.intro c1 (And.intro c2 c3))
      have CK := hide fun (W : World) (hb : Below w.heap.size w W) => (show W.cell? ⟨bs, o + k * 3, none⟩ = some (.int .u8 (p : Int)) ∧ W.cell? ⟨bs, o + k * 3 + 1, none⟩ = some (.int .u8 (q : Int)) ∧ W.cell? ⟨bs, o + k * 3 + 2, none⟩ = some (.bool g) from
        ⟨(hb.cell (p := ⟨bs, o + k * 3, none⟩) (block_lt_of_cell C3.out.1)).trans C3.out.1, (hb.cell (p := ⟨bs, o + k * 3 + 1, none⟩) (block_lt_of_cell C3.out.2.1)).trans C3.out.2.1, (hb.cell (p := ⟨bs, o + k * 3 + 2, none⟩) (block_lt_of_cell C3.out.2.2)).trans C3.out.2.2⟩)
      clear c1 c2 c3 hc C3
      obtain ⟨c1, c2, c3⟩ := CK.out wr hbw
      have x1 : (k : Int) < (n : Int) := by omega
      go_wp2
      obtain ⟨W2, hW2⟩ : ∃ W2, W2 = wr := ⟨_, rfl⟩
      have hS2 := hide (hW2 ▸ hS)
      have hbw2 := hide (hW2 ▸ hbw)
      go_loopw [6, 7] (fun m j wx => ∃ (t : Nat) (arr' : Array Value), j = .int .i64 t ∧ m = .int .i64 (nb (fun z => has R z == g) p (t - p)) ∧ p ≤ t ∧ t ≤ max p (q + 1) ∧ wx.heap[B]? = some (.cells arr' 23 (0, 0)) ∧ Arr arr' (stp (has R) p ((t : Int) - 1) g) ∧ But (fun x => x = B) W2 wx) (fun _ j _ => q + 1 - (intOf j).toNat)
      case atStart =>
        refine ⟨p, arr, rfl, by rw [Nat.sub_self]; rfl, Nat.le_refl _, by omega, hA0, hA.congr fun z _ _ => ?_, by rw [hW2]; exact But.refl _ _⟩
        unfold stp
        rw [if_neg (by omega)]
      case round =>
        clear hS hA0 hbw hW2 c1 c2 c3
        obtain ⟨t, arr', rfl, rfl, pt, tq, hA0, hAr, hBu⟩ := hrel
        have bW : Below w.heap.size w wr := ((But.ofBelow (S := fun _ => False) hbw2.out).trans hBu (fun x hx e => by have := HB.out; omega)).below (fun _ _ h => h)
        obtain ⟨c1, c2, c3⟩ := CK.out wr bW
        by_cases ht : t ≤ q
        · have ct := hAr.cell hA0 (show t < 256 by omega)
          have cf : wr.frozen? ⟨B, t, none⟩ = false := frozen_of_row _ _ _ _ _ hA0
          have es : stp (has R) p ((t : Int) - 1) g t = has R t := by unfold stp; rw [if_neg (by omega)]
          rw [es] at ct
          have x2 : (t : Int) < 256 := by omega
          have x3 : (t : Int) ≤ (q : Int) := by omega
          have ns := nb_succ (fun z => has R z == g) p (t - p)
          rw [show (p : Int) + ((t - p : Nat) : Int) = (t : Int) by omega, show t - p + 1 = t + 1 - p by omega] at ns
          have ml := nb_le (fun z => has R z == g) p (t - p)
          generalize nb (fun z => has R z == g) p (t - p) = m at *
          have NS := hide ns
          have nxt : ∀ arr2 v, Arr arr2 (fun z => if z = (t : Int) then v else stp (has R) p ((t : Int) - 1) g z) → v = !g → Arr arr2 (stp (has R) p (((t + 1 : Nat) : Int) - 1) g) := fun arr2 v h hv => h.congr fun z h1 h2 => by
            unfold stp
            by_cases e : z = (t : Int)
            · rw [if_pos e, if_pos (by omega), hv]
            · rw [if_neg e]
              by_cases e2 : (p : Int) ≤ z ∧ z ≤ (t : Int) - 1
              · rw [if_pos e2, if_pos (by omega)]
              · rw [if_neg e2, if_neg (by omega)]
          have AR := hide hAr
          have NX := hide nxt
          have HA0 := hide hA0
          have HBu := hide hBu
          have ml2 : m ≤ 256 := by omega
          clear ns es nxt hAr hA0 hBu
          by_cases hg : has R t = g
          · rw [hg] at ct NS
            have hgg : (g == g) = true := by simp
            have E : nb (fun z => has R z == g) p (t + 1 - p) = m + 1 := by rw [NS.out, hgg]; rfl
            have EE := hide E
            clear E NS hg
            go_wp2
            go_quiet (fail)
            go_wp2
            go_roundw
            case rel =>
              refine ⟨t + 1, arr'.setIfInBounds t (.bool !g), by simp, by rw [EE.out]; simp, by omega, by omega, ?_, NX.out _ (!g) (AR.out.set (by omega) _) rfl, ?_⟩
              · exact heap_setCell_same _ _ _ _ _ _ (show (wr.drewN nq).heap[B]? = _ from HA0.out)
              · exact (HBu.out.andBelow (drews _ _)).setCell (fun _ => rfl) _
            case measure => simp [intOf]; omega
          · have hgn : has R t = !g := by cases h1 : has R t <;> cases h2 : g <;> simp_all
            rw [hgn] at ct NS
            have hgg : ((!g) == g) = false := by cases g <;> rfl
            have E : nb (fun z => has R z == g) p (t + 1 - p) = m := by rw [NS.out, hgg]; rfl
            have EE := hide E
            have HG := hide hgn
            clear E NS hg hgn
            go_wp2
            go_quiet (fail)
            go_wp2
            go_roundw
            case rel =>
              refine ⟨t + 1, arr', by simp, by rw [EE.out], by omega, by omega, HA0.out, ?_, HBu.out.andBelow (drews _ _)⟩
              refine NX.out _ (!g) (AR.out.congr fun z h1 h2 => ?_) rfl
              by_cases e : z = (t : Int)
              · rw [if_pos e, e]
                unfold stp
                rw [if_neg (by omega)]
                exact HG.out
              · rw [if_neg e]
            case measure => simp [intOf]; omega
        · have x3 : ¬ (t : Int) ≤ (q : Int) := by omega
          have et : t - p = ((q : Int) - (p : Int) + 1).toNat := by omega
          rw [et]
          have hAq : Arr arr' (stp (has R) p q g) := hAr.congr fun z h1 h2 => by
            unfold stp
            by_cases e2 : (p : Int) ≤ z ∧ z ≤ (t : Int) - 1
            · rw [if_pos e2, if_pos (by omega)]
            · rw [if_neg e2, if_neg (by omega)]
          have hS3 := hS2.out.but hBu hbB (fun x hx e => by have h1 := haa x hx; have e' : x.block = B := e; omega)
          have l256 := len256 hS3
          have AQ := hide hAq
          have HA0 := hide hA0
          have x4 : 0 ≤ (p : Int) ∧ (p : Int) ≤ 255 := ⟨by omega, by omega⟩
          have x5 : 0 ≤ (q : Int) ∧ (q : Int) ≤ 255 := ⟨by omega, by omega⟩
          have T1 : Hid (Below w.heap.size w wr.drew) := hide (bt bW (drw wr))
          have S1 : wr.drew.cell? ⟨bs, o + k * 3, none⟩ = some (.int .u8 (p : Int)) ∧ wr.drew.cell? ⟨bs, o + k * 3 + 1, none⟩ = some (.int .u8 (q : Int)) := ⟨c1, c2⟩
          have ml := nb_le (fun z => has R z == g) p ((q : Int) - (p : Int) + 1).toNat
          have fin : ∀ (w6 : World) (a6 : Option Addr) (c6 : Nat) (R6 : List Rn), St w6 b' a6 c6 R6 → (∀ z, has R6 z = stp (has R) p q g z) → New wr.drew a' a6 → But (fun k => k = b' ∨ InA a' k) wr.drew w6 → (∃ a' cap' R arr, St w6 b' a' cap' R ∧ w6.heap[B]? = some (.cells arr 23 (0, 0)) ∧ Arr arr (has R) ∧ (∀ x, a' = some x → B + 1 ≤ x.block) ∧ Below w.heap.size w w6) := by
            intro w6 a6 c6 R6 s1 s2 s3 s4
            have sw := bW.size
            have eB := HB.out
            have nBb : ¬ (B = b' ∨ InA a' B) := fun h => by
              rcases h with h | ⟨x, hx, e⟩
              · exact hbB h.symm
              · have := haa x hx
                omega
            refine ⟨a6, c6, R6, arr', s1, s4.same (show wr.drew.heap[B]? = _ from HA0.out) nBb, AQ.out.congr fun z _ _ => (s2 z).symm, fun x hx => ?_, ?_⟩
            · rcases s3 x hx with ⟨y, hy, e⟩ | h
              · rw [← e]; exact haa y hy
              · have h' : wr.heap.size ≤ x.block := h
                have := (Array.getElem?_eq_some_iff.1 HA0.out).1
                omega
            · refine ((But.ofBelow (S := fun _ => False) T1.out).trans s4 (fun x hx h => ?_)).below (fun _ _ h => h)
              rcases h with h | ⟨y, hy, e⟩
              · omega
              · have := haa y hy
                omega
          have FF := hide fin
          clear fin hAr hAq hA0 hBu et
          cases g with
          | true =>
            have CR := Remove_any wr.drew b' a' cap' R p q (hS3.keep (drw wr)) x4 x5 (by omega)
            have em : nb (fun z => has R z == true) p ((q : Int) - (p : Int) + 1).toNat = nb (has R) p ((q : Int) - (p : Int) + 1).toNat := nb_congr fun x _ _ => by simp
            rw [em] at ml ⊢
            rw [show min (nb (has R) p ((q : Int) - (p : Int) + 1).toNat) mxi = nb (has R) p ((q : Int) - (p : Int) + 1).toNat by unfold mxi; omega] at CR
            have CR' := hide CR
            clear CR em
            generalize nb (has R) p ((q : Int) - (p : Int) + 1).toNat = m at *
            have hmm : ((m : Int) == (m : Int)) = true := by simp
            go_wp2
            go_region_held3 (fun w' => w'.cell? ⟨bs, o + k * 3, none⟩ = some (.int .u8 (p : Int)) ∧ w'.cell? ⟨bs, o + k * 3 + 1, none⟩ = some (.int .u8 (q : Int)))
              (with_reducible exact S1)
              (first | (go_at_call 5; with_reducible refine CR'.out.mono ?_; rintro e w6 ⟨rfl, a6, c6, R6, s1, s2, s3, s4, s5⟩; have F1 := hide (FF.out w6 a6 c6 R6 s1 (fun z => by rw [s2]; unfold stp; by_cases e : (p : Int) ≤ z ∧ z ≤ (q : Int); (· rw [if_pos e, decide_eq_true e.1, decide_eq_true e.2]; simp); (· rw [if_neg e, show (decide ((p : Int) ≤ z) && decide (z ≤ (q : Int))) = false by rw [Bool.and_eq_false_iff, decide_eq_false_iff_not, decide_eq_false_iff_not]; omega]; simp)) s4 s5); have S1 := And.intro (CK.out w6 F1.out.choose_spec.choose_spec.choose_spec.choose_spec.2.2.2.2).1 (CK.out w6 F1.out.choose_spec.choose_spec.choose_spec.choose_spec.2.2.2.2).2.1; clear s1 s2 s3 s4 s5))
            go_wp2
            go_roundw
            case rel => exact ⟨k + 1, by omega, by simp, F1.out⟩
            case measure => simp [intOf]; omega
          | false =>
            have CR := Add_any wr.drew b' a' cap' R p q (hS3.keep (drw wr)) x4 x5 (by omega)
            have em : nb (fun z => has R z == false) p ((q : Int) - (p : Int) + 1).toNat = nb (fun z => !has R z) p ((q : Int) - (p : Int) + 1).toNat := nb_congr fun x _ _ => by simp
            rw [em] at ml ⊢
            rw [show min (nb (fun z => !has R z) p ((q : Int) - (p : Int) + 1).toNat) mxi = nb (fun z => !has R z) p ((q : Int) - (p : Int) + 1).toNat by unfold mxi; omega] at CR
            have CR' := hide CR
            clear CR em
            generalize nb (fun z => !has R z) p ((q : Int) - (p : Int) + 1).toNat = m at *
            have hmm : ((m : Int) == (m : Int)) = true := by simp
            go_wp2
            go_region_held3 (fun w' => w'.cell? ⟨bs, o + k * 3, none⟩ = some (.int .u8 (p : Int)) ∧ w'.cell? ⟨bs, o + k * 3 + 1, none⟩ = some (.int .u8 (q : Int)))
              (with_reducible exact S1)
              (first | (go_at_call 6; with_reducible refine CR'.out.mono ?_; rintro e w6 ⟨rfl, a6, c6, R6, s1, s2, s3, s4, s5⟩; have F1 := hide (FF.out w6 a6 c6 R6 s1 (fun z => by rw [s2]; unfold stp; by_cases e : (p : Int) ≤ z ∧ z ≤ (q : Int); (· rw [if_pos e, decide_eq_true e.1, decide_eq_true e.2]; simp); (· rw [if_neg e, show (decide ((p : Int) ≤ z) && decide (z ≤ (q : Int))) = false by rw [Bool.and_eq_false_iff, decide_eq_false_iff_not, decide_eq_false_iff_not]; omega]; simp)) s4 s5); have S1 := And.intro (CK.out w6 F1.out.choose_spec.choose_spec.choose_spec.choose_spec.2.2.2.2).1 (CK.out w6 F1.out.choose_spec.choose_spec.choose_spec.choose_spec.2.2.2.2).2.1; clear s1 s2 s3 s4 s5))
            go_wp2
            go_roundw
            case rel => exact ⟨k + 1, by omega, by simp, F1.out⟩
            case measure => simp [intOf]; omega
    · obtain rfl : k = n := by omega
      have M := hide (meant_any wr b' a' cap' R hS arr hA)
      have hsz : (Try.prog.info? 23).map (·.size) = some arr.size := by rw [hA.1]; exact infoIn
      go_wp2_with (refine wpList_load_row rfl 23 _ rfl B rfl 23 arr (0, 0) _ hA0 Try.underlying23 rfl hsz ?_)
      refine M.out.mono ?_
      rintro e w7 ⟨rfl, hb7⟩
      go_wp2
      go_ret
      exact ⟨rfl, bt hbw hb7⟩
end Go.Proofs.Ytlgkallaicnbjaa
