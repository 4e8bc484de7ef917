import Derived.Test.YtlkjpljfbmploaaQE
namespace Go.Proofs.Ytlkjpljfbmploaa
open Go.RowKit

set_option maxRecDepth 100000 in
set_option maxHeartbeats 4000000 in
theorem state_any (w : World) (bx : Nat) (F : Nat → Prop) (N : Nat) (b : Bool) (h : Look w bx F N b) (hN : N + 3 ≤ 2932031007410) :
    Calls Try.prog 17 #[.pointer (some ⟨bx, 0, none⟩)] w fun e w' => e = .returned (.bool true) ∧ Look w' bx (ext F w w') (N + 3) b ∧ But F w w' := by
  have H := hide h
  clear h
  have R1 := hide (read_any w bx F N b ⟨9, 0, none, 0, [], 0⟩ H.out (by show (0 : Int) ≤ 9223372036854775807; decide) (by omega))
  unfold Fd.cells at R1
  dsimp only at R1
  go_enter Try.func17, Try.ntmps17
  go_wp2_with fail
  refine R1.out.mono ?_
  rintro e w1 ⟨rfl, h1, hb1⟩
  have R2 := hide (read_any w1 bx _ (N + 1) b ⟨7, 0, none, 0, [], 0⟩ h1 (by show (0 : Int) ≤ 9223372036854775807; decide) (by omega))
  unfold Fd.cells at R2
  dsimp only at R2
  have HB1 := hide hb1
  clear h1 hb1
  go_wp2_with fail
  refine R2.out.mono ?_
  rintro e w2 ⟨rfl, h2, hb2⟩
  obtain ⟨h2', hb2'⟩ := Look.step H.out.1 HB1.out h2 hb2
  have R3 := hide (read_any w2 bx _ (N + 1 + 1) b ⟨6, 0, none, 0, [], 0⟩ h2' (by show (0 : Int) ≤ 9223372036854775807; decide) (by omega))
  unfold Fd.cells at R3
  dsimp only at R3
  have HB2 := hide hb2'
  clear h2 hb2 h2' hb2'
  go_wp2_with fail
  refine R3.out.mono ?_
  rintro e w3 ⟨rfl, h3, hb3⟩
  have H3 := hide (Look.step H.out.1 HB2.out h3 hb3)
  clear h3 hb3
  go_wp2
  go_ret
  exact ⟨rfl, H3.out⟩

/-- two new readers -/
theorem newLook {w2 w3 w4 : World} {bp : Nat} {ap : Option Addr} {cp bq : Nat} {aq : Option Addr} {cq : Nat} {l : List Nat} (h3 : Rd w3 bp ap cp ⟨l, 0⟩) (hp : w2.heap.size ≤ bp) (hN3 : New w2 none ap) (hb3 : Below w2.heap.size w2 w3) (h4 : Rq w4 bq aq cq l ⟨l, 0⟩) (hq : w3.heap.size ≤ bq) (hN4 : New w3 none aq) (hb4 : Below w3.heap.size w3 w4) (hl : l.length + 64 ≤ 140737488355328) :
    Look (w4.alloc (.cells #[.pointer (some ⟨bp, 0, none⟩), .pointer (some ⟨bq, 0, none⟩), .slice none 0 0] 45)) w4.heap.size (ext (fun _ => False) w2 (w4.alloc (.cells #[.pointer (some ⟨bp, 0, none⟩), .pointer (some ⟨bq, 0, none⟩), .slice none 0 0] 45))) 0 true := by
  have hs3 := hb3.size
  have hs4 := hb4.size
  have l3 := h3.lt
  have l4 := h4.lt
  have h3' := h3.keep hb4
  have b5 : Below w4.heap.size w4 (w4.alloc (.cells #[.pointer (some ⟨bp, 0, none⟩), .pointer (some ⟨bq, 0, none⟩), .slice none 0 0] 45)) := (Below.refl _ _).alloc (Nat.le_refl _) _
  have hap : ∀ k, AF ap ⟨l, 0⟩ k → w2.heap.size ≤ k ∧ k < w3.heap.size := by
    rintro k ⟨y, hy, hl, rfl⟩
    rcases hN3 y hy with ⟨z, hz, _⟩ | h
    · cases hz
    · exact ⟨h, h3.2.1.lt hy hl⟩
  refine ⟨ext_lt (fun _ h => h.elim) (by rw [size_alloc]; omega), bp, ap, cp, bq, aq, cq, l, none, 0, 0, fun _ => none, fun _ => 0, fun _ => [], ⟨l, 0⟩, Nat.le_refl _, ⟨heap_alloc_new _ _, h3'.keep b5, h4.keep b5, ⟨Ar.nil _, fun i hi => by simp [trk] at hi, fun i j hi => by simp [trk] at hi, fun i hi => by simp [trk] at hi⟩, fun k hk => ?_, fun i hi => by simp [trk] at hi, hl⟩, fun k hk => .inr ?_⟩
  · have := hap k hk
    refine ⟨by omega, by omega, ?_⟩
    rintro (⟨x, hx, _⟩ | ⟨i, hi, _⟩)
    · cases hx
    · simp [trk] at hi
  · rw [size_alloc]
    rcases hk with rfl | rfl | hk | (rfl | ⟨x, hx, rfl⟩) | ⟨x, hx, _⟩ | ⟨i, hi, _⟩
    · exact ⟨by omega, by omega⟩
    · exact ⟨by omega, by omega⟩
    · have := hap k hk; exact ⟨by omega, by omega⟩
    · exact ⟨by omega, by omega⟩
    · have h9 := h4.row.lt hx
      rcases hN4 x hx with ⟨z, hz, _⟩ | h
      · cases hz
      · exact ⟨by omega, by omega⟩
    · cases hx
    · simp [trk] at hi
/-- what was told is looked at: from then on it is not tracked -/
theorem LC.loose {w w1 : World} {bx bp : Nat} {ap : Option Addr} {cp bq : Nat} {aq : Option Addr} {cq : Nat} {full : List Nat} {at' : Option Addr} {ct n : Nat} {A : Nat → Option Addr} {C : Nat → Nat} {L : Nat → List Nat} {s t : RS} (h : LC w bx bp ap cp bq aq cq full at' ct n n A C L s t) (hb : But (InRows n A) w w1) : LC w1 bx bp ap cp bq aq cq full at' ct n 0 A C L s t := by
  have ne : ∀ {b : Nat} {c : Array Value} {T : TypeId} {f : Nat × Nat}, w.heap[b]? = some (.cells c T f) → T ≠ 5 → ¬ InRows n A b := by
    rintro b c T f hb' hT ⟨i, hi, x, hx, e⟩
    obtain ⟨cur, hg⟩ := (h.told.2.1 i hi).type hx
    exact ne_type hg hb' hT.symm e
  obtain ⟨cq', hqh⟩ := h.r.head
  refine ⟨(hb.block bx (Array.getElem?_eq_some_iff.1 h.x).1 (ne h.x (by decide))).trans h.x, h.p.but' hb (ne h.p.1 (by decide)) fun k hk e => (h.sp k hk).2.2 (.inr e), h.r.but hb ?_, ⟨h.told.1.but hb fun x hx => ?_, fun i hi => by omega, fun i j hi => by omega, fun i hi => by omega⟩, fun k hk => ⟨(h.sp k hk).1, (h.sp k hk).2.1, ?_⟩, fun i hi => by omega, h.hl⟩
  · rintro k (rfl | ⟨z, hz, rfl⟩) e
    · exact ne hqh (by decide) e
    · obtain ⟨i, hi, x, hx, e⟩ := e
      exact h.sq i hi x z hx hz e
  · obtain ⟨cur, hg⟩ := h.told.1.type hx
    exact ne hg (by decide)
  · rintro (e | ⟨i, hi, _⟩)
    · exact (h.sp k hk).2.2 (.inl e)
    · omega

set_option maxRecDepth 100000 in
set_option maxHeartbeats 8000000 in
theorem wireReads_any (w : World) (aa : Option Addr) (capa : Nat) (l : List Nat) (hB : Bs w aa l) (hlen : l.length + 64 ≤ 140737488355328) (af : Option Addr) (m capf : Nat) (G : Nat → Fd) (hF : FdsO w af m G) (hm : m ≤ 2932031007402) :
    Calls Try.prog 4 #[.slice aa l.length capa, .slice af m capf] w fun x w' => x = .returned (.bool true) ∧ Below w.heap.size w w' := by
  have HF := hide hF
  have HB := hide hB
  have SP := hide (Spare_any w aa l.length capa l hB rfl (by omega))
  clear hF hB
  go_enter Try.func4, Try.ntmps4
  go_wp2_with fail
  refine SP.out.mono ?_
  rintro e w2 ⟨rfl, hrow, hb2⟩
  have HROW := hide hrow
  have HB2 := hide hb2
  have HSZ : Hid (w.heap.size < w2.heap.size) := hrow.lt
  have NR := hide (NewReader_any w2 (some ⟨w.heap.size, 0, none⟩) l.length (l.length + 64) l (spare_bs hrow (by omega) HB.out.1 HB.out.2.1) rfl (by omega))
  clear hrow hb2
  go_wp2_with fail
  refine NR.out.mono ?_
  rintro e w3 ⟨bp, ap, cp, rfl, h3, hp3, hN3, hb3⟩
  have RN := hide (rNewReader_any w3 aa l.length capa l ((HB.out.keep HB2.out).keep (hb3)) rfl (by omega))
  have H3 := hide h3
  have HP3 := hide hp3
  have HN3 := hide hN3
  have HB3 := hide hb3
  clear h3 hp3 hN3 hb3
  go_wp2_with fail
  refine RN.out.mono ?_
  rintro e w4 ⟨bq, aq, cq, rfl, h4, hp4, hN4, hb4⟩
  have HW := hide (newLook H3.out HP3.out HN3.out HB3.out h4 hp4 hN4 hb4 hlen)
  have HB24 : Hid (Below w2.heap.size w2 w4) := bt HB3.out hb4
  have b5 : Below w4.heap.size w4 (w4.alloc (.cells #[.pointer (some ⟨bp, 0, none⟩), .pointer (some ⟨bq, 0, none⟩), .slice none 0 0] 45)) := (Below.refl _ _).alloc (Nat.le_refl _) _
  have HB25 := hide (bt HB24.out b5)
  have HB5 := hide (bt HB2.out HB25.out)
  have c5 : (w4.alloc (.cells #[.pointer (some ⟨bp, 0, none⟩), .pointer (some ⟨bq, 0, none⟩), .slice none 0 0] 45)).cell? ⟨w4.heap.size, 0, none⟩ = some (.pointer (some ⟨bp, 0, none⟩)) := by simp
  have KP := hide (Kept_any _ w.heap.size (l.length + 64) aa l.length l.length capa l (rowIs_below HROW.out HB25.out) (HB.out.keep HB5.out) rfl rfl rfl (by omega))
  clear h4 hp4 hN4 hb4 b5 H3 HP3 HN3
  go_wp2_with fail
  generalize hbx : w4.heap.size = bx at *
  have HR5 := hide (rowIs_below HROW.out HB25.out)
  generalize w4.alloc (.cells #[.pointer (some ⟨bp, 0, none⟩), .pointer (some ⟨bq, 0, none⟩), .slice none 0 0] 45) = w5 at *
  refine KP.out.mono ?_
  rintro e w6 ⟨rfl, hb6⟩
  obtain ⟨hz, hhz⟩ := spF_int l
  have HR6 := hide ((rowIs_below HR5.out hb6).congr (g := fun i => .int .u8 (hz i)) fun i _ => hhz i)
  have HB6 := hide (bt HB5.out hb6)
  have HW6 := hide (HW.out.but (S := fun _ => False) (But.ofBelow hb6) fun _ _ h => h)
  have HF0 : Hid (∀ k, ext (fun _ => False) w2 w5 k → w2.heap.size ≤ k) := fun k hk => by
    rcases hk with h | h
    · exact h.elim
    · exact h.1
  generalize ext (fun _ => False) w2 w5 = F0 at *
  clear hhz hb6 c5 HW HR5 KP
  go_wp2
  go_loopw [7] (fun i wx => ∃ (j : Nat) (q : Nat → Int), j ≤ l.length ∧ i = .int .i64 j ∧ (wx.rowIs w.heap.size 5 (l.length + 64) (fun i => .int .u8 (q i)) ∧ But (fun k => k = w.heap.size) w6 wx)) (fun i _ => l.length - (intOf i).toNat)
  case atStart => exact ⟨0, hz, Nat.zero_le _, rfl, HR6.out, But.refl _ _⟩
  case round =>
    obtain ⟨j, q, hj, rfl, hG⟩ := hrel
    have HG := hide hG
    clear hG
    by_cases hlt : j < l.length
    · have hi : (j : Int) < (l.length : Int) := by omega
      have cg := HG.out.1.cell (i := j) (by omega)
      have fg := HG.out.1.frozen j
      generalize hq : q j = qj at cg
      go_wp2
      go_roundw
      case rel =>
        refine ⟨j + 1, fun i => if i = j then (bits BinOp.xor IntKind.u8 (if IntKind.u8.signed = true then -1 else IntKind.u8.max) qj) else q i, by omega, by go_num, (HG.out.1.set j _).congr fun i hi => ?_, HG.out.2.setCell (p := ⟨w.heap.size, j, none⟩) (fun _ => rfl) _⟩
        dsimp only
        split <;> rfl
      case measure => simp [intOf]; omega
    · obtain rfl : j = l.length := by omega
      have HW7 := hide (HW6.out.but HG.out.2 fun k hk e => by have h8 := HF0.out k hk; have h9 := HSZ.out; omega)
      have HB7 : Hid (But (fun _ => False) w wr) := (But.ofBelow HB6.out).trans HG.out.2 fun x hx e => by omega
      have HF1 : Hid (∀ k, F0 k → w.heap.size ≤ k) := fun k hk => Nat.le_trans (Nat.le_of_lt HSZ.out) (HF0.out k hk)
      clear HG HW6 HB6 HR6 HF0
      go_wp2
      obtain ⟨w7, hw7⟩ : ∃ x, x = wr := ⟨_, rfl⟩
      subst hw7
      have HFL := hide HW7.out.1
      go_loopw [8, 9] (fun i _ wx => ∃ j : Nat, j ≤ m ∧ i = .int .i64 j ∧ (Look wx bx (ext F0 w7 wx) j true ∧ But F0 w7 wx)) (fun i _ _ => m - (intOf i).toNat)
      case atStart => exact ⟨0, Nat.zero_le _, rfl, HW7.out.mono (fun _ h => .inl h) (ext_lt HW7.out.1 (Nat.le_refl _)) (Nat.le_refl _), But.refl _ _⟩
      case round =>
        clear HW7
        obtain ⟨j, hj, rfl, hG⟩ := hrel
        have HG := hide hG
        clear hG
        by_cases hlt : j < m
        · have hi : (j : Int) < (m : Int) := by omega
          rcases HF.out with h0 | ⟨bf, off, rfl, hFF⟩
          · omega
          obtain ⟨hat, hok⟩ := hFF j hlt
          obtain ⟨e0, e1, e2, e3⟩ := hat.but (S := fun _ => False) (HB7.out.trans HG.out.2 fun k hk h => by have := HF1.out k h; omega) id
          have WR := hide (read_any wr bx _ j true (G j) HG.out.1 hok.2.1 (by omega))
          unfold Fd.cells at WR
          clear hFF hat hok
          go_wp2_with fail
          refine WR.out.mono ?_
          rintro e w8 ⟨rfl, h8, hb8⟩
          have H8 := hide (Look.step HFL.out HG.out.2 h8 hb8)
          clear h8 hb8 e0 e1 e2 e3
          go_wp2
          go_roundw
          case rel => exact ⟨j + 1, by omega, by go_num, H8.out⟩
          case measure => simp [intOf]; omega
        · obtain rfl : m = j := by omega
          obtain ⟨hFx, bp, ap, cp, bq, aq, cq, full, at', ct, n, A, C, L, s, hnN, hc0, hcl⟩ := HG.out.1
          have hc : LC wr bx bp ap cp bq aq cq full at' ct n n A C L s s := hc0
          have e2 := hc.fx2
          have AP := hide (Apart_some wr at' ct n A C L hc.told.1 hc.told.2.1 hc.told.2.2.1 (by omega) hc.told.2.2.2)
          have HC := hide hc
          have HCL : Hid (∀ k, LF bx bp ap s bq aq at' n A k → ext F0 w7 wr k) := hcl
          have HGB := hide HG.out.2
          clear hc hcl hFx HG hc0
          go_wp2_with fail
          refine AP.out.mono ?_
          rintro e w8 ⟨rfl, hb8⟩
          have hb8' : But F0 w7 w8 := but_ext HGB.out (hb8.mono fun k _ hk => HCL.out k (.inr (.inr (.inr (.inr (.inr hk))))))
          have hW8 : Look w8 bx (ext F0 w7 w8) m false := ⟨ext_lt HFL.out hb8'.size, bp, ap, cp, bq, aq, cq, full, at', ct, n, A, C, L, s, hnN, HC.out.loose hb8, fun k hk => by
            have h7 : ext F0 w7 wr k := HCL.out k (by
              rcases hk with e | e | e | e | e | ⟨i, hi, _⟩
              · exact .inl e
              · exact .inr (.inl e)
              · exact .inr (.inr (.inl e))
              · exact .inr (.inr (.inr (.inl e)))
              · exact .inr (.inr (.inr (.inr (.inl e))))
              · simp [trk] at hi)
            rcases h7 with h | h
            · exact .inl h
            · exact .inr ⟨h.1, by have := hb8.size; omega⟩⟩
          have HB8 := hide hb8'
          have ST := hide (state_any w8 bx _ m false hW8 (by omega))
          clear hb8 hb8' hW8 e2 HC HCL HGB AP
          go_wp2_with fail
          refine ST.out.mono ?_
          rintro e w9 ⟨rfl, h9, hb9⟩
          obtain ⟨hW9, hb9'⟩ := Look.step HFL.out HB8.out h9 hb9
          have HW9 := hide hW9
          have HB9 := hide hb9'
          obtain ⟨_, bp, ap, cp, bq, aq, cq, full, at', ct, n, A, C, L, s, _, hc9, _⟩ := hW9
          have f1 := hc9.fx1
          have LT := hide (rqLeft_any w9 bq aq cq full s hc9.r)
          have hsl : (s.l.length : Int) ≤ 9223372036854775807 := by have h1 := hc9.r.left.1; have h2 := hc9.hl; omega
          clear h9 hb9 hb9' hc9 ST
          go_wp2_with fail
          refine LT.out.mono ?_
          rintro e w10 ⟨rfl, hb10⟩
          have hW10 := HW9.out.but (S := fun _ => False) (But.ofBelow hb10) fun _ _ h => h
          have hB10 : But F0 w7 w10 := HB9.out.andBelow hb10
          have hW10' : Look w10 bx (ext F0 w7 w10) (m + 3) false := hW10.mono (fun k hk => by
            rcases hk with h | h
            · exact .inl h
            · exact .inr ⟨h.1, by have := hb10.size; omega⟩) (ext_lt HFL.out hB10.size) (Nat.le_refl _)
          have HB10 := hide hB10
          have RR := hide (read_any w10 bx _ (m + 3) false ⟨0, 0, none, 0, [], (s.l.length : Int)⟩ hW10' hsl (by omega))
          unfold Fd.cells at RR
          dsimp only at RR
          clear hb10 hW10 hW10' hB10 f1 HW9 HB9 LT
          go_wp2_with fail
          refine RR.out.mono ?_
          rintro e w11 ⟨rfl, h11, hb11⟩
          obtain ⟨hW11, hb11'⟩ := Look.step HFL.out HB10.out h11 hb11
          have HB11 := hide hb11'
          have S2 := hide (state_any w11 bx _ (m + 3 + 1) false hW11 (by omega))
          clear h11 hb11 hW11 hb11' RR
          go_wp2_with fail
          refine S2.out.mono ?_
          rintro e w12 ⟨rfl, h12, hb12⟩
          have HB12 := hide (but_ext HB11.out hb12)
          clear h12 hb12
          go_wp2
          go_ret
          exact ⟨rfl, (HB7.out.trans HB12.out fun k hk h => by have := HF1.out k h; omega).below fun _ _ h => h⟩
end Go.Proofs.Ytlkjpljfbmploaa
