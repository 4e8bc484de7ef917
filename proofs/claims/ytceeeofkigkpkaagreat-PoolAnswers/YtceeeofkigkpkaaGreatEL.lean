import Derived.Test.YtceeeofkigkpkaaGreatEK
namespace Go.Proofs.YtceeeofkigkpkaaGreat
set_option linter.unusedVariables false
open Go.RowKit

def pgOf (C : List Int) : List Pg := C.map fun c => (c, decide (0 < c))
theorem pgOf_length (C : List Int) : (pgOf C).length = C.length := by simp [pgOf]
theorem pgOf_snoc {C : List Int} {i : Nat} (h : i < C.length) : pgOf (C.take (i + 1)) = pgOf (C.take i) ++ [(C.getD i 0, decide (0 < C.getD i 0))] := by
  unfold pgOf
  rw [take_next C 0 h, List.map_append]; rfl
/-- a pool whose first pages are filled -/
structure Pf (w wr : World) (b : Nat) (r : Int) (C : List Int) (i : Nat) (D : Pd) (col : Nat → Nat) : Prop where
  q : Pq wr b ⟨r, pgOf (C.take i) ++ List.replicate (C.length - i) Pg.zero, [], 0⟩ D col
  m : ∀ s, s < 5 → ∀ z, has (D.L s) z = inS (pgOf (C.take i)) s z
  bl : Below w.heap.size w wr
  nw : ∀ k, col k ≠ 0 → w.heap.size ≤ k
theorem Pf.len {w wr : World} {b : Nat} {r : Int} {C : List Int} {i : Nat} {D : Pd} {col : Nat → Nat} (h : Pf w wr b r C i D col) (hi : i ≤ C.length) : (pgOf (C.take i) ++ List.replicate (C.length - i) Pg.zero).length = C.length := by
  rw [List.length_append, pgOf_length, List.length_take, List.length_replicate]; omega
theorem Pf.few {w wr : World} {b : Nat} {r : Int} {C : List Int} {i : Nat} {D : Pd} {col : Nat → Nat} (h : Pf w wr b r C i D col) (hC : C.length ≤ 65536) {s : Nat} (hs : s < 5) : (D.L s).length ≤ 65536 := by
  refine can_few (h.q.set s hs).can fun q hq => ?_
  have hle := (h.q.set s hs).can.1 q hq
  have h1 := (inS_iff.1 ((h.m s hs q.1).symm.trans ((has_iff _ _).2 ⟨q, hq, Int.le_refl _, hle⟩))).1
  have h2 := (inS_iff.1 ((h.m s hs q.2).symm.trans ((has_iff _ _).2 ⟨q, hq, hle, Int.le_refl _⟩))).2.1
  rw [pgOf_length, List.length_take] at h2
  omega
theorem inS_snoc (P : List Pg) (x : Pg) (s : Nat) (z : Int) : inS (P ++ [x]) s z = (inS P s z || (decide (z = ((P.length + 1 : Nat) : Int)) && decide (stt x = s))) := by
  by_cases hz : z = ((P.length + 1 : Nat) : Int)
  · rw [decide_eq_true hz, Bool.true_and]
    have e1 : inS P s z = false := by
      unfold inS
      rw [decide_eq_false (show ¬ z ≤ (P.length : Int) by omega)]; simp
    rw [e1, Bool.false_or, hz, inS_at (by omega) (by simp)]
    congr 1
    rw [Nat.add_sub_cancel, List.getD_eq_getElem?_getD, List.getElem?_append_right (Nat.le_refl _), Nat.sub_self]
    rfl
  · rw [decide_eq_false hz, Bool.false_and, Bool.or_false]
    unfold inS
    rw [List.length_append, List.length_singleton]
    by_cases h1 : 1 ≤ z
    · by_cases h2 : z ≤ (P.length : Int)
      · rw [decide_eq_true h2, decide_eq_true (show z ≤ ((P.length + 1 : Nat) : Int) by omega)]
        rw [List.getD_eq_getElem?_getD, List.getElem?_append_left (by omega), ← List.getD_eq_getElem?_getD]
      · rw [decide_eq_false h2, decide_eq_false (show ¬ z ≤ ((P.length + 1 : Nat) : Int) by omega)]
        simp
    · rw [decide_eq_false h1]; simp
theorem set_fill {C : List Int} {i : Nat} (h : i < C.length) (x : Pg) : (pgOf (C.take i) ++ List.replicate (C.length - i) Pg.zero).set i x = pgOf (C.take i) ++ x :: List.replicate (C.length - (i + 1)) Pg.zero := by
  have hl : (pgOf (C.take i)).length = i := by rw [pgOf_length, List.length_take]; omega
  rw [List.set_append_right _ _ (by omega), hl, Nat.sub_self]
  obtain ⟨m, hm⟩ : ∃ m, C.length - i = m + 1 := ⟨C.length - i - 1, by omega⟩
  rw [hm, List.replicate_succ, List.set_cons_zero, show C.length - (i + 1) = m by omega]
set_option maxHeartbeats 8000000 in
set_option maxRecDepth 8000 in
theorem filled_any (w : World) (r : Int) (a : Option Addr) (cap : Nat) (C : List Int) (hC : Ir w a C) (h1 : 1 ≤ C.length) (h2 : C.length ≤ 65536) (hr : 2 ≤ r ∧ r < 65536) (hc : ∀ c ∈ C, 0 ≤ c ∧ c ≤ r) :
    Calls Tryz.prog 46 #[.int .i64 r, .slice a C.length cap] w fun e w' => ∃ b col, e = .returned (.pointer (some ⟨b, 0, none⟩)) ∧ Pl w' b (Po.start r C) col ∧ Below w.heap.size w w' ∧ ∀ k, col k ≠ 0 → w.heap.size ≤ k := by
  have hmk := make_pgs C.length h2 w
  rw [made_pgs] at hmk
  have HC := hide hC
  have HH := hide hc
  have HR := hide hr
  clear hC hc hr
  obtain ⟨n, hn⟩ : ∃ n, C.length = n := ⟨_, rfl⟩
  have HN := hide hn
  rw [hn] at hmk h1 h2 ⊢
  clear hn
  obtain ⟨W1, hW1⟩ : ∃ W1, (w.alloc (.cells (pgc (List.replicate n Pg.zero)).toArray 74)).alloc (.cells #[.int .i64 r, .slice (some ⟨w.heap.size, 0, none⟩) n n, .pointer none, .pointer none, .pointer none, .pointer none, .pointer none, .slice none 0 0, .int .i64 0] 70) = W1 := ⟨_, rfl⟩
  have Z0 := hide (show Pz w W1 (w.heap.size + 1) r n (nilPd w.heap.size) 0 (fun k => if k = w.heap.size + 1 then 1 else if k = w.heap.size then 2 else 0) by
    have sz : W1.heap.size = w.heap.size + 1 + 1 := by rw [← hW1, size_alloc, size_alloc]
    refine ⟨?_, ?_, fun t ht => by omega, fun t ht => by omega, ⟨rfl, rfl, rfl⟩, by simp, by simp [nilPd], fun t ht => by omega, fun t ht => by omega, fun k hk => ?_, ?_⟩
    · rw [← hW1]
      have c := World.alloc_heap_new (w.alloc (.cells (pgc (List.replicate n Pg.zero)).toArray 74)) (.cells #[.int .i64 r, .slice (some ⟨w.heap.size, 0, none⟩) n n, .pointer none, .pointer none, .pointer none, .pointer none, .pointer none, .slice none 0 0, .int .i64 0] 70)
      rwa [size_alloc] at c
    · rw [← hW1]
      have c := World.alloc_heap_new w (.cells (pgc (List.replicate n Pg.zero)).toArray 74)
      exact ((al _ _).block w.heap.size (Array.getElem?_eq_some_iff.1 c).1).trans c
    · rw [sz]
      split at hk
      · omega
      · split at hk
        · omega
        · exact absurd rfl hk
    · rw [← hW1]; exact bt (al _ _) (al _ _))
  have HW1 := hide hW1
  clear hW1
  go_enter Tryz.func46, Tryz.ntmps46
  go_wp2_with fail
  rw [HW1.out]
  clear hmk HW1
  go_loopw [16] (fun i wr => ∃ (s : Nat) (D : Pd) (col : Nat → Nat), s ≤ 5 ∧ i = .int .i64 (s : Int) ∧ Pz w wr (w.heap.size + 1) r n D s col) (fun i _ => 5 - (intOf i).toNat)
  case atStart => exact ⟨0, _, _, by omega, rfl, Z0.out⟩
  case round =>
    obtain ⟨s, D, col, hs, rfl, hz⟩ := hrel
    have HZ := hide hz
    clear hz Z0
    by_cases hlt : s < 5
    · have cb := cell_of_row _ _ (2 + s) _ _ _ HZ.out.box
      have cS : wr.cell? ⟨w.heap.size + 1, 2 + s, none⟩ = some (.pointer none) := by
        rw [cb]
        rcases lt5 hlt with rfl | rfl | rfl | rfl | rfl <;> rfl
      have fS : wr.frozen? ⟨w.heap.size + 1, 2 + s, none⟩ = false := by simp [World.frozen?, HZ.out.box]
      have hi5 : (s : Int) < 5 := by omega
      clear cb
      go_wp2_with fail
      go_region_with (go_at_call 57; refine (New_none _).mono ?_; rintro _ w3 ⟨b', a', c', R, rfl, hN, hR, -⟩; have c3 := (hN.w.cell (p := ⟨w.heap.size + 1, 2 + s, none⟩) (block_lt_of_cell cS)).trans cS; have f3 := (hN.w.frozen (p := ⟨w.heap.size + 1, 2 + s, none⟩) (block_lt_of_cell cS)).trans fS; have HZ2 := hide (HZ.out.next hlt (drw wr) hN hR); clear hN hR)
      all_goals
        clear c3 f3
        go_wp2
        go_roundw
      all_goals first
        | exact ⟨s + 1, _, _, by omega, by go_num, HZ2.out⟩
        | (simp [intOf]; omega)
    · have h5 : (s : Int) = 5 := by omega
      have HZ : Hid (Pz w wr (w.heap.size + 1) r n D 5 col) := hide (by have z := HZ.out; rw [show s = 5 by omega] at z; exact z)
      rw [h5]
      clear h5 hs hlt
      have F0 := hide (show Pf w wr (w.heap.size + 1) r C 0 D col from ⟨by
          rw [List.take_zero, Nat.sub_zero, HN.out]; exact HZ.out.done, fun t ht z => by
          rw [HZ.out.emp t ht z, List.take_zero]
          unfold inS
          rw [show (pgOf []).length = 0 from rfl]
          by_cases hz : 1 ≤ z
          · rw [decide_eq_false (show ¬ z ≤ ((0 : Nat) : Int) by omega)]; simp
          · rw [decide_eq_false hz]; simp, HZ.out.bl, fun k hk => (HZ.out.lt k hk).2⟩)
      generalize w.heap.size + 1 = b at *
      clear HZ
      go_wp2_with fail
      go_loopw [28] (fun i wr => ∃ (k : Nat) (D : Pd) (col : Nat → Nat), k ≤ n ∧ i = .int .i64 (k : Int) ∧ Pf w wr b r C k D col) (fun i _ => n - (intOf i).toNat)
      case atStart => exact ⟨0, _, _, by omega, rfl, F0.out⟩
      case round =>
        clear F0
        obtain ⟨i, D, col, hi, rfl, hf⟩ := hrel
        have HF := hide hf
        clear hf
        by_cases hlt : i < n
        · have hil : i < C.length := by rw [HN.out]; exact hlt
          obtain ⟨b1, o1, rfl, cA⟩ := (HC.out.keep HF.out.bl).at hil
          have hcm := HH.out (C.getD i 0) (by simp [hil])
          obtain ⟨c, hc⟩ : ∃ c, C.getD i 0 = c := ⟨_, rfl⟩
          have EC := hide hc
          rw [hc] at cA hcm
          clear hc
          have aw := al wr (.cells #[.int .i64 c, .bool (decide (0 < c))] 74)
          have X1 := two_cells wr c (decide (0 < c))
          have q1 := HF.out.q.keep aw
          have hlen := HF.out.len (by rw [HN.out]; exact hi)
          have c1 := q1.c1
          rw [show (⟨r, pgOf (C.take i) ++ List.replicate (C.length - i) Pg.zero, [], 0⟩ : Po).pg.length = n from hlen.trans HN.out] at c1
          have d12 := q1.pgAt (i := i) (by show i < (pgOf (C.take i) ++ List.replicate (C.length - i) Pg.zero).length; rw [hlen]; exact hil)
          obtain ⟨d1, d2⟩ := d12
          generalize ((⟨r, pgOf (C.take i) ++ List.replicate (C.length - i) Pg.zero, [], 0⟩ : Po).pg.getD i Pg.zero) = xo at d1 d2
          have g1 := q1.pgf (i * 2)
          have g2 := q1.pgf (i * 2 + 1)
          obtain ⟨x0, x1⟩ := X1
          obtain ⟨W1, hW1⟩ : ∃ W1, wr.alloc (.cells #[.int .i64 c, .bool (decide (0 < c))] 74) = W1 := ⟨_, rfl⟩
          rw [hW1] at c1 d1 d2 g1 g2 x0 x1 aw q1
          have c1' : W1.drew.cell? ⟨b, 1, none⟩ = _ := c1
          have d3 : W1.drew.cell? ⟨D.g, i * 2, none⟩ = _ := d1
          have d4 : W1.drew.cell? ⟨D.g, i * 2 + 1, none⟩ = _ := d2
          have g3 : W1.drew.frozen? ⟨D.g, i * 2, none⟩ = false := g1
          have g4 : W1.drew.frozen? ⟨D.g, i * 2 + 1, none⟩ = false := g2
          have x0' : W1.drew.cell? ⟨wr.heap.size, 0, none⟩ = _ := x0
          have x1' : W1.drew.cell? ⟨wr.heap.size, 1, none⟩ = _ := x1
          have hiI : (i : Int) < (n : Int) := by omega
          have hh := set_page q1.pgs i (c, decide (0 < c))
          have hbu : But (fun k => k = D.g) W1 ((W1.setCell ⟨D.g, i * 2, none⟩ (.int .i64 c)).setCell ⟨D.g, i * 2 + 1, none⟩ (.bool (decide (0 < c)))).drew := (((But.refl (fun k => k = D.g) W1).setCell (p := ⟨D.g, i * 2, none⟩) (fun _ => rfl) _).setCell (p := ⟨D.g, i * 2 + 1, none⟩) (fun _ => rfl) _).drew
          have Q2 := hide (q1.page (i + 1) (c, decide (0 < c)) hh hbu)
          have gx : wr.heap.size ≠ D.g := fun e => by have := HF.out.q.lt D.g (by rw [HF.out.q.cg]; decide); omega
          have X2 := hide (show ((W1.setCell ⟨D.g, i * 2, none⟩ (.int .i64 c)).setCell ⟨D.g, i * 2 + 1, none⟩ (.bool (decide (0 < c)))).drew.cell? ⟨wr.heap.size, 0, none⟩ = some (.int .i64 c) ∧ ((W1.setCell ⟨D.g, i * 2, none⟩ (.int .i64 c)).setCell ⟨D.g, i * 2 + 1, none⟩ (.bool (decide (0 < c)))).drew.cell? ⟨wr.heap.size, 1, none⟩ = some (.bool (decide (0 < c))) from
            ⟨(hbu.cell (p := ⟨wr.heap.size, 0, none⟩) (block_lt_of_cell x0) gx).trans x0, (hbu.cell (p := ⟨wr.heap.size, 1, none⟩) (block_lt_of_cell x1) gx).trans x1⟩)
          have BW := hide (show Below w.heap.size w ((W1.setCell ⟨D.g, i * 2, none⟩ (.int .i64 c)).setCell ⟨D.g, i * 2 + 1, none⟩ (.bool (decide (0 < c)))).drew from ((But.ofBelow (S := fun _ => False) (bt HF.out.bl aw)).trans hbu (fun k hk e => by have := HF.out.nw D.g (by rw [HF.out.q.cg]; decide); rw [e] at hk; omega)).below (fun _ _ h => h))
          have HW1 := hide hW1
          clear hW1 hh hbu q1 aw
          go_wp2_with fail
          rw [HW1.out]
          go_region
          all_goals
            generalize ((W1.setCell ⟨D.g, i * 2, none⟩ (.int .i64 c)).setCell ⟨D.g, i * 2 + 1, none⟩ (.bool (decide (0 < c)))).drew = W2 at *
            clear c1 c1' d1 d2 d3 d4 g1 g2 g3 g4 x0 x1 x0' x1' HW1
            have ST := hide fun (W : World) => stt_any W (c, decide (0 < c))
            obtain ⟨t, ht⟩ : ∃ t, stt (c, decide (0 < c)) = t := ⟨_, rfl⟩
            have t1 := stt_pos (c, decide (0 < c))
            rw [ht] at ST t1
            have HT := hide ht
            clear ht
            obtain ⟨y0, y1⟩ := X2.out
            have z0 : W2.drew.cell? ⟨wr.heap.size, 0, none⟩ = _ := y0
            have z1 : W2.drew.cell? ⟨wr.heap.size, 1, none⟩ = _ := y1
            have s1 : IntKind.i64.wrap ((i : Int) + 1) = (i : Int) + 1 := wrapI (by omega) (by omega)
            have s2 : wrap64 ((i : Int) + 1) = (i : Int) + 1 := by unfold wrap64; omega
            have AD := hide fun (W3 : World) (hb : Below W2.heap.size W2 W3) => Add_any W3 (D.s t) (D.a t) (D.c t) (D.L t) ((i : Int) + 1) ((i : Int) + 1) ((Q2.out.keep hb).set t (by omega)) (by unfold Nm; omega) (by unfold Nm; omega) (by have := HF.out.few (by rw [HN.out]; exact h2) (s := t) (by omega); omega)
            have FIN := hide (show ∀ (W3 w4 : World) (a4 : Option Addr) (k4 : Nat) (L4 : List Rn), Below W2.heap.size W2 W3 → St w4 (D.s t) a4 k4 L4 → (∀ z, has L4 z = (has (D.L t) z || (decide ((i : Int) + 1 ≤ z) && decide (z ≤ (i : Int) + 1)))) → New W3 (D.a t) a4 → But (fun k => k = D.s t ∨ InA (D.a t) k) W3 w4 → ∃ D' col', Pf w w4 b r C (i + 1) D' col' from fun W3 w4 a4 k4 L4 hb hS hH hN hB => by
              have q3 := (Q2.out.keep hb).oneSet (s := t) (by omega) hS hN hB
              refine ⟨{ D with a := upd D.a t a4, c := upd D.c t k4, L := upd D.L t L4 }, recol col W3 w4 (3 + t), ⟨?_, fun s hs z => ?_, ?_, fun k hk => ?_⟩⟩
              · have e : (⟨r, pgOf (C.take i) ++ List.replicate (C.length - i) Pg.zero, [], 0⟩ : Po).put (i + 1) (c, decide (0 < c)) = ⟨r, pgOf (C.take (i + 1)) ++ List.replicate (C.length - (i + 1)) Pg.zero, [], 0⟩ := by
                  unfold Po.put
                  simp only [Nat.add_sub_cancel]
                  rw [set_fill hil, pgOf_snoc hil, EC.out, List.append_assoc]
                  rfl
                rw [e] at q3
                exact q3
              · show has (upd D.L t L4 s) z = inS (pgOf (C.take (i + 1))) s z
                rw [pgOf_snoc hil, EC.out, inS_snoc, pgOf_length, List.length_take, Nat.min_eq_left (by omega), HT.out]
                have ez : (decide ((i : Int) + 1 ≤ z) && decide (z ≤ (i : Int) + 1)) = decide (z = ((i + 1 : Nat) : Int)) := by
                  by_cases hz : z = ((i + 1 : Nat) : Int)
                  · rw [decide_eq_true hz, decide_eq_true (by omega), decide_eq_true (by omega)]; rfl
                  · rw [decide_eq_false hz]
                    by_cases h3 : (i : Int) + 1 ≤ z
                    · rw [decide_eq_false (show ¬ z ≤ (i : Int) + 1 by omega), Bool.and_false]
                    · rw [decide_eq_false h3, Bool.false_and]
                by_cases hst : s = t
                · subst hst
                  rw [upd_same, hH, ez, HF.out.m s hs]; simp
                · rw [upd_ne _ _ hst, HF.out.m s hs, decide_eq_false (show ¬ t = s from fun e => hst e.symm)]; simp
              · refine ((But.ofBelow (S := fun _ => False) (bt BW.out hb)).trans hB (fun k hk e => ?_)).below (fun _ _ h => h)
                rcases e with rfl | ⟨y, hy, rfl⟩
                · have := HF.out.nw _ (show col (D.s t) ≠ 0 by rw [HF.out.q.cs t (by omega)]; omega); omega
                · have := HF.out.nw _ (show col y.block ≠ 0 by rw [HF.out.q.ca t (by omega) y hy]; omega); omega
              · have sw := (bt BW.out hb).size
                by_cases e : k < W3.heap.size
                · rw [recol_old e] at hk
                  exact HF.out.nw k hk
                · omega)
            have HB := hide (drw W2)
            go_wp2_with fail
            go_region_with (first
              | (go_at_call 50; refine (ST.out _).mono ?_; rintro _ w3 ⟨rfl, hb3⟩; have HB := hide (bt HB.out hb3); have ct := (Q2.out.keep HB.out).cin (s := t) (by omega); clear hb3)
              | (go_at_call 58; refine (AD.out _ HB.out).mono ?_; rintro _ w4 ⟨rfl, a4, k4, L4, hS4, hH4, -, hN4, hB4⟩; have FF := hide (FIN.out _ _ a4 k4 L4 HB.out hS4 hH4 hN4 hB4); clear hS4 hH4 hN4 hB4))
          all_goals
            clear ct y0 y1 z0 z1
            go_wp2
            go_roundw
          all_goals first
            | (obtain ⟨D', col', ff⟩ := FF.out; exact ⟨i + 1, D', col', by omega, by go_num, ff⟩)
            | (simp [intOf]; omega)
        · obtain rfl : i = n := by omega
          go_wp2
          go_ret
          have q := HF.out.q
          rw [← HN.out, List.take_length, Nat.sub_self, List.replicate_zero, List.append_nil] at q
          have m := HF.out.m
          rw [← HN.out, List.take_length] at m
          refine ⟨b, col, rfl, ⟨D, q, ⟨?_, ?_, HR.out.1, HR.out.2, ?_, fun a ha => by cases ha⟩, m⟩, HF.out.bl, HF.out.nw⟩
          · show 1 ≤ (pgOf C).length; rw [pgOf_length, HN.out]; exact h1
          · show (pgOf C).length ≤ _; rw [pgOf_length, HN.out]; exact h2
          · intro x hx
            obtain ⟨c, hc, rfl⟩ := List.mem_map.1 hx
            exact HH.out c hc
end Go.Proofs.YtceeeofkigkpkaaGreat
