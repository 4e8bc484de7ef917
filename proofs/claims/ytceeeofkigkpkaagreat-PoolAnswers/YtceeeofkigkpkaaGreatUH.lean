import Derived.Test.YtceeeofkigkpkaaGreatUG
namespace Go.Proofs.YtceeeofkigkpkaaGreat
open Go.RowKit Go.Shelf
attribute [local go_sem] Oper.semAt_some

/-! ### what lies between -/
def gdone (f : Int) : List Rn → List Rn
  | [] => []
  | p :: P => (if f < p.1 then [(f, p.1 - 1)] else []) ++ gdone (p.2 + 1) P
def gfrom (f : Int) : List Rn → Int
  | [] => f
  | p :: P => gfrom (p.2 + 1) P
theorem gap_split : ∀ {P : List Rn} (f hi : Int) (R : List Rn), (∀ p ∈ P, p.2 ≠ hi) → gap f hi (P ++ R) = gdone f P ++ gap (gfrom f P) hi R
  | [], f, hi, R, _ => rfl
  | p :: P, f, hi, R, h => by
    show (if f < p.1 then [(f, p.1 - 1)] else []) ++ (if p.2 = hi then [] else gap (p.2 + 1) hi (P ++ R)) = (if f < p.1 then [(f, p.1 - 1)] else []) ++ gdone (p.2 + 1) P ++ gap (gfrom (p.2 + 1) P) hi R
    rw [if_neg (h p (by simp)), gap_split (p.2 + 1) hi R (fun q hq => h q (by simp [hq])), List.append_assoc]
theorem gfrom_snoc : ∀ (P : List Rn) (f : Int) (p : Rn), gfrom f (P ++ [p]) = p.2 + 1
  | [], _, _ => rfl
  | q :: P, _, p => gfrom_snoc P (q.2 + 1) p
theorem gfrom_ge : ∀ (P : List Rn) (f lo : Int), lo ≤ f → (∀ p ∈ P, lo ≤ p.2) → lo ≤ gfrom f P
  | [], _, _, h, _ => h
  | q :: P, _, lo, _, h => gfrom_ge P (q.2 + 1) lo (by have := h q (by simp); omega) (fun p hp => h p (by simp [hp]))
theorem gdone_snoc : ∀ (P : List Rn) (f : Int) (p : Rn), gdone f (P ++ [p]) = gdone f P ++ (if gfrom f P < p.1 then [(gfrom f P, p.1 - 1)] else [])
  | [], f, p => by
    show (if f < p.1 then [(f, p.1 - 1)] else []) ++ [] = [] ++ (if f < p.1 then [(f, p.1 - 1)] else [])
    rw [List.append_nil, List.nil_append]
  | q :: P, f, p => by
    show (if f < q.1 then [(f, q.1 - 1)] else []) ++ gdone (q.2 + 1) (P ++ [p]) = _
    rw [gdone_snoc P (q.2 + 1) p, ← List.append_assoc]
    rfl
/-- all that is told of P, where the next one is r -/
theorem gap_next {P R : List Rn} {f hi : Int} {r : Rn} (h : ∀ p ∈ P, p.2 ≠ hi) : gap f hi (P ++ r :: R) = gdone f (P ++ [r]) ++ (if r.2 = hi then [] else gap (r.2 + 1) hi R) := by
  rw [gap_split f hi _ h, gap, gdone_snoc, List.append_assoc]
theorem gaps_any (w : World) (b : Nat) (lo hi : Int) : Calls Tryz.prog 68 #[.pointer (some ⟨b, 0, none⟩), .int .i64 lo, .int .i64 hi] w fun e w' =>
    e = .returned (.func (.func 82) #[] #[.pointer (some ⟨w.heap.size + 1, 0, none⟩), .pointer (some ⟨w.heap.size, 0, none⟩), .pointer (some ⟨w.heap.size + 1 + 1, 0, none⟩)]) ∧ w' = w3 w b lo hi := by
  go_enter Tryz.func68, Tryz.ntmps68
  go_wp2
  go_ret
  exact ⟨rfl, rfl⟩
set_option maxHeartbeats 4000000 in
set_option maxRecDepth 10000 in
theorem gaps_seq (w : World) (b B1 B2 B3 : Nat) (a : Option Addr) (cap : Nat) (L A M B : List Rn) (lo hi : Int) (hS : St w b a cap L) (sp : Spl L lo hi A M B) (hle : lo ≤ hi) (hlo : Nm lo) (hhi : Nm hi)
    (c1 : w.cell? ⟨B1, 0, none⟩ = some (.pointer (some ⟨b, 0, none⟩))) (c2 : w.cell? ⟨B2, 0, none⟩ = some (.int .i64 lo)) (c3 : w.cell? ⟨B3, 0, none⟩ = some (.int .i64 hi)) :
    Seqs Tryz.prog 82 #[.pointer (some ⟨B2, 0, none⟩), .pointer (some ⟨B1, 0, none⟩), .pointer (some ⟨B3, 0, none⟩)] enR (gap lo hi (clip M lo hi)) w (fun k => Inb b a k ∨ k = B1 ∨ k = B2 ∨ k = B3) := by
  obtain ⟨P, hP⟩ : ∃ P, clip M lo hi = P := ⟨_, rfl⟩
  rw [hP]
  intro l S J Jx W hW hX aJ aJx hY h0
  have nS : ∀ k, (Inb b a k ∨ k = B1 ∨ k = B2 ∨ k = B3) → ¬ S k := fun k h hs => (hX _ hs).1 h
  have c1W : W.cell? ⟨B1, 0, none⟩ = some (.pointer (some ⟨b, 0, none⟩)) := (hW.cell (p := ⟨B1, 0, none⟩) (block_lt_of_cell c1) (fun h => h (.inr (.inl rfl)))).trans c1
  have c2W : W.cell? ⟨B2, 0, none⟩ = some (.int .i64 lo) := (hW.cell (p := ⟨B2, 0, none⟩) (block_lt_of_cell c2) (fun h => h (.inr (.inr (.inl rfl))))).trans c2
  have c3W : W.cell? ⟨B3, 0, none⟩ = some (.int .i64 hi) := (hW.cell (p := ⟨B3, 0, none⟩) (block_lt_of_cell c3) (fun h => h (.inr (.inr (.inr rfl))))).trans c3
  have hSW : St W b a cap L := hS.but hW (fun h => h (.inl (.inl rfl))) (fun x hx h => h (.inl (.inr ⟨x, hx, rfl⟩)))
  clear c1 c2 c3 hS hW
  have Y := hide hY
  clear hY
  have hP' := hide hP
  clear hP
  obtain ⟨Wb, hWb⟩ : ∃ Wb, (W.alloc (.cells #[.func (.yield l) #[] #[]] 107)).alloc (.cells #[.int .i64 lo] 3) = Wb := ⟨_, rfl⟩
  have bb : Below W.heap.size W Wb := by rw [← hWb]; exact bt (al _ _) (al _ _)
  have sWb : Wb.heap.size = W.heap.size + 1 + 1 := by rw [← hWb, size_alloc, size_alloc]
  have C := hide (parts_any Wb b lo hi)
  have a1 := (al W (.cells #[.func (.yield l) #[] #[]] 107)).cell (p := ⟨B2, 0, none⟩) (block_lt_of_cell c2W) |>.trans c2W
  have a2 := (bb.cell (p := ⟨B1, 0, none⟩) (block_lt_of_cell c1W)).trans c1W
  have a3 := (bb.cell (p := ⟨B2, 0, none⟩) (block_lt_of_cell c2W)).trans c2W
  have a4 := (bb.cell (p := ⟨B3, 0, none⟩) (block_lt_of_cell c3W)).trans c3W
  refine callsIn_of_wp_marks Tryz.func82 rfl trivial ?_ rfl
  simp only [Tryz.ntmps82, List.size_toArray, List.length_cons, List.length_nil, Nat.reduceAdd, Nat.reduceSub, Array.replicate_succ, Array.replicate_zero, List.push_toArray, List.append_toArray, List.nil_append, List.cons_append]
  gi_wp2_with fail
  refine ⟨trivial, rfl, ?_⟩
  refine (callsIn_wide.2 C.out).mono ?_
  rintro e W1 ⟨rfl, rfl⟩
  gi_wp2_with fail
  obtain ⟨Wc, hWc⟩ : ∃ Wc, w3 Wb b lo hi = Wc := ⟨_, rfl⟩
  have kb : Below Wb.heap.size Wb Wc := by rw [← hWc]; exact w3_below _ _ _ _
  have sWc : Wc.heap.size = W.heap.size + 1 + 1 + 1 + 1 + 1 := by rw [← hWc, w3_size, sWb]
  obtain ⟨p1, p2, p3⟩ := w3_cells Wb b lo hi
  rw [hWc, sWb] at p1 p2 p3
  rw [hWc]
  have bc : Below W.heap.size W Wc := bt bb kb
  have y0 : Wb.cell? ⟨W.heap.size, 0, none⟩ = some (.func (.yield l) #[] #[]) := by
    rw [← hWb]
    have c := cell_alloc_new W (.func (.yield l) #[] #[]) 107
    exact ((al _ _).cell (p := ⟨W.heap.size, 0, none⟩) (block_lt_of_cell c)).trans c
  have f0 : Wb.heap[W.heap.size + 1]? = some (.cells #[.int .i64 lo] 3 (0, 0)) := by
    rw [← hWb]
    have c := World.alloc_heap_new (W.alloc (.cells #[.func (.yield l) #[] #[]] 107)) (.cells #[.int .i64 lo] 3)
    rwa [size_alloc] at c
  have yc := (kb.cell (p := ⟨W.heap.size, 0, none⟩) (block_lt_of_cell y0)).trans y0
  have fc := (kb.block (W.heap.size + 1) (Array.getElem?_eq_some_iff.1 f0).1).trans f0
  have hc := (kb.cell (p := ⟨B3, 0, none⟩) (block_lt_of_cell a4)).trans a4
  have lB3 : B3 < W.heap.size := block_lt_of_cell c3W
  have PS := parts_seq Wc b (W.heap.size + 1 + 1) (W.heap.size + 1 + 1 + 1) (W.heap.size + 1 + 1 + 1 + 1) a cap L A M B lo hi (hSW.keep bc) sp hle p1 p2 p3
  have inW : ∀ k, Inb b a k → k < W.heap.size := fun k hk => by
    rcases hk with rfl | ⟨x, hx, rfl⟩
    · exact hSW.lt
    · exact hSW.row.lt hx
  have CR := clip_ris (M := M) hle ⟨fun r hr => hSW.can.1 r (by rw [sp.eq]; simp [hr]), by have := hSW.can.ris.2; rw [sp.eq, pw_split] at this; exact this.2.1⟩ sp.m
  rw [hP'.out] at PS CR
  clear a1 a2 a3 a4 C p1 p2 p3 c1W c2W hWb hWc y0 f0 hP' sp
  refine wp_range (gf := 95) (lb := #[.pointer (some ⟨W.heap.size + 1 + 1, 0, none⟩), .pointer (some ⟨W.heap.size + 1 + 1 + 1, 0, none⟩), .pointer (some ⟨W.heap.size + 1 + 1 + 1 + 1, 0, none⟩)]) rfl (enters_of Tryz.func95 (by kernel_rfl) rfl) PS (But.refl _ _)
    (fun k hk => by
      rcases hk with hk | rfl | rfl | rfl
      · have := inW k hk
        omega
      · omega
      · omega
      · omega) (fun _ => rfl) (fun k => S k ∨ k = W.heap.size + 1)
    (fun k hk => by
      rcases hk with hk | rfl
      · have h1 := (hX k hk).2
        refine ⟨fun h => ?_, by omega⟩
        rcases h with h | rfl | rfl | rfl
        · exact (hX k hk).1 (.inl h)
        · omega
        · omega
        · omega
      · refine ⟨fun h => ?_, by omega⟩
        rcases h with h | h | h | h
        · have := inW _ h
          omega
        · omega
        · omega
        · omega)
    (fun pre Wx => But (fun k => S k ∨ k = W.heap.size + 1) Wc Wx ∧ J (gdone lo pre) Wx ∧ Wx.heap[W.heap.size + 1]? = some (.cells #[.int .i64 (gfrom lo pre)] 3 (0, 0)) ∧ ∀ p ∈ pre, p.2 ≠ hi)
    (fun c _ Wx => c = .ret ∧ (J (gap lo hi P) Wx ∨ ∃ pre rest, gap lo hi P = pre ++ rest ∧ Jx pre Wx))
    (fun s X1 X2 hs hn hb => ⟨hs.1.trans hb (fun x hx h => by omega), aJ _ _ _ hs.2.1 (by omega) (hb.mono fun x _ hx => by omega), hb.same hs.2.2.1 (by omega), hs.2.2.2⟩)
    (fun c s X1 X2 hs hn hb => ⟨hs.1, hs.2.imp (fun h => aJ _ _ _ h (by omega) (hb.mono fun x _ hx => by omega)) (fun ⟨pre, rest, e, h⟩ => ⟨pre, rest, e, aJx _ _ _ h (by omega) (hb.mono fun x _ hx => by omega)⟩)⟩)
    ⟨But.refl _ _, aJ _ _ _ h0 (Nat.le_refl _) (But.ofBelow bc), fc, by simp⟩ ?round ?done ?stop
  case round =>
    rintro l' pre x rest W2 hxs ⟨hB, hJ, hf, hpre⟩ hl1 hl2
    unfold enR rcs
    gi_wp2
    refine ⟨al _ _, fun W3 h3 => ?_⟩
    have nl : W.heap.size + 1 ≠ l' := by omega
    have sz2 := hB.size
    have b23 : But (fun k => k = l') W2 W3 := (But.ofBelow (al _ _)).trans h3 (fun _ _ h => h)
    have f3 : W3.heap[W.heap.size + 1]? = some (.cells #[.int .i64 (gfrom lo pre)] 3 (0, 0)) := b23.same hf nl
    have f3c : W3.cell? ⟨W.heap.size + 1, 0, none⟩ = some (.int .i64 (gfrom lo pre)) := by rw [cell_of_row _ _ _ _ _ _ f3]; rfl
    have y3 : W3.cell? ⟨W.heap.size, 0, none⟩ = some (.func (.yield l) #[] #[]) := by
      have e := (hB.cell (p := ⟨W.heap.size, 0, none⟩) (block_lt_of_cell yc) (fun h => h.elim (fun h => Nat.lt_irrefl _ (hX _ h).2) (fun h => Nat.ne_of_lt (Nat.lt_succ_self _) h))).trans yc
      exact (b23.cell (p := ⟨W.heap.size, 0, none⟩) (block_lt_of_cell e) (by show ¬ W.heap.size = l'; omega)).trans e
    have h3c : W3.cell? ⟨B3, 0, none⟩ = some (.int .i64 hi) := by
      have e := (hB.cell (p := ⟨B3, 0, none⟩) (block_lt_of_cell hc) (fun h => h.elim (fun h => nS _ (.inr (.inr (.inr rfl))) h) (fun h => Nat.ne_of_lt (Nat.lt_succ_of_lt lB3) h))).trans hc
      exact (b23.cell (p := ⟨B3, 0, none⟩) (block_lt_of_cell e) (by show ¬ B3 = l'; omega)).trans e
    have n0 := World.alloc_heap_new W2 (.cells #[.int .i64 x.1, .int .i64 x.2] 92)
    have n3 := h3.same n0 (by omega)
    have n1 : W3.cell? ⟨W2.heap.size, 0, none⟩ = some (.int .i64 x.1) := by rw [cell_of_row _ _ _ _ _ _ n3]; rfl
    have n2 : W3.cell? ⟨W2.heap.size, 1, none⟩ = some (.int .i64 x.2) := by rw [cell_of_row _ _ _ _ _ _ n3]; rfl
    have J3 : J (gdone lo pre) W3 := aJ _ _ _ hJ (by omega) (b23.mono fun z _ hz => by omega)
    have rb := CR.2 x (by rw [hxs]; simp)
    have rx := CR.1.1 x (by rw [hxs]; simp)
    have gn := gap_next (P := pre) (R := rest) (f := lo) (hi := hi) (r := x) hpre
    rw [← hxs] at gn
    have gs := gdone_snoc pre lo x
    have gf := gfrom_snoc pre lo x
    have sz3 := b23.size
    have hB3 : But (fun k => S k ∨ k = W.heap.size + 1) Wc W3 := hB.trans b23 (fun z hz h => by omega)
    have gl := gfrom_ge pre lo lo (Int.le_refl _) (fun p hp => by have h1 := CR.2 p (by rw [hxs]; simp [hp]); have h2 := CR.1.1 p (by rw [hxs]; simp [hp]); omega)
    generalize gfrom lo pre = f at *
    clear n0 n3 h3 b23
    have fz3 : W3.frozen? ⟨W.heap.size + 1, 0, none⟩ = false := frozen_of_row _ _ _ _ _ f3
    have up : ∀ W4, But S W3 W4 → x.2 ≠ hi → J (gdone lo (pre ++ [x])) W4 → But (fun k => S k ∨ k = W.heap.size + 1) W3 (W4.setCell ⟨W.heap.size + 1, 0, none⟩ (.int .i64 (x.2 + 1))) ∧
        (But (fun k => S k ∨ k = W.heap.size + 1) Wc (W4.setCell ⟨W.heap.size + 1, 0, none⟩ (.int .i64 (x.2 + 1))) ∧ J (gdone lo (pre ++ [x])) (W4.setCell ⟨W.heap.size + 1, 0, none⟩ (.int .i64 (x.2 + 1))) ∧ (W4.setCell ⟨W.heap.size + 1, 0, none⟩ (.int .i64 (x.2 + 1))).heap[W.heap.size + 1]? = some (.cells #[.int .i64 (gfrom lo (pre ++ [x]))] 3 (0, 0)) ∧ ∀ p ∈ pre ++ [x], p.2 ≠ hi) := fun W4 h34 hne hJ4 => by
      have b1 : But (fun k => S k ∨ k = W.heap.size + 1) W3 (W4.setCell ⟨W.heap.size + 1, 0, none⟩ (.int .i64 (x.2 + 1))) := (h34.mono (fun _ _ h => .inl h)).setCell (fun _ => .inr rfl) _
      have f4 := h34.same f3 (fun h => Nat.not_succ_le_self _ (Nat.le_of_lt (hX _ h).2))
      refine ⟨b1, hB3.trans b1 (fun _ _ h => h), aJ _ _ _ hJ4 (by have := h34.size; omega) ((But.refl _ _).setCell (fun _ => Nat.le_succ _) _), ?_, fun p hp => ?_⟩
      · rw [heap_setCell_same _ _ _ _ _ _ f4, gf]
        rfl
      · rcases List.mem_append.1 hp with hp | hp
        · exact hpre p hp
        · rw [List.mem_singleton.1 hp]
          exact hne
    have up' := hide up
    have hsW2 : W.heap.size ≤ W2.heap.size := by omega
    have gn' := hide gn
    have gs' := hide gs
    have Rn3 : ∀ {fn tmps assign body R}, RoundIn Fence.wide 0 Tryz.prog l fn tmps assign body W3 R → RoundIn (Fence.wide.inRound l') 0 Tryz.prog l fn tmps assign body W3 R := fun h => h
    clear up gn gs gf PS CR hxs hpre f3 hB3 hB hJ hf
    by_cases g1 : f < x.1
    · have hs := gs'.out
      rw [if_pos g1] at hs
      obtain ⟨fn, tmps, assign, body, hy, hR⟩ := Y.out (gdone lo pre) (f, x.1 - 1) (if x.2 = hi then [] else gap (x.2 + 1) hi rest) W3 (by rw [gn'.out, hs, List.append_assoc]; rfl) J3 (by omega)
      have hs' := hide hs
      clear hs
      simp only [enR, rcs] at hy
      have hw : IntKind.i64.wrap (x.1 - 1) = x.1 - 1 := wrapK (by have := hlo.1; omega) (by have := hhi.2; omega)
      gi_wp2
      refine ⟨rfl, (Rn3 hR).mono ?_⟩
      rintro e W4 ⟨h34, ⟨rfl, hJ4⟩ | ⟨rfl, hJ4⟩⟩
      · rw [← hs'.out] at hJ4
        have c4 := (h34.cell (p := ⟨B3, 0, none⟩) (block_lt_of_cell h3c) (nS _ (.inr (.inr (.inr rfl))))).trans h3c
        have n4 := (h34.cell (p := ⟨W2.heap.size, 1, none⟩) (block_lt_of_cell n2) (fun h => Nat.lt_irrefl _ (Nat.lt_of_lt_of_le (hX _ h).2 hsW2))).trans n2
        have f4 := (h34.cell (p := ⟨W.heap.size + 1, 0, none⟩) (block_lt_of_cell f3c) (fun h => Nat.not_succ_le_self _ (Nat.le_of_lt (hX _ h).2))).trans f3c
        have z4 := (h34.frozen (p := ⟨W.heap.size + 1, 0, none⟩) (block_lt_of_cell f3c) (fun h => Nat.not_succ_le_self _ (Nat.le_of_lt (hX _ h).2))).trans fz3
        by_cases g2 : x.2 = hi
        · gi_wp2
          exact ⟨h34.mono (fun _ _ h => .inl h), rfl, .inl (by rw [gn'.out, if_pos g2, List.append_nil]; exact hJ4)⟩
        · have hw2 : IntKind.i64.wrap (x.2 + 1) = x.2 + 1 := wrapK (by have := hlo.1; omega) (by have := hhi.2; omega)
          gi_wp2
          exact up'.out W4 h34 g2 hJ4
      · gi_wp2
        exact ⟨h34.mono (fun _ _ h => .inl h), rfl, .inr ⟨_, (if x.2 = hi then [] else gap (x.2 + 1) hi rest), by rw [gn'.out, hs'.out], hJ4⟩⟩
    · have hs := gs'.out
      rw [if_neg g1, List.append_nil] at hs
      have hJ4 : J (gdone lo (pre ++ [x])) W3 := by rw [hs]; exact J3
      clear hs
      by_cases g2 : x.2 = hi
      · gi_wp2
        refine ⟨fun _ h => (by cases h), ?_⟩
        gi_wp2
        exact ⟨But.refl _ _, rfl, .inl (by rw [gn'.out, if_pos g2, List.append_nil]; exact hJ4)⟩
      · have hw2 : IntKind.i64.wrap (x.2 + 1) = x.2 + 1 := wrapK (by have := hlo.1; omega) (by have := hhi.2; omega)
        gi_wp2
        refine ⟨fun _ h => (by cases h), ?_⟩
        gi_wp2
        exact up'.out W3 (But.refl _ _) g2 hJ4
  case done =>
    rintro D Wx hD ⟨hB, hJ, hf, hpre⟩ _ hK
    have ge := gap_split (P := P) lo hi [] hpre
    rw [List.append_nil] at ge
    have sz := hB.size
    have fX : Wx.cell? ⟨W.heap.size + 1, 0, none⟩ = some (.int .i64 (gfrom lo P)) := by rw [cell_of_row _ _ _ _ _ _ hf]; rfl
    have yX := (hB.cell (p := ⟨W.heap.size, 0, none⟩) (block_lt_of_cell yc) (fun h => h.elim (fun h => Nat.lt_irrefl _ (hX _ h).2) (fun h => Nat.ne_of_lt (Nat.lt_succ_self _) h))).trans yc
    have hXc := (hB.cell (p := ⟨B3, 0, none⟩) (block_lt_of_cell hc) (fun h => h.elim (fun h => nS _ (.inr (.inr (.inr rfl))) h) (fun h => Nat.ne_of_lt (Nat.lt_succ_of_lt lB3) h))).trans hc
    obtain ⟨fn, tmps, assign, body, hy, hR⟩ := Y.out (gdone lo P) (gfrom lo P, hi) [] Wx (by rw [ge]; rfl) hJ (by omega)
    simp only [enR, rcs] at hy
    have ge' := hide (show gap lo hi P = gdone lo P ++ [(gfrom lo P, hi)] from ge)
    clear ge PS
    generalize gfrom lo P = f at *
    gi_wp2
    refine ⟨rfl, hR.mono ?_⟩
    have bWx : But S W Wx := (But.ofBelow (S := S) bc).trans hB (fun z hz h => h.elim id (fun e => by omega))
    have nD : ¬ S D := fun h => by have := (hX _ h).2; omega
    rintro e W4 ⟨h34, ⟨rfl, hJ4⟩ | ⟨rfl, hJ4⟩⟩
    · have hK4 := h34.same hK nD
      have s4 := h34.size
      gi_wp2
      refine ⟨by simp, .inl ⟨_, _, rfl, run_takeDeferred hK4, ?_⟩⟩
      exact ⟨_, results_none rfl _ _ _, ⟨_, rfl⟩, (bWx.trans h34 (fun _ _ h => h)).putObj (fun h => by omega) _, .inl (by rw [ge'.out]; exact aJ _ _ _ hJ4 (by omega) ((But.refl _ _).putObj (fun _ => by omega) _))⟩
    · have hK4 := h34.same hK nD
      have s4 := h34.size
      gi_wp2
      refine ⟨by simp, .inl ⟨_, _, rfl, run_takeDeferred hK4, ?_⟩⟩
      exact ⟨_, results_none rfl _ _ _, ⟨_, rfl⟩, (bWx.trans h34 (fun _ _ h => h)).putObj (fun h => by omega) _, .inr ⟨_, [], by rw [ge'.out, List.append_nil], aJx _ _ _ hJ4 (by omega) ((But.refl _ _).putObj (fun _ => by omega) _)⟩⟩
  case stop =>
    rintro D c pre rest Wx hD hxs ⟨rfl, hJ4⟩ hB hK
    have bWx : But S W Wx := (But.ofBelow (S := S) bc).trans hB (fun z hz h => h.elim id (fun e => by omega))
    have sz := hB.size
    gi_wp2
    refine ⟨by simp, .inl ⟨_, _, rfl, run_takeDeferred hK, ?_⟩⟩
    exact ⟨_, results_none rfl _ _ _, ⟨_, rfl⟩, bWx.putObj (fun h => by omega) _, hJ4.imp (fun h => aJ _ _ _ h (by omega) ((But.refl _ _).putObj (fun _ => by omega) _)) (fun ⟨p, r, e, h⟩ => ⟨p, r, e, aJx _ _ _ h (by omega) ((But.refl _ _).putObj (fun _ => by omega) _)⟩)⟩
end Go.Proofs.YtceeeofkigkpkaaGreat
