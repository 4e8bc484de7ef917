import Derived.Test.YtlflcdjaknnfaabKE
namespace Go.Proofs.Ytlflcdjaknnfaab
open Go.RowKit
open Go.ChangeMaps (setBlock)

section
variable {F : Nat → Prop} {w : World} {p bl bn : Nat} {ua : Option Addr} {uc : Nat} {S : Sd}
/-- where a write that was not synced lies -/
theorem DkAt.row (h : DkAt F w p bl bn ua uc S) {j : Nat} {u : Nat × List Nat} (hj : S.uns[j]? = some u) :
    ∃ g, ua = some ⟨g, 0, none⟩ ∧ w.rangeAt g (j * 513) (.int .i64 ((u.1 : Nat) : Int) :: vb u.2) ∧ w.rangeAt g (j * 513 + 1) (vb u.2) ∧ w.cell? ⟨g, j * 513, none⟩ = some (.int .i64 ((u.1 : Nat) : Int)) ∧ g < w.heap.size ∧ F g ∧ g ≠ p := by
  have hlt := (List.getElem?_eq_some_iff.1 hj).1
  have hU : ∀ u ∈ S.uns, u.2.length = 512 := fun u hu => (h.ok.uns u hu).2.1
  have hu0 := own_ne h.u h.blk (by decide)
  obtain ⟨h1, h2⟩ := h.u
  rcases h2 with ⟨hv, h0⟩ | ⟨g, cap', cur, hv, h3, hg, hn, hm, hs, ht⟩
  · omega
  · simp only [Value.slice.injEq] at hv
    obtain ⟨e1, _, rfl⟩ := hv
    have hr : w.rangeAt g (j * 513) (.int .i64 ((u.1 : Nat) : Int) :: vb u.2) := by
      intro m v hv
      have hml : m < 513 := by
        have := (List.getElem?_eq_some_iff.1 hv).1
        rw [List.length_cons, vb_length, hU u (List.mem_of_getElem? hj)] at this
        omega
      rw [cell_of_row _ _ _ _ _ _ hg, ← hv, ← vU_at hU hj, ← ht, List.getElem?_take, if_pos hml, List.getElem?_drop, List.getElem?_take, if_pos (by
        have : (j + 1) * 513 ≤ S.uns.length * 513 := Nat.mul_le_mul_right _ hlt
        omega)]
      simp
    have hr2 : w.rangeAt g (j * 513 + 1) (vb u.2) := fun m v hv => by
      have := hr (m + 1) v (by simpa using hv)
      rw [show j * 513 + 1 + m = j * 513 + (m + 1) by omega]
      exact this
    refine ⟨g, e1, hr, hr2, ?_, (Array.getElem?_eq_some_iff.1 hg).1, h.fu _ e1, hu0 _ e1⟩
    have := hr 0 _ rfl
    simpa using this
theorem shown_eq {S : Sd} (i : Nat) (hi : i < S.n) : (mpL S.n S.last (i : Int)).getD (.agg zc) = .agg (vb (S.last i)).toArray := by
  unfold mpL
  by_cases e : S.last i = zb
  · rw [if_neg (by simp [e]), e]; rfl
  · rw [if_pos ⟨by omega, by omega, by simpa using e⟩]; simp
set_option maxHeartbeats 1000000 in
theorem shown_any (h : DkAt F w p bl bn ua uc S) (i : Nat) (hi : i < S.n) :
    Calls Try.prog 46 #[.pointer (some ⟨p, 0, none⟩), .int .i64 (i : Int)] w fun e w' => e = .returned (.agg (vb (S.show i)).toArray) ∧ Below w.heap.size w w' := by
  unfold Sd.show
  have hz0 := zeroBlk
  have h1 := h.keep (al w (.cells zc 72))
  obtain ⟨f, hf, hN⟩ := h1.n
  have hzi : (zeroValue 3).run Try.prog (w.alloc (.cells zc 72)) = .ok (.int .i64 0) (w.alloc (.cells zc 72)) := by kernel_rfl
  have lk := hf.look (P := Try.prog) (T := 67) (K := 3) (E := 3) Try.underlying67 Try.underlying3 (.int .i64 0) hzi (i : Int) true
  have c1 : (w.alloc (.cells zc 72)).cell? ⟨p, 1, none⟩ = some (.map (some bl)) := h1.cell 1
  have c2 : (w.alloc (.cells zc 72)).cell? ⟨p, 2, none⟩ = some (.slice ua S.uns.length uc) := h1.cell 2
  have c3 : (w.alloc (.cells zc 72)).cell? ⟨p, 3, none⟩ = some (.map (some bn)) := h1.cell 3
  have hB : Below w.heap.size w (w.alloc (.cells zc 72)) := al _ _
  cases hfi : f (i : Int) with
  | some v =>
    obtain ⟨j, rfl, u, hu, hk, hn⟩ := hN.hit _ _ hfi
    have hsh : shows S.uns (S.last i) i = u.2 := shows_at _ _ _ j u hu (by omega) (fun j' u' h1 h2 => by have := hn j' u' h1 h2; omega)
    have hjl := (List.getElem?_eq_some_iff.1 hu).1
    have hlt : (j : Int) < (S.uns.length : Int) := by omega
    obtain ⟨g, rfl, _, hr, _, _⟩ := h1.row hu
    have hub := (h.ok.uns u (List.mem_of_getElem? hu)).2
    rw [hfi] at lk
    rw [hsh]
    simp only [Option.getD_some, Option.isSome_some, if_true] at lk
    have H := hide h
    clear h h1 hf hN hfi hn hsh hu hk
    go_enter Try.func46, Try.ntmps46
    have hinfo : (Try.prog.info? 72).map (·.size) = some (vb u.2).length := by rw [vb_length, hub.1]; exact (zero_of_info infoBlk).2
    go_wp2_with (first | (refine wpList_load_mid rfl 72 _ rfl g (j * 513 + 1) (by simp [Act.eval]) (vb u.2) _ hr Try.underlying72 rfl hinfo ?_) | (refine wpList_store_row rfl 72 _ _ rfl w.heap.size _ rfl rfl 72 zc (heap_alloc_last _ _) (sizeBlk (vb_size hub.1)) (by rw [zc_size, vb_size hub.1]) (vb_all _) ?_))
    refine bodyPost_ret (v := .agg (vb u.2).toArray) (results_cell_row Try.results46 _ _ w.heap.size 72 _ (0, 0) _ rfl (setRow_heap _ _ _ _ _ _ (heap_alloc_last _ _)) Try.underlying72 rfl (sizeBlk (vb_size hub.1))) rfl ⟨rfl, ?_⟩
    exact below_setRow hB (Nat.le_refl _) _
  | none =>
    have hsh : shows S.uns (S.last i) i = S.last i := shows_none _ _ _ (fun u hu e => hN.miss _ hfi u hu (by omega))
    have lk2 := h1.l.look (P := Try.prog) (T := 65) (K := 3) (E := 72) Try.underlying65 Try.underlying3 (.agg zc) (zeroBlk _) (i : Int) false
    rw [shown_eq i hi] at lk2
    rw [hfi] at lk
    rw [hsh]
    simp only [Option.getD_none, Option.isSome_none, if_true] at lk
    simp only [Bool.false_eq_true, if_false] at lk2
    have hl := h.ok.last i
    have H := hide h
    clear h h1 hf hN hfi hsh
    generalize S.last i = b at *
    go_enter Try.func46, Try.ntmps46
    go_wp2_with (refine wpList_store_row rfl 72 _ _ rfl w.heap.size _ rfl rfl 72 zc (heap_alloc_last _ _) (sizeBlk (vb_size hl.1)) (by rw [zc_size, vb_size hl.1]) (vb_all _) ?_)
    refine bodyPost_ret (v := .agg (vb b).toArray) (results_cell_row Try.results46 _ _ w.heap.size 72 _ (0, 0) _ rfl (setRow_heap _ _ _ _ _ _ (heap_alloc_last _ _)) Try.underlying72 rfl (sizeBlk (vb_size hl.1))) rfl ⟨rfl, ?_⟩
    exact below_setRow hB (Nat.le_refl _) _
set_option maxHeartbeats 1000000 in
theorem dRead_any (h : DkAt F w p bl bn ua uc S) (i : Int) :
    Calls Try.prog 13 #[.pointer (some ⟨p, 0, none⟩), .int .i64 i] w fun e w' => ∃ a c, e = .returned (.tuple #[.slice a (S.read i).length c, .int .i64 (S.readE i : Int)]) ∧ Rw w' a c (S.read i) ∧ New w none a ∧ Below w.heap.size w w' := by
  have c4 : w.cell? ⟨p, 4, none⟩ = some (.bool S.pow) := h.cell 4
  have H1 := hide (has_any (h.cell 0) i)
  cases hp : S.pow with
  | false =>
    have e1 : S.read i = [] := by unfold Sd.read; rw [if_pos hp]
    have e2 : S.readE i = 17 := by unfold Sd.readE; rw [if_pos hp]
    rw [hp] at c4
    rw [e1, e2]
    clear h H1 e1 e2 hp
    go_enter Try.func13, Try.ntmps13
    go_wp2
    go_ret2
    exact ⟨none, 0, rfl, Rw.nil _, New.none _ _, Below.refl _ _⟩
  | true =>
    rw [hp] at c4
    cases hh : S.has i with
    | false =>
      have e1 : S.read i = [] := by unfold Sd.read; rw [if_neg (by rw [hp]; decide), if_pos hh]
      have e2 : S.readE i = 16 := by unfold Sd.readE; rw [if_neg (by rw [hp]; decide), if_pos hh]
      rw [hh] at H1
      rw [e1, e2]
      clear h e1 e2 hp hh
      go_enter Try.func13, Try.ntmps13
      go_wp2_with (go_at_call 39; refine H1.out.mono ?_; rintro e w1 ⟨rfl, e1⟩; subst e1)
      go_ret2
      exact ⟨none, 0, rfl, Rw.nil _, New.none _ _, Below.refl _ _⟩
    | true =>
      obtain ⟨h0, hn⟩ := Sd.has_iff.1 hh
      obtain ⟨j, rfl⟩ : ∃ j : Nat, i = (j : Int) := ⟨i.toNat, by omega⟩
      have e1 : S.read (j : Int) = S.show j := by unfold Sd.read; rw [if_neg (by rw [hp]; decide), if_neg (by rw [hh]; decide)]; rfl
      have e2 : S.readE (j : Int) = 0 := by unfold Sd.readE; rw [if_neg (by rw [hp]; decide), if_neg (by rw [hh]; decide)]
      rw [hh] at H1
      have H2 := hide (shown_any h j (by omega))
      have hb := h.ok.show j
      rw [e1, e2]
      generalize S.show j = b at *
      have hl := hb.1
      clear h e1 e2 hp hh
      go_enter Try.func13, Try.ntmps13
      go_wp2_with (first | (go_at_call 39; refine H1.out.mono ?_; rintro e w1 ⟨rfl, e1⟩; subst e1) | (go_at_call 46; refine H2.out.mono ?_; rintro e w2 ⟨rfl, hb2⟩; have HB2 := hide hb2; clear hb2) | (go_at_call 47; refine (list_any _ b hb).mono ?_; rintro e w3 ⟨rfl, hr3, hb3⟩; have HB3 := hide (And.intro hr3 hb3); clear hr3 hb3))
      go_ret2
      have hs := HB2.out.size
      exact ⟨_, 512, by rw [hl]; rfl, HB3.out.1, fun x hx => .inr (by cases hx; show _ ≤ _ + 1; omega), bt HB2.out HB3.out.2⟩
set_option maxHeartbeats 1000000 in
theorem dLay_any (h : DkAt F w p bl bn ua uc S) (i : Int) (a : Option Addr) (n c : Nat) (b : List Nat) (hB : Bs w a b) (hn : n = b.length) :
    Calls Try.prog 11 #[.pointer (some ⟨p, 0, none⟩), .int .i64 i, .slice a n c] w fun e w' => e = .returned (.bool (S.layE i b)) ∧ DkAt F w' p bl bn ua uc (S.layd i b) ∧ But F w w' := by
  have c4 : w.cell? ⟨p, 4, none⟩ = some (.bool S.pow) := h.cell 4
  have H1 := hide (has_any (h.cell 0) i)
  have HD := hide h
  have HR : S.layE i b = false → Hid (DkAt F w p bl bn ua uc (S.layd i b) ∧ But F w w) := fun e => by
    have e2 : S.layd i b = S := by unfold Sd.layd; rw [if_neg (by rw [e]; decide)]
    rw [e2]
    exact (⟨h, But.refl _ _⟩ : _ ∧ _)
  cases hp : S.pow with
  | true =>
    have e0 : S.layE i b = false := by unfold Sd.layE; rw [hp]; rfl
    have HR := HR e0
    rw [hp] at c4
    rw [e0]
    clear h H1 e0 hp
    go_enter Try.func11, Try.ntmps11
    go_wp2
    go_ret
    exact ⟨rfl, HR.out⟩
  | false =>
    rw [hp] at c4
    cases hh : S.has i with
    | false =>
      have e0 : S.layE i b = false := by unfold Sd.layE; rw [hp, hh]; rfl
      have HR := HR e0
      rw [hh] at H1
      rw [e0]
      clear h e0 hp hh
      go_enter Try.func11, Try.ntmps11
      go_wp2_with (go_at_call 39; refine H1.out.mono ?_; rintro e w1 ⟨rfl, e1⟩; subst e1)
      go_ret
      exact ⟨rfl, HR.out⟩
    | true =>
      rw [hh] at H1
      by_cases hl : b.length = 512
      · obtain ⟨h0, hn0⟩ := Sd.has_iff.1 hh
        obtain ⟨j, rfl⟩ : ∃ j : Nat, i = (j : Int) := ⟨i.toNat, by omega⟩
        have e0 : S.layE (j : Int) b = true := by unfold Sd.layE; rw [hp, hh, decide_eq_true hl]; rfl
        have e1 : S.layd (j : Int) b = S.lay j b := by unfold Sd.layd; rw [if_pos e0]; rfl
        have H2 := hide (blockOf_any w a n c b hB hn (by omega))
        rw [List.take_of_length_le (by omega)] at H2
        have hk : Blk b := ⟨hl, hB.1⟩
        have hj : j < S.n := by omega
        obtain rfl : n = 512 := by omega
        rw [e0, e1]
        clear h e0 e1 hp hh HR hB hn h0 hn0
        go_enter Try.func11, Try.ntmps11
        go_wp2_with (first | (go_at_call 39; refine H1.out.mono ?_; rintro e w1 ⟨rfl, e1⟩; subst e1) | (go_at_call 41; refine H2.out.mono ?_; rintro e w2 ⟨rfl, hb2⟩; have HB2 := hide hb2; clear hb2) | (go_at_call 44; refine (settle_any (HD.out.keep HB2.out) j hj b hk).mono ?_; rintro e w3 ⟨rfl, h3⟩; have H3 := hide h3; clear h3))
        go_ret
        exact ⟨rfl, H3.out.1, (But.ofBelow HB2.out).trans H3.out.2 (fun _ _ h => h)⟩
      · have e0 : S.layE i b = false := by unfold Sd.layE; rw [decide_eq_false hl, Bool.and_false]
        have HR := HR e0
        have hne : ((n : Int) == 512) = false := eqf (by omega)
        have hne2 : ¬ (n : Int) = 512 := by omega
        rw [e0]
        clear h e0 hp hh hB hn
        go_enter Try.func11, Try.ntmps11
        go_wp2_with (go_at_call 39; refine H1.out.mono ?_; rintro e w1 ⟨rfl, e1⟩; subst e1)
        go_ret
        exact ⟨rfl, HR.out⟩
end
end Go.Proofs.Ytlflcdjaknnfaab
