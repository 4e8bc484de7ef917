import Derived.Test.YtlflcdjaknnfaabKHA
namespace Go.Proofs.Ytlflcdjaknnfaab
open Go.RowKit

theorem hU_len {U : Uns} {A : List (Nat × Nat)} (h : A.length = U.length) : (hU U A).length = U.length * 2 := by
  induction U generalizing A with
  | nil => simp [hU]
  | cons u U ih =>
    cases A with
    | nil => simp at h
    | cons x A =>
      have := ih (A := A) (by simpa using h)
      unfold hU at this ⊢
      rw [List.zip_cons_cons, List.flatMap_cons, List.length_append, this]
      simp
      omega
theorem hU_get {U : Uns} {A : List (Nat × Nat)} {j : Nat} {u : Nat × List Nat} {x : Nat × Nat} (hu : U[j]? = some u) (hx : A[j]? = some x) :
    (hU U A)[j * 2]? = some (.int .i64 ((u.1 : Nat) : Int)) ∧ (hU U A)[j * 2 + 1]? = some (.slice (some ⟨x.1, 0, none⟩) 512 x.2) := by
  induction U generalizing A j with
  | nil => simp at hu
  | cons v U ih =>
    cases A with
    | nil => simp at hx
    | cons y A =>
      cases j with
      | zero =>
        simp only [List.getElem?_cons_zero, Option.some.injEq] at hu hx
        subst hu hx
        exact ⟨rfl, rfl⟩
      | succ j =>
        simp only [List.getElem?_cons_succ] at hu hx
        have := ih hu hx
        have e : hU (v :: U) (y :: A) = .int .i64 ((v.1 : Nat) : Int) :: .slice (some ⟨y.1, 0, none⟩) 512 y.2 :: hU U A := rfl
        rw [e, show (j + 1) * 2 = j * 2 + 1 + 1 by omega, show j * 2 + 1 + 1 + 1 = (j * 2 + 1) + 1 + 1 by omega]
        simp only [List.getElem?_cons_succ]
        exact this
theorem hU_snoc {U : Uns} {A : List (Nat × Nat)} (h : A.length = U.length) (u : Nat × List Nat) (x : Nat × Nat) : hU (U ++ [u]) (A ++ [x]) = hU U A ++ [.int .i64 ((u.1 : Nat) : Int), .slice (some ⟨x.1, 0, none⟩) 512 x.2] := by
  unfold hU
  rw [List.zip_append h.symm, List.flatMap_append]
  rfl
theorem imgF_part {n : Nat} {f : Nat → List Nat} (h : ∀ i, i < n → (f i).length = 512) {i : Nat} (hi : i < n) : ((imgF n f).drop (i * 512)).take 512 = f i := by
  have hl := imgF_len h
  have h5 : (i + 1) * 512 ≤ n * 512 := Nat.mul_le_mul_right _ hi
  refine ext_get (by rw [List.length_take, List.length_drop, hl, h i hi]; omega) fun k hk => ?_
  rw [List.length_take, List.length_drop, hl] at hk
  rw [← imgF_get h hi (k := k) (by omega)]
  simp only [List.getD_eq_getElem?_getD, List.getElem?_take, List.getElem?_drop]
  rw [if_pos (by omega)]
theorem Bs.part {w : World} {b : Nat} {l : List Nat} (h : Bs w (some ⟨b, 0, none⟩) l) (o n : Nat) (hl : o + n ≤ l.length) : Bs w (some ⟨b, o, none⟩) ((l.drop o).take n) := by
  refine ⟨fun x hx => h.1 x (List.mem_of_mem_drop (List.mem_of_mem_take hx)), ?_, ?_⟩
  · have := h.2.1
    rw [List.length_take, List.length_drop]
    omega
  · rcases h.2.2 with h0 | ⟨b', off, e, hc⟩
    · exact .inl (by rw [h0]; simp)
    · simp only [Option.some.injEq, Addr.mk.injEq, and_true] at e
      obtain ⟨rfl, rfl⟩ := e
      refine .inr ⟨b, o, rfl, fun i hi => ?_⟩
      rw [List.length_take, List.length_drop] at hi
      have := hc (o + i) (by omega)
      rw [Nat.zero_add] at this
      rw [this]
      simp only [List.getD_eq_getElem?_getD, List.getElem?_take, List.getElem?_drop]
      rw [if_pos (by omega)]
section
variable {F : Nat → Prop} {w w' : World} {q la lc : Nat} {wa : Option Addr} {wc : Nat} {A : List (Nat × Nat)} {S : Sd}
/-- where a write of the document's lies -/
theorem HkAt.row (h : HkAt F w q la lc wa wc A S) {j : Nat} {u : Nat × List Nat} (hj : S.uns[j]? = some u) :
    ∃ g x, wa = some ⟨g, 0, none⟩ ∧ A[j]? = some x ∧ w.cell? ⟨g, j * 2, none⟩ = some (.int .i64 ((u.1 : Nat) : Int)) ∧ w.cell? ⟨g, j * 2 + 1, none⟩ = some (.slice (some ⟨x.1, 0, none⟩) 512 x.2) ∧ Rw w (some ⟨x.1, 0, none⟩) x.2 u.2 ∧ x.1 ≠ la ∧ F x.1 := by
  have hlt := (List.getElem?_eq_some_iff.1 hj).1
  obtain ⟨x, hx⟩ : ∃ x, A[j]? = some x := ⟨_, List.getElem?_eq_getElem (by rw [h.a]; exact hlt)⟩
  obtain ⟨r1, r2, r3⟩ := h.r j u x hj hx
  obtain ⟨g1, g2⟩ := hU_get hj hx
  obtain ⟨_, h2⟩ := h.u
  rcases h2 with ⟨hv, h0⟩ | ⟨g, cap', cur, hv, h3, hg, hn, hm, hs, ht⟩
  · omega
  · simp only [Value.slice.injEq] at hv
    obtain ⟨e1, _, rfl⟩ := hv
    have hc : ∀ m, m < S.uns.length * 2 → w.cell? ⟨g, m, none⟩ = (hU S.uns A)[m]? := fun m hm => by
      rw [cell_of_row _ _ _ _ _ _ hg, ← ht, List.getElem?_take, if_pos hm]
      simp
    have : (j + 1) * 2 ≤ S.uns.length * 2 := Nat.mul_le_mul_right _ hlt
    exact ⟨g, x, e1, hx, by rw [hc _ (by omega), g1], by rw [hc _ (by omega), g2], r1, r2, r3⟩
theorem HkAt.lastBs (h : HkAt F w q la lc wa wc A S) {i : Nat} (hi : i < S.n) : Bs w (some ⟨la, i * 512, none⟩) (S.last i) := by
  have hl := h.ok.imgLen
  have h5 : (i + 1) * 512 ≤ S.n * 512 := Nat.mul_le_mul_right _ hi
  have := (h.l.bs' h.ok.imgLt).part (i * 512) 512 (by omega)
  rw [show (S.img.drop (i * 512)).take 512 = S.last i from imgF_part (fun i _ => (h.ok.last i).1) hi] at this
  exact this
set_option maxHeartbeats 1000000 in
theorem hShows_any (h : HkAt F w q la lc wa wc A S) (i : Nat) (hi : i < S.n) :
    Calls Try.prog 48 #[.pointer (some ⟨q, 0, none⟩), .int .i64 (i : Int)] w fun e w' => ∃ a c, e = .returned (.slice a 512 c) ∧ Rw w' a c (S.show i) ∧ New w none a ∧ Below w.heap.size w w' := by
  have H := hide h
  have hu1 := h.ok.u1
  have c1 : w.cell? ⟨q, 1, none⟩ = some (.slice wa S.uns.length wc) := h.cell 1
  have hw0 : wrap64 ((S.uns.length : Int) - 1) = (S.uns.length : Int) - 1 := by unfold wrap64; omega
  clear h
  go_enter Try.func48, Try.ntmps48
  go_wp2
  go_loopw [5] (fun v wx => ∃ (j : Nat) (e : Int), j ≤ S.uns.length ∧ v = .int .i64 e ∧ e = (j : Int) - 1 ∧ (Below w.heap.size w wx ∧ ∀ j' u', j ≤ j' → S.uns[j']? = some u' → u'.1 ≠ i)) (fun v _ => (intOf v + 1).toNat)
  case atStart => exact ⟨S.uns.length, _, Nat.le_refl _, rfl, rfl, Below.refl _ _, fun j' u' h1 h2 => by have := (List.getElem?_eq_some_iff.1 h2).1; omega⟩
  case round =>
    obtain ⟨j, e, hj, rfl, he, hG⟩ := hrel
    have HG := hide hG
    clear hG c1 hw0
    have c1 : wr.cell? ⟨q, 1, none⟩ = some (.slice wa S.uns.length wc) := (H.out.keep HG.out.1).cell 1
    cases j with
    | succ m =>
      obtain rfl : e = (m : Int) := by omega
      clear he
      obtain ⟨u, hu⟩ : ∃ u, S.uns[m]? = some u := ⟨_, List.getElem?_eq_getElem (by omega)⟩
      obtain ⟨g, x, rfl, hx, d0, d1, hr, _, _⟩ := (H.out.keep HG.out.1).row hu
      have h0 : (0 : Int) ≤ (m : Int) := by omega
      have hl : (m : Int) < (S.uns.length : Int) := by omega
      have hub := (H.out.ok.uns u (List.mem_of_getElem? hu)).2
      by_cases hi' : u.1 = i
      · have hsh : S.show i = u.2 := shows_at _ _ _ m u hu hi' (fun j' u' h1 h2 => HG.out.2 j' u' h1 h2)
        have R := hide (CopyBytes_any wr (some ⟨x.1, 0, none⟩) 512 x.2 u.2 (hr.bs' hub.2) hub.1.symm (by rw [hub.1]; omega))
        have HSH := hide hsh
        rw [hi'] at d0
        clear hr hx hu hsh
        go_wp2_with (go_at_call 8; refine R.out.mono ?_; rintro e w2 ⟨a2, c2, rfl, hr2, hn2, hb2⟩; have H2 := hide (And.intro hr2 (And.intro hn2 hb2)); clear hr2 hn2 hb2)
        go_ret
        exact ⟨a2, c2, rfl, by rw [HSH.out]; exact H2.out.1, H2.out.2.1.mono HG.out.1.size, bt HG.out.1 H2.out.2.2⟩
      · have d3 : (((u.1 : Nat) : Int) == (i : Int)) = false := eqf (by omega)
        have d4 : ¬ ((u.1 : Nat) : Int) = (i : Int) := by omega
        have HU := hide hu
        have hw1 : wrap64 ((m : Int) - 1) = (m : Int) - 1 := by unfold wrap64; omega
        clear hr hx hu
        go_wp2
        go_roundw
        case rel =>
          refine ⟨m, (m : Int) - 1, by omega, by first | rfl | (go_num), rfl, HG.out.1, fun j' u' h1 h2 => ?_⟩
          by_cases e : j' = m
          · subst e
            have := HU.out
            rw [this] at h2
            cases h2
            exact hi'
          · exact HG.out.2 j' u' (by omega) h2
        case measure => simp [intOf]
    | zero =>
      obtain rfl : e = -1 := by omega
      clear he
      have hsh : S.show i = S.last i := shows_none _ _ _ (fun u hu => by
        obtain ⟨j', hj'⟩ := List.getElem?_of_mem hu
        exact HG.out.2 j' u (Nat.zero_le _) hj')
      have HSH := hide hsh
      have hlb := H.out.ok.last i
      have hk := H.out.keep HG.out.1
      have c0 : wr.cell? ⟨q, 0, none⟩ = some (.slice (some ⟨la, 0, none⟩) S.img.length lc) := hk.cell 0
      have hn1 := H.out.ok.n1
      have hlen := H.out.ok.imgLen
      have hcap : S.img.length ≤ lc := by
        rcases hk.l.cases with ⟨e, _⟩ | ⟨g, cur, _, _, e, _⟩
        · cases e
        · exact e
      have hcm : lc ≤ 9223372036854775807 := by
        rcases hk.l.cases with ⟨e, _⟩ | ⟨g, cur, _, _, _, e, _⟩
        · cases e
        · unfold maxLen at e; omega
      have R := hide (CopyBytes_any wr (some ⟨la, i * 512, none⟩) 512 (lc - i * 512) (S.last i) (hk.lastBs hi) hlb.1.symm (by rw [hlb.1]; omega))
      generalize S.last i = b at *
      clear hsh
      generalize S.img.length = ln at *
      have h5 : (i + 1) * 512 ≤ S.n * 512 := Nat.mul_le_mul_right _ hi
      obtain ⟨P, hP⟩ : ∃ P, P = i * 512 := ⟨_, rfl⟩
      have hm1 : IntKind.i64.wrap ((i : Int) * 512) = (P : Int) := by rw [wrapI (by omega) (by omega)]; omega
      have hm2 : IntKind.i64.wrap (((i : Int) + 1) * 512) = ((P + 512 : Nat) : Int) := by rw [wrapI (by omega) (by omega)]; omega
      have hm3 := w64 (j := i) (by omega)
      rw [← hP] at R
      have hPb : P + 512 ≤ ln := by omega
      have q1 : ((P : Int)) ≤ ((P + 512 : Nat) : Int) := by omega
      have q2 : (0 : Int) ≤ (P : Int) := by omega
      have q3 : P ≠ lc := by omega
      have q4 : ¬ lc = P := by omega
      have q5 : ((P + 512 : Nat) : Int) ≤ (lc : Int) := by omega
      have q6 : (0 : Int) ≤ ((P + 512 : Nat) : Int) := by omega
      have q7 : P + 512 - P = 512 := by omega
      clear hP h5 hlen hn1 hk hlb
      go_wp2_with (go_at_call 8; refine R.out.mono ?_; rintro e w2 ⟨a2, c2, rfl, hr2, hn2, hb2⟩; have H2 := hide (And.intro hr2 (And.intro hn2 hb2)); clear hr2 hn2 hb2)
      go_ret
      exact ⟨a2, c2, rfl, by rw [HSH.out]; exact H2.out.1, H2.out.2.1.mono HG.out.1.size, bt HG.out.1 H2.out.2.2⟩
set_option maxHeartbeats 1000000 in
theorem hRead_any (h : HkAt F w q la lc wa wc A S) (i : Int) :
    Calls Try.prog 14 #[.pointer (some ⟨q, 0, none⟩), .int .i64 i] w fun e w' => ∃ a c, e = .returned (.tuple #[.slice a (S.read i).length c, .int .i64 (S.readE i : Int)]) ∧ Rw w' a c (S.read i) ∧ New w none a ∧ Below w.heap.size w w' := by
  have c4 : w.cell? ⟨q, 2, none⟩ = some (.bool S.pow) := h.cell 2
  have H1 := hide (hhas_any h i)
  cases hp : S.pow with
  | false =>
    have e1 : S.read i = [] := by unfold Sd.read; rw [if_pos hp]
    have e2 : S.readE i = 17 := by unfold Sd.readE; rw [if_pos hp]
    rw [hp] at c4
    rw [e1, e2]
    clear h H1 e1 e2 hp
    go_enter Try.func14, Try.ntmps14
    go_wp2
    go_ret2
    exact ⟨none, 0, rfl, Rw.nil _, New.none _ _, Below.refl _ _⟩
  | true =>
    rw [hp] at c4
    cases hh : S.has i with
    | false =>
      have e1 : S.read i = [] := by unfold Sd.read; rw [if_neg (by rw [hp]; decide), if_pos hh]
      have e2 : S.readE i = 16 := by unfold Sd.readE; rw [if_neg (by rw [hp]; decide), if_pos hh]
      rw [hh] at H1
      rw [e1, e2]
      clear h e1 e2 hp hh
      go_enter Try.func14, Try.ntmps14
      go_wp2_with (go_at_call 42; refine H1.out.mono ?_; rintro e w1 ⟨rfl, e1⟩; have e1 := e1.symm; subst e1)
      go_ret2
      exact ⟨none, 0, rfl, Rw.nil _, New.none _ _, Below.refl _ _⟩
    | true =>
      obtain ⟨h0, hn⟩ := Sd.has_iff.1 hh
      obtain ⟨j, rfl⟩ : ∃ j : Nat, i = (j : Int) := ⟨i.toNat, by omega⟩
      have e1 : S.read (j : Int) = S.show j := by unfold Sd.read; rw [if_neg (by rw [hp]; decide), if_neg (by rw [hh]; decide)]; rfl
      have e2 : S.readE (j : Int) = 0 := by unfold Sd.readE; rw [if_neg (by rw [hp]; decide), if_neg (by rw [hh]; decide)]
      rw [hh] at H1
      have H2 := hide (hShows_any h j (by omega))
      have hb := h.ok.show j
      rw [e1, e2]
      generalize S.show j = b at *
      have hl := hb.1
      clear h e1 e2 hp hh
      go_enter Try.func14, Try.ntmps14
      go_wp2_with (first | (go_at_call 42; refine H1.out.mono ?_; rintro e w1 ⟨rfl, e1⟩; have e1 := e1.symm; subst e1) | (go_at_call 48; refine H2.out.mono ?_; rintro e w2 ⟨a2, c2, rfl, hr2, hn2, hb2⟩; have H3 := hide (And.intro hr2 (And.intro hn2 hb2)); clear hr2 hn2 hb2))
      go_ret2
      exact ⟨a2, c2, by rw [hl]; rfl, H3.out⟩
end
end Go.Proofs.Ytlflcdjaknnfaab
