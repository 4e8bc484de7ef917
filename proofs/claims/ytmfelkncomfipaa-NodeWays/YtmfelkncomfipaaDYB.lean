import Derived.Test.YtmfelkncomfipaaDY
import Derived.Test.YtmfelkncomfipaaDMB
namespace Go.Proofs.Ytmfelkncomfipaa
set_option linter.unusedVariables false
set_option linter.unusedSimpArgs false

/-! ### the items of two neighbours -/
structure Pr (kd lv : Int) (J : List It) : Prop where
  k : kd = 1 ∨ kd = 2
  v1 : kd = 1 → lv = 0
  v2 : kd = 2 → 1 ≤ lv ∧ lv ≤ 11
  b : Bo kd J
  kx : Kx kd J
  b8 : ∀ x ∈ J, B8 x.key
theorem kr_lo {L : List It} (h : Kr L) {x : It} (hx : x ∈ L) : (L.getD 0 It.zero).key ≤ x.key := by
  obtain ⟨i, hi, e⟩ := List.mem_iff_getElem.1 hx
  have e2 : L.getD i It.zero = x := by simp [hi, e]
  by_cases h0 : i = 0
  · subst h0; rw [e2]; grind
  · have := adj_pw h.2 (i := 0) (j := i) (by omega) hi
    rw [e2] at this
    grind
theorem kr_hi {L : List It} (h : Kr L) {x : It} (hx : x ∈ L) : x.key ≤ (L.getD (L.length - 1) It.zero).key := by
  obtain ⟨i, hi, e⟩ := List.mem_iff_getElem.1 hx
  have e2 : L.getD i It.zero = x := by simp [hi, e]
  by_cases h0 : i = L.length - 1
  · rw [← h0, e2]; grind
  · have := adj_pw h.2 (i := i) (j := L.length - 1) (by omega) (by omega)
    rw [e2] at this
    grind
theorem Kr.sub {L M : List It} (h : Kr L) (hs : M.Sublist L) : Kr M := ⟨fun x hx => h.1 x (hs.subset hx), h.2.sublist hs⟩
theorem jnd1 {lv lv2 n n2 : Int} {d d2 : List Nat} {A B : List It} {s : List Nat} (hB : 1 ≤ B.length) : jnd ⟨1, lv, A, d, n⟩ ⟨1, lv2, B, d2, n2⟩ s = A ++ B := by
  cases B with
  | nil => simp at hB
  | cons y T =>
    unfold jnd
    rw [if_neg (show ¬ (1 : Int) = 2 by decide)]
    rfl
theorem jnd2 {lv lv2 n n2 : Int} {d d2 : List Nat} {A T : List It} {y : It} {s : List Nat} : jnd ⟨2, lv, A, d, n⟩ ⟨2, lv2, y :: T, d2, n2⟩ s = A ++ y.keyed s :: T := by
  unfold jnd
  rw [if_pos (show (2 : Int) = 2 by decide)]
  rfl
theorem fit_pr {l r : Pg} {s : List Nat} (h : Fit l r s) (hl : ∀ x ∈ l.items, B8 x.key) (hr : ∀ x ∈ r.items, B8 x.key) (hs : B8 s) : Pr l.kind l.level (jnd l r s) := by
  obtain ⟨c1, c2, ek, el, n3, s1, s2, hlt, hge⟩ := h
  have o1 := okp_of n3 c1
  have o2 := okp_of (by rw [← ek]; exact n3) c2
  have k := o1.k
  obtain ⟨κ, lv, A, d, n⟩ := l
  obtain ⟨κ2, lv2, B, d2, n2⟩ := r
  simp only at ek el n3 k hl hr hlt hge
  subst ek el
  have kx1 := o1.kx
  have kx2 := o2.kx
  have b1 := o1.b
  have b2 := o2.b
  have v1 := o1.v1
  have v2 := o1.v2
  have lB := o2.l1
  unfold Kx at kx1 kx2
  simp only at kx1 kx2 b1 b2 v1 v2 lB
  simp only [Pg.at] at hlt hge
  rcases k with rfl | rfl
  · rw [if_pos rfl] at kx1 kx2 hge
    rw [jnd1 lB]
    refine ⟨.inl rfl, v1, v2, Bo.app.2 ⟨b1, b2⟩, ?_, fun x hx => ?_⟩
    · unfold Kx
      rw [if_pos rfl]
      refine Kr.app.2 ⟨kx1, kx2, fun x hx y hy => ?_⟩
      have h1 := kr_hi kx1 hx
      have h2 := kr_lo kx2 hy
      grind
    · rcases List.mem_append.1 hx with h | h
      · exact hl x h
      · exact hr x h
  · rw [if_neg (show ¬ (2 : Int) = 1 by decide)] at kx1 kx2 hge
    obtain ⟨x0, A', rfl, hx0, kA⟩ := kx1
    obtain ⟨y, T, rfl, hy0, kT⟩ := kx2
    rw [jnd2]
    have hT : 0 < T.length := by have := o2.l2 rfl; simp only [List.length_cons] at this; omega
    have hA : 0 < A'.length := by have := o1.l2 rfl; simp only [List.length_cons] at this; omega
    have sT : ∀ z ∈ T, s < z.key := fun z hz => by
      have h2 := kr_lo kT hz
      have h3 : s < (T.getD 0 It.zero).key := by simpa using hge
      grind
    have sA : ∀ z ∈ A', z.key < s := fun z hz => by
      have h2 := kr_hi kA hz
      have e : (x0 :: A').getD ((x0 :: A').length - 1) It.zero = A'.getD (A'.length - 1) It.zero := by
        rw [List.length_cons, Nat.add_sub_cancel]
        obtain ⟨q, hq⟩ : ∃ q, A'.length = q + 1 := ⟨A'.length - 1, by omega⟩
        rw [hq, List.getD_cons_succ, Nat.add_sub_cancel]
      rw [e] at hlt
      grind
    refine ⟨.inr rfl, v1, v2, ?_, ?_, fun x hx => ?_⟩
    · refine Bo.app.2 ⟨b1, fun x hx => ?_⟩
      rcases List.mem_cons.1 hx with rfl | hx
      · exact b2 y (by simp)
      · exact b2 x (List.mem_cons_of_mem _ hx)
    · unfold Kx
      rw [if_neg (show ¬ (2 : Int) = 1 by decide)]
      refine ⟨x0, A' ++ y.keyed s :: T, rfl, hx0, Kr.app.2 ⟨kA, ⟨fun x hx => ?_, List.pairwise_cons.2 ⟨fun z hz => sT z hz, kT.2⟩⟩, fun x hx z hz => ?_⟩⟩
      · rcases List.mem_cons.1 hx with rfl | hx
        · exact ⟨s1, s2⟩
        · exact kT.1 x hx
      · rcases List.mem_cons.1 hz with rfl | hz
        · exact sA x hx
        · have := sA x hx
          have := sT z hz
          grind
    · rcases List.mem_append.1 hx with h | h
      · exact hl x h
      · rcases List.mem_cons.1 h with rfl | h
        · exact hs
        · exact hr x (List.mem_cons_of_mem _ h)
/-- two pages that the items are parted into -/
structure Ptd (k lv : Int) (J : List It) (n : Nat) (Z : Hv) : Prop where
  ok : Z.ok = true
  j : jnd Z.l Z.r Z.s = J
  l : Z.l = ⟨k, lv, J.take n, [], 0⟩
  r : Z.r = ⟨k, lv, if k = 2 then (J.getD n It.zero).keyed [] :: J.drop (n + 1) else J.drop n, [], 0⟩
  s2 : k = 2 → Z.s = (J.getD n It.zero).key
  s1 : k = 1 → (J.getD (n - 1) It.zero).key < Z.s ∧ Z.s ≤ (J.getD n It.zero).key
  ln : 1 ≤ Z.s.length ∧ Z.s.length ≤ 24
  b : B8 Z.s
theorem Pr.at {k lv : Int} {J : List It} (h : Pr k lv J) {i j : Nat} (hij : i < j) (hj : j < J.length) : (J.getD i It.zero).key < (J.getD j It.zero).key := by
  have kx := h.kx
  unfold Kx at kx
  rcases h.k with rfl | rfl
  · rw [if_pos rfl] at kx
    exact adj_pw kx.2 hij hj
  · rw [if_neg (show ¬ (2 : Int) = 1 by decide)] at kx
    obtain ⟨x, T, rfl, hx, hT⟩ := kx
    obtain ⟨q, rfl⟩ : ∃ q, j = q + 1 := ⟨j - 1, by omega⟩
    have hq : q < T.length := by simpa using hj
    rw [List.getD_cons_succ]
    cases i with
    | zero =>
      rw [List.getD_cons_zero, hx]
      exact nil_lt (hT.1 (T.getD q It.zero) (by simp [hq])).1
    | succ i =>
      rw [List.getD_cons_succ]
      exact adj_pw hT.2 (by omega) hq
theorem Pr.len {k lv : Int} {J : List It} (h : Pr k lv J) {i : Nat} (h1 : 1 ≤ i) (hj : i < J.length) : 1 ≤ (J.getD i It.zero).key.length ∧ (J.getD i It.zero).key.length ≤ 24 := by
  have kx := h.kx
  unfold Kx at kx
  rcases h.k with rfl | rfl
  · rw [if_pos rfl] at kx
    exact kx.1 _ (by simp [hj])
  · rw [if_neg (show ¬ (2 : Int) = 1 by decide)] at kx
    obtain ⟨x, T, rfl, hx, hT⟩ := kx
    obtain ⟨q, rfl⟩ : ∃ q, i = q + 1 := ⟨i - 1, by omega⟩
    have hq : q < T.length := by simpa using hj
    rw [List.getD_cons_succ]
    exact hT.1 _ (by simp [hq])
theorem Pr.le24 {k lv : Int} {J : List It} (h : Pr k lv J) {i : Nat} (hj : i < J.length) : (J.getD i It.zero).key.length ≤ 24 := by
  have kx := h.kx
  unfold Kx at kx
  rcases h.k with rfl | rfl
  · rw [if_pos rfl] at kx
    exact (kx.1 _ (by simp [hj])).2
  · by_cases h1 : 1 ≤ i
    · exact (h.len h1 hj).2
    · obtain rfl : i = 0 := by omega
      rw [if_neg (show ¬ (2 : Int) = 1 by decide)] at kx
      obtain ⟨x, T, rfl, hx, hT⟩ := kx
      simp [hx]
theorem drop_at {J : List It} {n : Nat} (hn : n < J.length) : J.drop n = J.getD n It.zero :: J.drop (n + 1) := by
  rw [List.drop_eq_getElem_cons hn]; simp [hn]
theorem keyed_back (x : It) : (x.keyed []).keyed x.key = x := rfl
theorem Pr.ptd {k lv : Int} {J : List It} (h : Pr k lv J) {l r : Pg} (lk : l.kind = k) (ll : l.level = lv) (ld : l.data = []) (ln : l.next = 0) (rk : r.kind = k) (rl : r.level = lv) (rd : r.data = []) (rn : r.next = 0) {n : Nat} (h1 : 1 ≤ n) (hn : n < J.length) :
    Ptd k lv J n (prt (l.wi (J.take n)) (r.wi (J.drop n))) := by
  obtain ⟨lk', ll', li, ld', ln'⟩ := l
  obtain ⟨rk', rl', ri, rd', rn'⟩ := r
  simp only at lk ll ld ln rk rl rd rn
  subst lk ll ld ln rk rl rd rn
  rcases h.k with rfl | rfl
  · have hb := btw_yes (h.at (i := n - 1) (j := n) (by omega) hn) (h.le24 (by omega)) (h.le24 hn) (h.b8 _ (by simp [hn]))
    rw [prt_leaf (show ¬ (1 : Int) = 2 by decide) h1 hn, if_pos hb.1]
    refine ⟨rfl, ?_, rfl, rfl, (fun e => by cases e), fun _ => ⟨hb.2.1, hb.2.2.1⟩, hb.2.2.2, ?_⟩
    · show jnd ⟨1, _, J.take n, [], 0⟩ ⟨1, _, J.drop n, [], 0⟩ _ = J
      rw [jnd1 (by rw [List.length_drop]; omega), List.take_append_drop]
    · exact between_b8 (h.b8 _ (by simp [show n - 1 < J.length by omega])) (h.b8 _ (by simp [hn]))
  · rw [prt_idx rfl hn]
    refine ⟨rfl, ?_, rfl, rfl, fun _ => rfl, (fun e => by cases e), h.len h1 hn, h.b8 _ (by simp [hn])⟩
    show jnd ⟨2, _, J.take n, [], 0⟩ ⟨2, _, (J.getD n It.zero).keyed [] :: J.drop (n + 1), [], 0⟩ (J.getD n It.zero).key = J
    rw [jnd2, keyed_back, ← drop_at hn, List.take_append_drop]
theorem kr_drop {J : List It} {n : Nat} (h : Kr J) : Kr (J.drop n) := h.sub (List.drop_sublist _ _)
theorem kr_take {J : List It} {n : Nat} (h : Kr J) : Kr (J.take n) := h.sub (List.take_sublist _ _)
theorem Ptd.fit {k lv : Int} {J : List It} {n : Nat} {Z : Hv} (h : Ptd k lv J n Z) (p : Pr k lv J) (h1 : 1 ≤ n) (hn : n < J.length) (h8 : n ≤ 8) (h9 : J.length - n ≤ 8) (h2 : k = 2 → 2 ≤ n ∧ 2 ≤ J.length - n) : Fit Z.l Z.r Z.s := by
  have kx := p.kx
  have pb := p.b
  have bt1 : Bo k (J.take n) := fun x hx => pb x (List.mem_of_mem_take hx)
  have bt2 : Bo k (J.drop n) := fun x hx => pb x (List.mem_of_mem_drop hx)
  unfold Kx at kx
  have hlen : (J.take n).length = n := by rw [List.length_take]; omega
  have lastE : (J.take n).getD ((J.take n).length - 1) It.zero = J.getD (n - 1) It.zero := by
    rw [hlen]
    simp [List.getD_eq_getElem?_getD, List.getElem?_take, show n - 1 < n by omega]
  rw [h.l, h.r]
  rcases p.k with rfl | rfl
  · rw [if_pos rfl] at kx
    have o1 : Okp ⟨1, lv, J.take n, [], 0⟩ := ⟨.inl rfl, rfl, rfl, p.v1, p.v2, by show (J.take n).length ≤ 8; omega, by show 1 ≤ (J.take n).length; omega, (fun h => by cases h), bt1, by unfold Kx; rw [if_pos rfl]; exact kr_take kx⟩
    have o2 : Okp ⟨1, lv, J.drop n, [], 0⟩ := ⟨.inl rfl, rfl, rfl, p.v1, p.v2, by show (J.drop n).length ≤ 8; rw [List.length_drop]; omega, by show 1 ≤ (J.drop n).length; rw [List.length_drop]; omega, (fun h => by cases h), bt2, by unfold Kx; rw [if_pos rfl]; exact kr_drop kx⟩
    rw [if_neg (show ¬ (1 : Int) = 2 by decide)]
    have s1 := h.s1 rfl
    refine ⟨of_okp o1, of_okp o2, rfl, rfl, (by show ¬ (1 : Int) = 3; decide), h.ln.1, h.ln.2, ?_, ?_⟩
    · show ((J.take n).getD ((J.take n).length - 1) It.zero).key < Z.s
      rw [lastE]; exact s1.1
    · rw [if_pos rfl]
      show Z.s ≤ ((J.drop n).getD 0 It.zero).key
      rw [drop_at hn]; exact s1.2
  · obtain ⟨q1, q2⟩ := h2 rfl
    rw [if_neg (show ¬ (2 : Int) = 1 by decide)] at kx
    obtain ⟨x, T, rfl, hx, hT⟩ := kx
    obtain ⟨q, rfl⟩ : ∃ q, n = q + 1 := ⟨n - 1, by omega⟩
    have o1 : Okp ⟨2, lv, (x :: T).take (q + 1), [], 0⟩ := ⟨.inr rfl, rfl, rfl, p.v1, p.v2, by show ((x :: T).take (q + 1)).length ≤ 8; omega, by show 1 ≤ ((x :: T).take (q + 1)).length; omega, fun _ => by show 2 ≤ ((x :: T).take (q + 1)).length; omega, bt1, by unfold Kx; rw [if_neg (show ¬ (2 : Int) = 1 by decide)]; exact ⟨x, T.take q, rfl, hx, kr_take hT⟩⟩
    have o2 : Okp ⟨2, lv, ((x :: T).getD (q + 1) It.zero).keyed [] :: (x :: T).drop (q + 1 + 1), [], 0⟩ := by
      refine ⟨.inr rfl, rfl, rfl, p.v1, p.v2, ?_, ?_, fun _ => ?_, fun y hy => ?_, ?_⟩
      · show (_ :: (x :: T).drop (q + 1 + 1)).length ≤ 8
        rw [List.length_cons, List.length_drop]; omega
      · show 1 ≤ (_ :: (x :: T).drop (q + 1 + 1)).length
        rw [List.length_cons]; omega
      · show 2 ≤ (_ :: (x :: T).drop (q + 1 + 1)).length
        rw [List.length_cons, List.length_drop]; omega
      · rcases List.mem_cons.1 hy with rfl | hy
        · exact pb ((x :: T).getD (q + 1) It.zero) (by simp at hn; simp [hn])
        · exact pb y (List.mem_of_mem_drop hy)
      · unfold Kx
        rw [if_neg (show ¬ (2 : Int) = 1 by decide)]
        exact ⟨_, _, rfl, rfl, by rw [List.drop_succ_cons]; exact kr_drop hT⟩
    rw [if_pos rfl]
    refine ⟨of_okp o1, of_okp o2, rfl, rfl, (by show ¬ (2 : Int) = 3; decide), h.ln.1, h.ln.2, ?_, ?_⟩
    · show (((x :: T).take (q + 1)).getD (((x :: T).take (q + 1)).length - 1) It.zero).key < Z.s
      rw [lastE, h.s2 rfl]
      exact p.at (by omega) hn
    · rw [if_neg (show ¬ (2 : Int) = 1 by decide), h.s2 rfl]
      show _ < ((_ :: (x :: T).drop (q + 1 + 1)).getD 1 It.zero).key
      have e : ((((x :: T).getD (q + 1) It.zero).keyed [] :: (x :: T).drop (q + 1 + 1)).getD 1 It.zero) = (x :: T).getD (q + 1 + 1) It.zero := by
        rw [List.getD_cons_succ]
        simp [List.getD_eq_getElem?_getD]
      rw [e]
      exact p.at (by omega) (by omega)
/-- the pages that the items were parted into first -/
theorem fit_back {l r : Pg} {s : List Nat} (h : Fit l r s) : l = ⟨l.kind, l.level, (jnd l r s).take l.items.length, [], 0⟩ ∧ r = ⟨l.kind, l.level, if l.kind = 2 then ((jnd l r s).getD l.items.length It.zero).keyed [] :: (jnd l r s).drop (l.items.length + 1) else (jnd l r s).drop l.items.length, [], 0⟩ ∧ (l.kind = 2 → s = ((jnd l r s).getD l.items.length It.zero).key) ∧ (jnd l r s).length = l.items.length + r.items.length := by
  obtain ⟨c1, c2, ek, el, n3, s1, s2, hlt, hge⟩ := h
  have o1 := okp_of n3 c1
  have o2 := okp_of (by rw [← ek]; exact n3) c2
  have k := o1.k
  obtain ⟨κ, lv, A, d, n⟩ := l
  obtain ⟨κ2, lv2, B, d2, n2⟩ := r
  have d1 := o1.d
  have e1 := o1.n
  have d3 := o2.d
  have e3 := o2.n
  have kx2 := o2.kx
  have lB := o2.l1
  unfold Kx at kx2
  simp only at ek el n3 k d1 e1 d3 e3 kx2 lB
  subst ek el d1 e1 d3 e3
  rcases k with rfl | rfl
  · rw [jnd1 lB]
    simp
  · rw [if_neg (show ¬ (2 : Int) = 1 by decide)] at kx2
    obtain ⟨y, T, rfl, hy, kT⟩ := kx2
    rw [jnd2]
    refine ⟨by simp, ?_, fun _ => by simp [It.keyed], by simp⟩
    rw [if_pos rfl]
    have e4 : (A ++ y.keyed s :: T).getD A.length It.zero = y.keyed s := by simp
    have e5 : (A ++ y.keyed s :: T).drop (A.length + 1) = T := by
      rw [← List.drop_drop, List.drop_left]
      rfl
    rw [e4, e5]
    have e6 : (y.keyed s).keyed [] = y := by
      obtain ⟨a, b, c, d⟩ := y
      simp only at hy
      subst hy
      rfl
    rw [e6]
end Go.Proofs.Ytmfelkncomfipaa
