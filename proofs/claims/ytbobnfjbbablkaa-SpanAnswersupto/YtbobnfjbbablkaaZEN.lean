import Derived.Test.YtbobnfjbbablkaaZEM
namespace Go.Proofs.Ytbobnfjbbablkaa
open Go.RowKit

theorem drew1' (w : World) : Below w.heap.size w w.drew := (Below.refl _ _).drew
/-- two calls that came in, in their variables -/
structure Bx (w W : World) (pc oc : Array Value) : Prop where
  m0 : W.heap[w.heap.size]? = some (.cells pc 29 (0, 0))
  m1 : W.heap[w.heap.size + 1]? = some (.cells oc 29 (0, 0))
  b : Below w.heap.size w W
theorem Bx.keep {w W W' : World} {pc oc : Array Value} (h : Bx w W pc oc) (hb : Below W.heap.size W W') : Bx w W' pc oc := ⟨blk_keep h.m0 hb, blk_keep h.m1 hb, bt h.b hb⟩
theorem Bx.start {w W : World} {pc oc : Array Value} (hb : Below ((w.alloc (.cells pc 29)).alloc (.cells oc 29)).heap.size ((w.alloc (.cells pc 29)).alloc (.cells oc 29)) W) : Bx w W pc oc := by
  obtain ⟨h1, h2, h3, _⟩ := two_blocks _ _ _ hb
  exact ⟨h1, h2, h3⟩
theorem Kept_sl (w : World) (a ab : Option Addr) (c cb : Nat) (l : List Nat) (h : Sl w a c l) (hB : Bs w ab l) : Calls Try.prog 46 #[.slice a l.length c, .slice ab l.length cb] w fun e w' => e = .returned (.bool true) ∧ Below w.heap.size w w' := by
  obtain ⟨⟨g, rfl, hr⟩, rfl, hn, _⟩ := h
  exact Kept_any w g (l.length + 64) ab l.length l.length cb l hr hB rfl rfl rfl (by omega)
theorem kept_S {w w' : World} {g j b k z : Nat} {a1 a2 a3 b1 b2 b3 c1 : Value} (hb : Below w.heap.size w w') (h1 : w.cell? ⟨g, j * 3, none⟩ = some a1 ∧ w.cell? ⟨g, j * 3 + 1, none⟩ = some a2 ∧ w.cell? ⟨g, j * 3 + 2, none⟩ = some a3) (h2 : w.cell? ⟨b, k + j * 3, none⟩ = some b1 ∧ w.cell? ⟨b, k + j * 3 + 1, none⟩ = some b2 ∧ w.cell? ⟨b, k + j * 3 + 2, none⟩ = some b3) (h3 : w.cell? ⟨z, 9, none⟩ = some c1) :
    (w'.cell? ⟨g, j * 3, none⟩ = some a1 ∧ w'.cell? ⟨g, j * 3 + 1, none⟩ = some a2 ∧ w'.cell? ⟨g, j * 3 + 2, none⟩ = some a3) ∧ (w'.cell? ⟨b, k + j * 3, none⟩ = some b1 ∧ w'.cell? ⟨b, k + j * 3 + 1, none⟩ = some b2 ∧ w'.cell? ⟨b, k + j * 3 + 2, none⟩ = some b3) ∧ w'.cell? ⟨z, 9, none⟩ = some c1 :=
  ⟨⟨(hb.cell (block_lt_of_cell h1.1)).trans h1.1, (hb.cell (block_lt_of_cell h1.2.1)).trans h1.2.1, (hb.cell (block_lt_of_cell h1.2.2)).trans h1.2.2⟩, ⟨(hb.cell (block_lt_of_cell h2.1)).trans h2.1, (hb.cell (block_lt_of_cell h2.2.1)).trans h2.2.1, (hb.cell (block_lt_of_cell h2.2.2)).trans h2.2.2⟩, (hb.cell (block_lt_of_cell h3)).trans h3⟩
theorem mark_bs (W : World) (j : Nat) : Bs (W.alloc (.cells #[.int .u8 ((j : Int) % 256), .int .u8 200] 5)) (some ⟨W.heap.size, 0, none⟩) [j % 256, 200] := by
  have h := lit2 W (0, 0) (j % 256) 200 5 rfl ⟨Nat.mod_lt _ (by decide), by decide⟩
  rw [show (((j % 256 : Nat) : Int)) = (j : Int) % 256 by omega] at h
  exact h
theorem front_get {P D : List Rv} {j : Nat} (h : j < P.length) : (P ++ D).getD j Rv.zero = P.getD j Rv.zero := by simp [List.getElem?_append_left h]
theorem back_get {P D : List Rv} {j : Nat} (h : P.length ≤ j) : (P ++ D).getD j Rv.zero = D.getD (j - P.length) Rv.zero := by simp [List.getElem?_append_right h]
theorem getD_map {P M : List Rv} (h : P.map Rv.rg = M.map Rv.rg) {j : Nat} (hj : j < M.length) : (P.getD j Rv.zero).rg = (M.getD j Rv.zero).rg := by
  have hl : P.length = M.length := by have := congrArg List.length h; simpa using this
  have h1 := congrArg (fun l => l[j]?) h
  have hp : j < P.length := by omega
  simp [hj, hp] at h1 ⊢
  exact h1
set_option maxRecDepth 100000 in
set_option maxHeartbeats 12800000 in
theorem gkept_any (w w0 : World) (p o : Ov) (hp : Sp w0 w o p) (ho : Oi w o) (hb0 : Ob o) :
    Calls Try.prog 14 #[.agg p.cs, .agg o.cs] w fun e w' => e = .returned (.bool true) ∧ Below w.heap.size w w' := by
  obtain ⟨ek, xA, xB, xR, xS, eM, hf, gM, D, hgM, hcM, _, hQ, hD, hMk⟩ := hp
  obtain ⟨kd, aA, cA, A, aB, cB, B, ⟨aL, cL, lo, aH, cH, hi, op⟩, ⟨bL, dL, ko, bH, dH, ki, oq⟩, aM, cM, P⟩ := p
  obtain ⟨kd', eA, fA, A', eB, fB, B', ⟨eL, fL, lo', eH, fH, hi', op'⟩, ⟨hL, iL, ko', hH, iH, ki', oq'⟩, bM, dM, M⟩ := o
  simp only [Rv.rg, Rg.mk.injEq] at ek xA xB xR xS
  dsimp only at eM hf hgM hcM hQ hMk
  obtain ⟨rfl, rfl, rfl⟩ := xR
  obtain ⟨rfl, rfl, rfl⟩ := xS
  subst ek xA xB hgM hcM
  have hlen : P.length = M.length := by have := congrArg List.length eM; simpa using this
  have K1 := hide fun w1 (hb : Below w.heap.size w w1) => Kept_sl w1 aA eA cA fA A ((hf.s ⟨aA, cA, A⟩ (by simp)).keep hb) (ho.a.keep hb)
  have K2 := hide fun w1 (hb : Below w.heap.size w w1) => Kept_sl w1 aB eB cB fB B ((hf.s ⟨aB, cB, B⟩ (by simp)).keep hb) (ho.b.keep hb)
  have K3 := hide fun w1 (hb : Below w.heap.size w w1) => gkeptRange_any w1 ⟨aL, cL, lo, aH, cH, hi, op⟩ ⟨eL, fL, lo, eH, fH, hi, op⟩ ((hf.s ⟨aL, cL, lo⟩ (by simp [Rv.rows])).keep hb) ((hf.s ⟨aH, cH, hi⟩ (by simp [Rv.rows])).keep hb) (ho.r.keep hb) rfl
  have K4 := hide fun w1 (hb : Below w.heap.size w w1) => gkeptRange_any w1 ⟨bL, dL, ko, bH, dH, ki, oq⟩ ⟨hL, iL, ko, hH, iH, ki, oq⟩ ((hf.s ⟨bL, dL, ko⟩ (by simp [Rv.rows])).keep hb) ((hf.s ⟨bH, dH, ki⟩ (by simp [Rv.rows])).keep hb) (ho.s.keep hb) rfl
  have KRJ : Hid (∀ j, j < M.length → ∀ w1, Below w.heap.size w w1 → Calls Try.prog 47 #[((P ++ D).getD j Rv.zero).val, (M.getD j Rv.zero).val] w1 fun e w' => e = .returned (.bool true) ∧ Below w1.heap.size w1 w') := fun j hj w1 hb => by
    rw [front_get (by omega)]
    have hr := rows_sub (getD_memR (L := P) (r := j) (by omega))
    have hs : ∀ t ∈ (P.getD j Rv.zero).rows, Sl w t.a t.c t.l := fun t ht => hf.s t (List.mem_append.2 (.inr (hr.subset ht)))
    exact gkeptRange_any w1 _ _ ((hs ⟨(P.getD j Rv.zero).aL, (P.getD j Rv.zero).cL, (P.getD j Rv.zero).lo⟩ (by simp [Rv.rows])).keep hb) ((hs ⟨(P.getD j Rv.zero).aH, (P.getD j Rv.zero).cH, (P.getD j Rv.zero).hi⟩ (by simp [Rv.rows])).keep hb) ((ho.m.1 _ (getD_memR hj)).keep hb) (getD_map eM hj)
  have EQJ : Hid (∀ j, M.length ≤ j → j < P.length + 3 → ∀ w1, Below w.heap.size w w1 → ∀ g, Bs w1 (some ⟨g, 0, none⟩) [j % 256, 200] → Calls Try.prog 29 #[((P ++ D).getD j Rv.zero).val, (Rv.mk (some ⟨g, 0, none⟩) 2 [j % 256, 200] none 0 [] true).val] w1 fun e w' => e = .returned (.bool true) ∧ Below w1.heap.size w1 w') := fun j hj hj2 w1 hb g hB => by
    rw [back_get (by omega)]
    have hm := hMk (j - P.length) (by omega)
    rw [show P.length + (j - P.length) = j by omega] at hm
    have h := EqRange_any w1 (D.getD (j - P.length) Rv.zero) ⟨some ⟨g, 0, none⟩, 2, [j % 256, 200], none, 0, [], true⟩ (hm.ri.keep hb) ⟨hB, Nat.le_refl _, Bs.nil _, Nat.le_refl _⟩
    rw [decide_eq_true (show (D.getD (j - P.length) Rv.zero).tp = _ from by rw [hm.e]; rfl)] at h
    exact h
  have HQ := hide hQ
  have HM := hide ho.m
  have hML := hb0.m
  dsimp only at hML
  have HNN : Hid (∃ n, n = M.length + 3) := ⟨_, rfl⟩
  obtain ⟨n, hn⟩ := HNN.out
  have HLN : Hid ((P ++ D).length = n) := by show _ = _; rw [List.length_append, hD, hn, hlen]
  have hadd : IntKind.i64.wrap ((M.length : Int) + 3) = (n : Int) := by rw [wrapI (by omega) (by omega)]; omega
  have hlt3 : M.length < n := by omega
  have hnb : n ≤ 1048579 := by omega
  rw [hlen, ← hn] at EQJ
  unfold Rv.val at K3 K4
  dsimp only [Rv.cs] at K3 K4
  dsimp only [Ov.cs]
  rw [hlen, ← hn]
  clear hf ho hb0 eM hQ hD hMk hML HNN
  have HN := hide hn
  have HLE := hide hlen
  clear hn hlen
  go_enter Try.func14, Try.ntmps14
  go_wp2_with fail
  refine (K1.out _ (bt (al _ _) (al _ _))).mono ?_
  rintro e w1 ⟨rfl, hb⟩
  have X := hide (Bx.start hb)
  clear hb
  obtain ⟨k0, k1, k2, k3, k4, k5, k6, k7, k8, k9⟩ := ten10 X.out.m0
  obtain ⟨l0, l1, l2, l3, l4, l5, l6, l7, l8, l9⟩ := ten10 X.out.m1
  go_wp2_with fail
  refine (K2.out _ X.out.b).mono ?_
  rintro e w2 ⟨rfl, hb⟩
  have X := hide (X.out.keep hb)
  clear hb
  clear k0 k1 k2 k3 k4 k5 k6 k7 k8 k9 l0 l1 l2 l3 l4 l5 l6 l7 l8 l9
  obtain ⟨k0, k1, k2, k3, k4, k5, k6, k7, k8, k9⟩ := ten10 X.out.m0
  obtain ⟨l0, l1, l2, l3, l4, l5, l6, l7, l8, l9⟩ := ten10 X.out.m1
  go_wp2_with fail
  refine (K3.out _ X.out.b).mono ?_
  rintro e w3 ⟨rfl, hb⟩
  have X := hide (X.out.keep hb)
  clear hb
  clear k0 k1 k2 k3 k4 k5 k6 k7 k8 k9 l0 l1 l2 l3 l4 l5 l6 l7 l8 l9
  obtain ⟨k0, k1, k2, k3, k4, k5, k6, k7, k8, k9⟩ := ten10 X.out.m0
  obtain ⟨l0, l1, l2, l3, l4, l5, l6, l7, l8, l9⟩ := ten10 X.out.m1
  go_wp2_with fail
  refine (K4.out _ X.out.b).mono ?_
  rintro e w4 ⟨rfl, hb⟩
  have X := hide (X.out.keep hb)
  clear hb
  clear k0 k1 k2 k3 k4 k5 k6 k7 k8 k9 l0 l1 l2 l3 l4 l5 l6 l7 l8 l9
  obtain ⟨k0, k1, k2, k3, k4, k5, k6, k7, k8, k9⟩ := ten10 X.out.m0
  obtain ⟨l0, l1, l2, l3, l4, l5, l6, l7, l8, l9⟩ := ten10 X.out.m1
  go_wp2
  clear k0 k1 k2 k3 k4 k5 k6 k7 k8 k9 l0 l1 l2 l3 l4 l5 l6 l7 l8 l9
  go_loopw [6] (fun i wx => ∃ j : Nat, j ≤ n ∧ i = .int .i64 j ∧ Bx w wx #[.int .i64 kd, .slice aA A.length cA, .slice aB B.length cB, .slice aL lo.length cL, .slice aH hi.length cH, .bool op, .slice bL ko.length dL, .slice bH ki.length dH, .bool oq, .slice (some ⟨gM, 0, none⟩) M.length n] #[.int .i64 kd, .slice eA A.length fA, .slice eB B.length fB, .slice eL lo.length fL, .slice eH hi.length fH, .bool op, .slice hL ko.length iL, .slice hH ki.length iH, .bool oq, .slice bM M.length dM]) (fun i _ => n - (intOf i).toNat)
  case atStart => exact ⟨0, Nat.zero_le _, rfl, X.out⟩
  case round =>
    obtain ⟨j, hj, rfl, hG⟩ := hrel
    have X := hide hG
    clear hG
    obtain ⟨l0, l1, l2, l3, l4, l5, l6, l7, l8, l9⟩ := ten10 X.out.m1
    have hj1 := w64 (j := j) (by omega)
    by_cases hlt : j < n
    · have hi1 : (j : Int) < (n : Int) := by omega
      obtain ⟨⟨p0, p1, p2⟩, _⟩ := (HQ.out.keep X.out.b).three (k := j) (by rw [HLN.out]; exact hlt)
      by_cases hm : j < M.length
      · have hi2 : (j : Int) < (M.length : Int) := by omega
        obtain ⟨b, off, hab, hrr⟩ := (HM.out.keep X.out.b).at hm
        have KR := hide fun w1 (hb : Below w.heap.size w w1) => KRJ.out j hm w1 hb
        generalize M.getD j Rv.zero = r at *
        generalize (P ++ D).getD j Rv.zero = u at *
        obtain ⟨m0, m1, m2⟩ := range3 hrr
        subst hab
        clear hrr
        unfold Rv.val at KR
        obtain ⟨r1, r2, rl, r3, r4, rh, ro⟩ := r
        obtain ⟨u1, u2, ul, u3, u4, uh, uo⟩ := u
        dsimp only [Rv.cs] at KR m0 m1 m2 p0 p1 p2
        go_wp2
        have S0 := kept_S (drew1' wr) (And.intro p0 (And.intro p1 p2)) (And.intro m0 (And.intro m1 m2)) l9
        have T0 := hide (bt X.out.b (drew1' wr))
        have XX := hide (X.out.keep (drew1' wr))
        clear l0 l1 l2 l3 l4 l5 l6 l7 l8 l9 p0 p1 p2 m0 m1 m2
        go_region_held3 (fun w' => (w'.cell? ⟨gM, j * 3, none⟩ = some (.slice u1 ul.length u2) ∧ w'.cell? ⟨gM, j * 3 + 1, none⟩ = some (.slice u3 uh.length u4) ∧ w'.cell? ⟨gM, j * 3 + 2, none⟩ = some (.bool uo)) ∧ (w'.cell? ⟨b, off + j * 3, none⟩ = some (.slice r1 rl.length r2) ∧ w'.cell? ⟨b, off + j * 3 + 1, none⟩ = some (.slice r3 rh.length r4) ∧ w'.cell? ⟨b, off + j * 3 + 2, none⟩ = some (.bool ro)) ∧ w'.cell? ⟨w.heap.size + 1, 9, none⟩ = some (.slice (some ⟨b, off, none⟩) M.length dM))
          (with_reducible exact S0)
          (first | (go_at_call 47; with_reducible refine (KR.out _ T0.out).mono ?_; rintro e w2 ⟨rfl, hb⟩; have XX := hide (XX.out.keep hb); have S0 := kept_S hb S0.1 S0.2.1 S0.2.2; clear hb))
        clear S0
        go_wp2
        go_roundw
        case rel => exact ⟨j + 1, by omega, by first | (go_num; done) | exact congrArg (Value.int IntKind.i64) (by omega), XX.out⟩
        case measure => first | exact meas_up _ _ _ hj1 hlt | exact meas_up _ _ _ rfl hlt | (simp [intOf]; omega)
      · have hi2 : ¬ (j : Int) < (M.length : Int) := by omega
        have hcv : IntKind.u8.wrap (j : Int) = ((j % 256 : Nat) : Int) := by simp [IntKind.wrap, IntKind.bits, IntKind.signed]
        have EQ := hide fun w1 (hb : Below w.heap.size w w1) g (hB : Bs w1 (some ⟨g, 0, none⟩) [j % 256, 200]) => EQJ.out j (by omega) hlt w1 hb g hB
        generalize (P ++ D).getD j Rv.zero = u at *
        unfold Rv.val at EQ
        obtain ⟨u1, u2, ul, u3, u4, uh, uo⟩ := u
        dsimp only [Rv.cs, List.length_cons, List.length_nil] at EQ p0 p1 p2
        have hgl := block_lt_of_cell p0
        dsimp only at hgl
        go_wp2_with fail
        refine (EQ.out _ (bt X.out.b (al _ _)) wr.heap.size (mark_bs wr j)).mono ?_
        rintro e w2 ⟨rfl, hb⟩
        have XX := hide ((X.out.keep (al _ _)).keep hb)
        clear hb p0 p1 p2 l0 l1 l2 l3 l4 l5 l6 l7 l8 l9
        go_wp2
        go_roundw
        case rel => exact ⟨j + 1, by omega, by first | (go_num; done) | exact congrArg (Value.int IntKind.i64) (by omega), XX.out⟩
        case measure => first | exact meas_up _ _ _ hj1 hlt | exact meas_up _ _ _ rfl hlt | (simp [intOf]; omega)
    · obtain rfl : j = n := by omega
      go_wp2
      go_ret
      exact ⟨rfl, X.out.b⟩
end Go.Proofs.Ytbobnfjbbablkaa
