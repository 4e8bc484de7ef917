import Derived.Test.YtbobnfjbbablkaaZFD
namespace Go.Proofs.Ytbobnfjbbablkaa
open Go.RowKit

theorem spoil_S {w w' : World} {g b k j : Nat} {a1 b1 b2 : Value} (hb : Below w.heap.size w w') (h : w.cell? ⟨g, 9, none⟩ = some a1 ∧ w.cell? ⟨b, k + j * 3, none⟩ = some b1 ∧ w.cell? ⟨b, k + j * 3 + 1, none⟩ = some b2) : w'.cell? ⟨g, 9, none⟩ = some a1 ∧ w'.cell? ⟨b, k + j * 3, none⟩ = some b1 ∧ w'.cell? ⟨b, k + j * 3 + 1, none⟩ = some b2 :=
  ⟨(hb.cell (block_lt_of_cell h.1)).trans h.1, (hb.cell (block_lt_of_cell h.2.1)).trans h.2.1, (hb.cell (block_lt_of_cell h.2.2)).trans h.2.2⟩
theorem spoil_S2 {w w' : World} {g b k j : Nat} {a1 b1 b2 : Value} (hb : Below w.heap.size w w') (h1 : w'.cell? ⟨g, 9, none⟩ = some a1) (h : w.cell? ⟨b, k + j * 3, none⟩ = some b1 ∧ w.cell? ⟨b, k + j * 3 + 1, none⟩ = some b2) : w'.cell? ⟨g, 9, none⟩ = some a1 ∧ w'.cell? ⟨b, k + j * 3, none⟩ = some b1 ∧ w'.cell? ⟨b, k + j * 3 + 1, none⟩ = some b2 :=
  ⟨h1, (hb.cell (block_lt_of_cell h.1)).trans h.1, (hb.cell (block_lt_of_cell h.2)).trans h.2⟩
def Br0 : Br := ⟨none, 0, []⟩
def tA (T : List Br) (i : Nat) : Option Addr := (T.getD i Br0).a
def tC (T : List Br) (i : Nat) : Nat := (T.getD i Br0).c
def tL (T : List Br) (i : Nat) : List Nat := (T.getD i Br0).l
theorem t_mem {T : List Br} {i : Nat} (h : i < T.length) : T.getD i Br0 ∈ T := by simp [h]
theorem Fam.rowsG {w W : World} {T : List Br} (h : Fam w W T) : RowsG W T.length (tA T) (tC T) (tL T) := fun _ hi => (h.own _ (t_mem hi)).1.r
theorem Fam.distG {w W : World} {T : List Br} (h : Fam w W T) : Dist T.length (tA T) := by
  intro i j hi hj hne x y hx hy
  have hp := List.pairwise_iff_getElem.1 h.dist
  have ei : T.getD i Br0 = T[i] := by simp [hi]
  have ej : T.getD j Br0 = T[j] := by simp [hj]
  unfold tA at hx hy
  rw [ei] at hx
  rw [ej] at hy
  rcases Nat.lt_or_gt_of_ne hne with h1 | h1
  · exact hp i j hi hj h1 x y hx hy
  · exact fun e => hp j i hj hi h1 y x hy hx e.symm
theorem bv_get (T : List Br) {i : Nat} (hi : i < T.length) : (T.map bv)[i]? = some (.slice (tA T i) (tL T i).length (tC T i)) := by
  simp [hi, bv, tA, tL, tC]
theorem set_b8 {l : List Nat} {k x : Nat} (h : B8 l) (hx : x < 256) : B8 (l.set k x) := fun y hy => by
  rcases List.mem_or_eq_of_mem_set hy with h1 | h1
  · exact h y h1
  · omega
theorem set_all {n j k z : Nat} {G L : Nat → List Nat} (h : ∀ i, i < n → (G i).length = (L i).length ∧ B8 (G i)) (hz : z < 256) : ∀ i, i < n → ((if i = j then (G j).set k z else G i).length = (L i).length ∧ B8 (if i = j then (G j).set k z else G i)) := by
  intro i hi
  by_cases e : i = j
  · subst e
    rw [if_pos rfl, List.length_set]
    exact ⟨(h i hi).1, set_b8 (h i hi).2 hz⟩
  · rw [if_neg e]; exact h i hi
set_option maxRecDepth 100000 in
set_option maxHeartbeats 6400000 in
theorem gspoil_lit (w : World) (kd : Int) (aA : Option Addr) (cA : Nat) (A : List Nat) (aB : Option Addr) (cB : Nat) (B : List Nat) (aL : Option Addr) (cL : Nat) (lo : List Nat) (aH : Option Addr) (cH : Nat) (hi : List Nat) (op : Bool) (bL : Option Addr) (dL : Nat) (ko : List Nat) (bH : Option Addr) (dH : Nat) (ki : List Nat) (oq : Bool) (aM : Option Addr) (cM : Nat) (M : List Rv) (w0 : World) (hf : Fam w0 w ([(⟨aA, cA, A⟩ : Br), ⟨aB, cB, B⟩, ⟨aL, cL, lo⟩, ⟨aH, cH, hi⟩, ⟨bL, dL, ko⟩, ⟨bH, dH, ki⟩] ++ rowsOf M)) (hm : Qs w aM M) (hl : M.length ≤ 1048576) (hn : ∀ t ∈ [(⟨aA, cA, A⟩ : Br), ⟨aB, cB, B⟩, ⟨aL, cL, lo⟩, ⟨aH, cH, hi⟩, ⟨bL, dL, ko⟩, ⟨bH, dH, ki⟩] ++ rowsOf M, t.l.length ≤ 1048576) :
    Calls Try.prog 15 #[.agg #[.int .i64 kd, .slice aA A.length cA, .slice aB B.length cB, .slice aL lo.length cL, .slice aH hi.length cH, .bool op, .slice bL ko.length dL, .slice bH ki.length dH, .bool oq, .slice aM M.length cM]] w fun e w' => e = .returned (.tuple #[]) ∧ ∃ G : Nat → List Nat, (∀ i, i < ([(⟨aA, cA, A⟩ : Br), ⟨aB, cB, B⟩, ⟨aL, cL, lo⟩, ⟨aH, cH, hi⟩, ⟨bL, dL, ko⟩, ⟨bH, dH, ki⟩] ++ rowsOf M).length → (G i).length = (tL ([(⟨aA, cA, A⟩ : Br), ⟨aB, cB, B⟩, ⟨aL, cL, lo⟩, ⟨aH, cH, hi⟩, ⟨bL, dL, ko⟩, ⟨bH, dH, ki⟩] ++ rowsOf M) i).length ∧ B8 (G i)) ∧ RowsG w' ([(⟨aA, cA, A⟩ : Br), ⟨aB, cB, B⟩, ⟨aL, cL, lo⟩, ⟨aH, cH, hi⟩, ⟨bL, dL, ko⟩, ⟨bH, dH, ki⟩] ++ rowsOf M).length (tA ([(⟨aA, cA, A⟩ : Br), ⟨aB, cB, B⟩, ⟨aL, cL, lo⟩, ⟨aH, cH, hi⟩, ⟨bL, dL, ko⟩, ⟨bH, dH, ki⟩] ++ rowsOf M)) (tC ([(⟨aA, cA, A⟩ : Br), ⟨aB, cB, B⟩, ⟨aL, cL, lo⟩, ⟨aH, cH, hi⟩, ⟨bL, dL, ko⟩, ⟨bH, dH, ki⟩] ++ rowsOf M)) G ∧ But (InRows ([(⟨aA, cA, A⟩ : Br), ⟨aB, cB, B⟩, ⟨aL, cL, lo⟩, ⟨aH, cH, hi⟩, ⟨bL, dL, ko⟩, ⟨bH, dH, ki⟩] ++ rowsOf M).length (tA ([(⟨aA, cA, A⟩ : Br), ⟨aB, cB, B⟩, ⟨aL, cL, lo⟩, ⟨aH, cH, hi⟩, ⟨bL, dL, ko⟩, ⟨bH, dH, ki⟩] ++ rowsOf M))) w w' := by
  have HM := hide hm
  have HF := hide hf
  have HN := hide hn
  clear hm hf hn
  go_enter Try.func15, Try.ntmps15
  go_wp2
  go_loopw [2, 3] (fun v i wx => ∃ (j : Nat) (at' : Option Addr) (ct : Nat), j ≤ M.length ∧ i = .int .i64 j ∧ v = .slice at' (6 + 2 * j) ct ∧ (Ax w wx at' ct ([(⟨aA, cA, A⟩ : Br), ⟨aB, cB, B⟩, ⟨aL, cL, lo⟩, ⟨aH, cH, hi⟩, ⟨bL, dL, ko⟩, ⟨bH, dH, ki⟩] ++ rowsOf (M.take j)) ∧ wx.heap[w.heap.size]? = some (.cells #[.int .i64 kd, .slice aA A.length cA, .slice aB B.length cB, .slice aL lo.length cL, .slice aH hi.length cH, .bool op, .slice bL ko.length dL, .slice bH ki.length dH, .bool oq, .slice aM M.length cM] 29 (0, 0)))) (fun _ i _ => M.length - (intOf i).toNat)
  case atStart =>
    refine ⟨0, some ⟨w.heap.size + 1, 0, none⟩, 6, Nat.zero_le _, rfl, rfl, ⟨?_, newHere w _ (by omega), bt (al _ _) (al _ _)⟩, heap2a' w _ _⟩
    refine Ar.mk (cur := #[.slice aA A.length cA, .slice aB B.length cB, .slice aL lo.length cL, .slice aH hi.length cH, .slice bL ko.length dL, .slice bH ki.length dH]) ?_ (by simp [rowsOf]) (by unfold maxLen; omega) rfl rfl
    have := heap_alloc_new (w.alloc (.cells #[.int .i64 kd, .slice aA A.length cA, .slice aB B.length cB, .slice aL lo.length cL, .slice aH hi.length cH, .bool op, .slice bL ko.length dL, .slice bH ki.length dH, .bool oq, .slice aM M.length cM] 29)) (.cells #[.slice aA A.length cA, .slice aB B.length cB, .slice aL lo.length cL, .slice aH hi.length cH, .slice bL ko.length dL, .slice bH ki.length dH] 24)
    rw [size_alloc] at this
    exact this
  case round =>
    obtain ⟨j, at', ct, hj, rfl, rfl, hG⟩ := hrel
    have HG := hide hG
    clear hG
    obtain ⟨k0, k1, k2, k3, k4, k5, k6, k7, k8, k9⟩ := ten10 HG.out.2
    have hj1 := w64 (j := j) (by omega)
    by_cases hlt : j < M.length
    · have hi1 : (j : Int) < (M.length : Int) := by omega
      obtain ⟨b, off, hab, hr0⟩ := HM.out.at hlt
      obtain ⟨o0, o1, _⟩ := range3 hr0
      obtain ⟨m0, m1, m2⟩ := range3 (range_below hr0 HG.out.1.b)
      have HTL := hide (rowsOf_take_succ hlt)
      have HLEN : Hid (6 + 2 * j = (([(⟨aA, cA, A⟩ : Br), ⟨aB, cB, B⟩, ⟨aL, cL, lo⟩, ⟨aH, cH, hi⟩, ⟨bL, dL, ko⟩, ⟨bH, dH, ki⟩] ++ rowsOf (M.take j) : List Br).map bv).length) := by
        show _ = _
        rw [List.length_map, List.length_append, rowsOf_len, List.length_take]; simp <;> omega
      generalize M.getD j Rv.zero = r at *
      subst hab
      clear hr0
      obtain ⟨r1, r2, rl, r3, r4, rh, ro⟩ := r
      dsimp only at m0 m1 m2 o0 o1
      have HSZ : Hid ((([(⟨aA, cA, A⟩ : Br), ⟨aB, cB, B⟩, ⟨aL, cL, lo⟩, ⟨aH, cH, hi⟩, ⟨bL, dL, ko⟩, ⟨bH, dH, ki⟩] ++ rowsOf (M.take j) : List Br).map bv).length * 24 + 48 ≤ 140737488355328) := by
        show _ ≤ _
        rw [← HLEN.out]; omega
      have MO := hide (And.intro o0 o1)
      clear o0 o1
      generalize hTT : ([(⟨aA, cA, A⟩ : Br), ⟨aB, cB, B⟩, ⟨aL, cL, lo⟩, ⟨aH, cH, hi⟩, ⟨bL, dL, ko⟩, ⟨bH, dH, ki⟩] ++ rowsOf (M.take j) : List Br) = TT at *
      go_wp2
      have S0 := spoil_S ((Below.refl wr.heap.size wr).drew) (And.intro k9 (And.intro m0 m1))
      have S0a := fun o => spoil_S ((al wr o).drew) (And.intro k9 (And.intro m0 m1))
      clear k0 k1 k2 k3 k4 k5 k6 k7 k8 k9 m0 m1 m2
      go_region_held3 (fun w' => w'.cell? ⟨w.heap.size, 9, none⟩ = some (.slice (some ⟨b, off, none⟩) M.length cM) ∧ w'.cell? ⟨b, off + j * 3, none⟩ = some (.slice r1 rl.length r2) ∧ w'.cell? ⟨b, off + j * 3 + 1, none⟩ = some (.slice r3 rh.length r4))
        (first | with_reducible exact S0 | with_reducible exact S0a _ | with_reducible exact S2)
        ((refine step_apArL rfl _ _ rfl at' (6 + 2 * j) ct (TT.map bv) (by simp [Act.eval]) HLEN.out (HG.out.1.r.keep ((al wr _).drew)) ⟨wr.heap.size, 0, none⟩ 2 2 [bv ⟨r1, r2, rl⟩, bv ⟨r3, r4, rh⟩] (by simp [Act.eval]) rfl (lists_bs wr _ _) (lists_one _ _) (Nat.succ_pos 1) (by have := HSZ.out; show (_ + 2) * 24 ≤ _; omega) ?_; intro g cap' w2 hR hN hg; have HX := hide (HG.out.1.step (U := [⟨r1, r2, rl⟩, ⟨r3, r4, rh⟩]) ((al wr _).drew) hR hN hg); have HB := hide (HG.out.1.but ((al wr _).drew) hg HG.out.2 (by intro cs h; cases h)); have S2 := spoil_S2 HX.out.b (ten10 HB.out).2.2.2.2.2.2.2.2.2 MO.out; clear hR hN hg))
      clear S0 S0a S2
      go_wp2
      go_roundw
      case rel => exact ⟨j + 1, _, cap', by omega, by first | (go_num; done) | exact congrArg (Value.int IntKind.i64) (by omega), by rw [show 6 + 2 * (j + 1) = 6 + 2 * j + 2 by omega], by rw [HTL.out, ← List.append_assoc, hTT]; exact HX.out, HB.out⟩
      case measure => first | exact meas_up _ _ _ hj1 hlt | exact meas_up _ _ _ rfl hlt | (simp [intOf]; omega)
    · obtain rfl : j = M.length := by omega
      rw [List.take_length] at HG
      go_wp2
      clear k0 k1 k2 k3 k4 k5 k6 k7 k8 k9
      have HNT : Hid (6 + 2 * M.length = ([(⟨aA, cA, A⟩ : Br), ⟨aB, cB, B⟩, ⟨aL, cL, lo⟩, ⟨aH, cH, hi⟩, ⟨bL, dL, ko⟩, ⟨bH, dH, ki⟩] ++ rowsOf M).length) := by show _ = _; rw [List.length_append, rowsOf_len]; simp <;> omega
      obtain ⟨T, hT⟩ : ∃ T, T = [(⟨aA, cA, A⟩ : Br), ⟨aB, cB, B⟩, ⟨aL, cL, lo⟩, ⟨aH, cH, hi⟩, ⟨bL, dL, ko⟩, ⟨bH, dH, ki⟩] ++ rowsOf M := ⟨_, rfl⟩
      rw [← hT] at HG HF HN HNT
      have HT := hide hT
      clear hT
      have HNB : Hid (T.length ≤ 2097158) := by show _ ≤ _; rw [← HNT.out]; omega
      obtain ⟨n, hN0⟩ : ∃ n, n = 6 + 2 * M.length := ⟨_, rfl⟩
      have hNe : n = T.length := hN0.trans HNT.out
      rw [← hN0]
      clear hN0
      have hnb : n ≤ 2097158 := by rw [hNe]; exact HNB.out
      have HR0 := hide (HF.out.keep HG.out.1.b).rowsG
      have HD := hide HF.out.distG
      have HLL : Hid (∀ i, i < n → (tL T i).length ≤ 1048576) := fun i hi => HN.out _ (t_mem (by omega))
      have HL8 : Hid (∀ i, i < n → B8 (tL T i)) := fun i hi => (HF.out.own _ (t_mem (by omega))).2
      have HBO : Hid (∀ wx, But (InRows n (tA T)) wr wx → But (InRows n (tA T)) w wx) := fun wx h => (But.ofBelow HG.out.1.b).trans h fun _ _ e => e
      have ARR : Hid (∀ wx, But (InRows n (tA T)) wr wx → ∀ i, i < n → ∃ g, at' = some ⟨g, 0, none⟩ ∧ wx.cell? ⟨g, i, none⟩ = some (.slice (tA T i) (tL T i).length (tC T i))) := by
        intro wx hb i hi
        refine (HG.out.1.r.but hb ?_).cell (bv_get T (by omega))
        rintro x hx ⟨q, hq, y, hy, e⟩
        exact HG.out.1.r.ne (HR0.out q (by omega)) hx hy e.symm
      rw [← hNe] at HR0 HD
      have HNE := hide hNe
      clear HN HF HM HNB HNT HG
      obtain ⟨TA, hTA⟩ : ∃ TA, TA = tA T := ⟨_, rfl⟩
      obtain ⟨TC, hTC⟩ : ∃ TC, TC = tC T := ⟨_, rfl⟩
      obtain ⟨TLL, hTL⟩ : ∃ TLL, TLL = tL T := ⟨_, rfl⟩
      rw [← hTA] at HR0 HD HBO ARR
      rw [← hTC] at HR0 ARR
      rw [← hTL] at HR0 HLL HL8 ARR
      have HTA := hide hTA
      have HTC := hide hTC
      have HTL := hide hTL
      clear hTA hTC hTL hNe
      obtain ⟨W0, hW0⟩ : ∃ W0 : World, W0 = wr := ⟨_, rfl⟩
      rw [← hW0] at HBO ARR
      have HR1 : Hid (RowsG W0 n TA TC TLL) := by rw [hW0]; exact HR0.out
      clear HR0
      go_loopw [4, 5] (fun i _ wx => ∃ (j : Nat) (G : Nat → List Nat), j ≤ n ∧ i = .int .i64 j ∧ ((∀ i, i < n → (G i).length = (TLL i).length ∧ B8 (G i)) ∧ RowsG wx n TA TC G ∧ But (InRows n TA) W0 wx)) (fun i _ _ => n - (intOf i).toNat)
      case atStart => exact ⟨0, TLL, Nat.zero_le _, rfl, fun i hi => ⟨rfl, HL8.out i hi⟩, by rw [← hW0]; exact HR1.out, by rw [← hW0]; exact But.refl _ _⟩
      case round =>
        clear hW0
        obtain ⟨j, G, hj, rfl, hG⟩ := hrel
        have HG := hide hG
        clear hG
        have hj1 := w64 (j := j) (by omega)
        by_cases hlt : j < n
        · have hi2 : (j : Int) < (n : Int) := by omega
          obtain ⟨bt', hat, hc⟩ := ARR.out _ HG.out.2.2 j hlt
          subst hat
          have hlj := HLL.out j hlt
          go_wp2
          go_loopw [5] (fun k' wx => ∃ (k : Nat) (G : Nat → List Nat), k ≤ (TLL j).length ∧ k' = .int .i64 k ∧ ((∀ i, i < n → (G i).length = (TLL i).length ∧ B8 (G i)) ∧ RowsG wx n TA TC G ∧ But (InRows n TA) W0 wx)) (fun k' _ => (TLL j).length - (intOf k').toNat)
          case atStart => exact ⟨0, G, Nat.zero_le _, rfl, HG.out⟩
          case round =>
            clear hc
            obtain ⟨k, G2, hk, rfl, hG2⟩ := hrel
            have HG2 := hide hG2
            clear hG2
            obtain ⟨b2, e2, hc⟩ := ARR.out _ HG2.out.2.2 j hlt
            simp only [Option.some.injEq, Addr.mk.injEq] at e2
            obtain ⟨rfl, _⟩ := e2
            have hk1 := w64 (j := k) (by omega)
            by_cases hlk : k < (TLL j).length
            · have hik : (k : Int) < ((TLL j).length : Int) := by omega
              have hrow := HG2.out.2.1 j hlt
              have hrl := (HG2.out.1 j hlt).1
              obtain ⟨g, hAj, _, _⟩ := hrow.addr2 (by omega)
              rw [hAj] at hc hrow
              have hcg := hrow.cell (i := k) (by omega)
              have hfg := hrow.thaw k
              have h8 := getD_lt (HG2.out.1 j hlt).2 k
              have HAJ := hide hAj
              clear hAj hrow hrl
              generalize (G2 j).getD k 0 = x at *
              have hw1 : IntKind.i64.wrap ((k : Int) * 3) = (k : Int) * 3 := wrapI (by omega) (by omega)
              have hw2 : IntKind.i64.wrap ((j : Int) + (k : Int) * 3) = (j : Int) + (k : Int) * 3 := wrapI (by omega) (by omega)
              have hw3 : IntKind.i64.wrap ((j : Int) + (k : Int) * 3 + 1) = (j : Int) + (k : Int) * 3 + 1 := wrapI (by omega) (by omega)
              obtain ⟨y, hy⟩ : ∃ y : Nat, y = (j + k * 3 + 1) % 256 := ⟨_, rfl⟩
              have hcv : IntKind.u8.wrap ((j : Int) + (k : Int) * 3 + 1) = ((y : Nat) : Int) := by simp [IntKind.wrap, IntKind.bits, IntKind.signed]; omega
              have hy8 : y < 256 := by omega
              clear hy
              obtain ⟨z, hz, hz8⟩ : ∃ z : Nat, bits .xor .u8 ((x : Nat) : Int) ((y : Nat) : Int) = ((z : Nat) : Int) ∧ z < 256 := ⟨x ^^^ y, u8_xor_nat x y h8 hy8, Nat.xor_lt_two_pow (n := 8) h8 hy8⟩
              go_wp2
              go_region
              clear hc hcg hfg
              go_wp2
              go_roundw
              case rel => exact ⟨k + 1, fun i => if i = j then (G2 j).set k z else G2 i, by omega, by first | (go_num; done) | exact congrArg (Value.int IntKind.i64) (by omega), set_all HG2.out.1 hz8, fun i hi => HG2.out.2.1.set HD.out hlt HAJ.out k z i hi, (HG2.out.2.2.setCell (p := ⟨g, k, none⟩) (fun _ => ⟨j, hlt, _, HAJ.out, rfl⟩) _).drew⟩
              case measure => first | exact meas_up _ _ _ hk1 hlk | exact meas_up _ _ _ rfl hlk | (simp [intOf]; omega)
            · obtain rfl : k = (TLL j).length := by omega
              go_wp2
              go_roundw
              case rel => exact ⟨j + 1, G2, by omega, by first | (go_num; done) | exact congrArg (Value.int IntKind.i64) (by omega), HG2.out⟩
              case measure => first | exact meas_up _ _ _ hj1 hlt | exact meas_up _ _ _ rfl hlt | (simp [intOf]; omega)
        · obtain rfl : j = n := by omega
          go_wp2
          (try simp only [Exit.inBlock, Exit.then])
          refine bodyPost_end (results_none rfl _ _ _) rfl ?_
          have E : ∀ T', T' = T → (∀ i, i < T'.length → (G i).length = (tL T' i).length ∧ B8 (G i)) ∧ RowsG wr T'.length (tA T') (tC T') G ∧ But (InRows T'.length (tA T')) w wr := by
            intro T' e
            subst e
            rw [← HTA.out, ← HTC.out, ← HTL.out, ← HNE.out]
            exact ⟨HG.out.1, HG.out.2.1, HBO.out _ HG.out.2.2⟩
          exact ⟨rfl, G, E _ HT.out.symm⟩
end Go.Proofs.Ytbobnfjbbablkaa
