import Derived.Test.YtceeeofkigkpkaaGreatEM
namespace Go.Proofs.YtceeeofkigkpkaaGreat
set_option linter.unusedVariables false
open Go.RowKit

/-! ### rows of runs one behind the other -/
theorem run_apRR (w : World) (ty : TypeId) (a : Option Addr) (n cap : Nat) (L : List Rn) (hn : n = L.length) (hR : Vw w a cap L) (av : Option Addr) (m c : Nat) (V : List Rn) (hm : m = V.length) (hV : Vs w av V) (hlen : L.length + V.length ≤ 14000000000000) :
    ∃ a' cap' w', (Builtin.append_ #[88, 88] ty #[.slice a n cap, .slice av m c]).run Tryz.prog w = .ok (.slice a' (n + m) cap') w' ∧ Vw w' a' cap' (L ++ V) ∧ New w a a' ∧ w.grownBy w' (a.map Addr.block) := by
  by_cases h0 : V = []
  · subst hn hm
    subst h0
    obtain ⟨i0, hi, hz0, hz1, hz2⟩ := info_parts infoRun
    have hfc : ∀ z : Option Addr, (Builtin.firstCells 2 0 (.slice z 0 c)).run Tryz.prog w = .ok #[] w := by
      intro z
      cases z with
      | none => rfl
      | some z => simp [Builtin.firstCells, loadCells, loadCellsFrom]
    refine ⟨a, cap, w, ?_, by simpa using hR, New.refl _ _, ⟨rfl, rfl, rfl, Nat.le_refl _, fun _ _ _ => rfl⟩⟩
    rcases hR.cases with ⟨rfl, rfl, rfl⟩ | ⟨g, Y, rfl, hg, h1, h2, h3⟩
    · simp [Builtin.append_, run_underlying Tryz.underlying88, sizeOf, typeInfo, hi, hz1, Builtin.lenOf, hfc]
    · have h1' := hR.len.1
      simp [Builtin.append_, run_underlying Tryz.underlying88, sizeOf, typeInfo, hi, hz1, Builtin.lenOf, hfc, h1', storeCells]
  · obtain ⟨g, cap', w', hr, h1, h2, h3⟩ := run_apR w ty a n cap L hn hR av m c V hm hV h0 hlen
    exact ⟨_, cap', w', hr, h1, h2, h3⟩
theorem wpList_apRR {w : World} {ops : Array Oper} {rest : List Oper} {o : Oper} {a : Act} {Q : Exit → Act → World → Prop} (hgd : o.guard = none) (s x : Operand)
    (ho : o.op = .call { callee := .builtin .append, args := #[s, x], argTypes := #[88, 88] }) (ao : Option Addr) (n cap : Nat) (L : List Rn) (hs : a.eval s = .slice ao n cap) (hn : n = L.length) (hR : Vw w ao cap L)
    (av : Option Addr) (m c : Nat) (V : List Rn) (hx : a.eval x = .slice av m c) (hm : m = V.length) (hV : Vs w av V) (hlen : L.length + V.length ≤ 14000000000000)
    (h : ∀ a' cap' w', Vw w' a' cap' (L ++ V) → New w ao a' → w.grownBy w' (ao.map Addr.block) → wpList Tryz.prog ops Q rest (a.put o.dst (.slice a' (n + m) cap')) w') : wpList Tryz.prog ops Q (o :: rest) a w := by
  obtain ⟨a', cap', w', hr, h1, h2, h3⟩ := run_apRR w o.type ao n cap L hn hR av m c V hm hV hlen
  refine wpList_plain hgd fun _ hK => ?_
  unfold Oper.wp execOp
  simp only [ho, resolve, invoke, builtin, Sem.run_bind, Sem.run_pure, Result.andThen_ok, List.map_toArray, List.map_cons, List.map_nil, hs, hx, hr]
  exact hK _ _ (h a' cap' w' h1 h2 h3)
set_option maxHeartbeats 1000000 in
theorem Grow_any (w : World) (n : Nat) (hn : n ≤ 14000000000000) : Calls Tryz.prog 81 #[.slice none 0 0, .int .i64 (n : Int)] w fun e w' => ∃ a c, e = .returned (.slice a 0 c) ∧ Vw w' a c [] ∧ New w none a ∧ Below w.heap.size w w' := by
  have s0 : decide ((n : Int) < 0) = false := decide_eq_false (by omega)
  have s1 : IntKind.i64.wrap (n : Int) = (n : Int) := wrapI (by omega) (by omega)
  have s2 : wrap64 (n : Int) = (n : Int) := by unfold wrap64; omega
  by_cases h0 : n = 0
  · subst h0
    go_enter Tryz.func81, Tryz.ntmps81
    go_wp2
    go_ret
    exact ⟨none, 0, rfl, Vw.nil w, New.none _ _, Below.refl _ _⟩
  · have hp : 0 < (n : Int) := by omega
    have hpn : 0 < n := by omega
    have hmax := hn
    go_enter Tryz.func81, Tryz.ntmps81
    go_wp2_with (refine wpList_apZ rfl _ _ rfl none 0 0 (by simp [Act.eval]) n (by simp [Act.eval]) [] rfl (Vs.nil _ _) hpn (by simp; omega) (by simp; omega) ?_; intro cap' w' hR hB; have HR := hide hR; have HB := hide hB; clear hR hB)
    go_ret
    refine ⟨_, cap', rfl, ?_, fun x hx => .inr (by cases hx; exact Nat.le_refl _), HB.out⟩
    have r := HR.out
    rw [List.nil_append] at r
    rcases Vw.front (L := []) (M := List.replicate n Rn.zero) (by simpa using r) with h | h
    · exact h
    · cases h
theorem own_step {w wx wy : World} {a a' : Option Addr} (hn : New w none a) (hb : Below w.heap.size w wx) (hN : New wx a a') (hg : wx.grownBy wy (a.map Addr.block)) : New w none a' ∧ Below w.heap.size w wy := by
  refine ⟨hn.trans hN hb.size, ?_⟩
  have hh : But (fun _ => False) w wy := (But.ofBelow hb).grown hg fun k hk hlt => by
    obtain ⟨y, hy, e⟩ := map_some hk
    rcases hn y hy with ⟨z, hz, _⟩ | h2
    · cases hz
    · omega
  exact hh.below fun _ _ h => h
def cat2 (L M : List Rn) : Nat → List Rn
  | 0 => []
  | 1 => L
  | _ => L ++ M
set_option maxHeartbeats 2000000 in
theorem Concat_any (w : World) (g : Nat) (a1 a2 : Option Addr) (c1 c2 : Nat) (L1 L2 : List Rn) (h1 : w.cell? ⟨g, 0, none⟩ = some (.slice a1 L1.length c1)) (h2 : w.cell? ⟨g, 1, none⟩ = some (.slice a2 L2.length c2)) (V1 : Vs w a1 L1) (V2 : Vs w a2 L2) (l1 : L1.length ≤ 65536) (l2 : L2.length ≤ 65536) :
    Calls Tryz.prog 66 #[.slice (some ⟨g, 0, none⟩) 2 2] w fun e w' => ∃ a c, e = .returned (.slice a (L1 ++ L2).length c) ∧ Vw w' a c (L1 ++ L2) ∧ New w none a ∧ Below w.heap.size w w' := by
  have HV1 := hide V1
  have HV2 := hide V2
  have C2 := hide (show ∀ W, Below w.heap.size w W → W.cell? ⟨g, 0, none⟩ = some (.slice a1 L1.length c1) ∧ W.cell? ⟨g, 1, none⟩ = some (.slice a2 L2.length c2) from fun W hb => ⟨(hb.cell (p := ⟨g, 0, none⟩) (block_lt_of_cell h1)).trans h1, (hb.cell (p := ⟨g, 1, none⟩) (block_lt_of_cell h2)).trans h2⟩)
  have GR := hide (Grow_any w (L1.length + L2.length) (by omega))
  have e0 : ((L1.length + L2.length : Nat) : Int) = (L1.length : Int) + (L2.length : Int) := by omega
  rw [e0] at GR
  have eL := hide (show (L1 ++ L2).length = L1.length + L2.length from List.length_append)
  rw [eL.out]
  obtain ⟨n1, hn1⟩ : ∃ n, L1.length = n := ⟨_, rfl⟩
  obtain ⟨n2, hn2⟩ : ∃ n, L2.length = n := ⟨_, rfl⟩
  have N1 := hide hn1
  have N2 := hide hn2
  rw [hn1] at h1 l1 C2 GR
  rw [hn2] at h2 l2 C2 GR
  rw [hn1, hn2]
  clear V1 V2 e0 hn1 hn2
  go_enter Tryz.func66, Tryz.ntmps66
  go_wp2_with fail
  go_loopw [3, 11] (fun z i wr => wr = w ∧ ((i = .int .i64 0 ∧ z = .int .i64 0) ∨ (i = .int .i64 1 ∧ z = .int .i64 (n1 : Int)) ∨ (i = .int .i64 2 ∧ z = .int .i64 ((n1 : Int) + (n2 : Int))))) (fun _ i _ => 2 - (intOf i).toNat)
  case atStart => exact ⟨rfl, .inl ⟨rfl, rfl⟩⟩
  case round =>
    obtain ⟨hwr, hcase⟩ := hrel
    obtain rfl := hwr.symm
    rcases hcase with ⟨rfl, rfl⟩ | ⟨rfl, rfl⟩ | ⟨rfl, rfl⟩
    · have s3 : decide ((n1 : Int) < 0) = false := decide_eq_false (by omega)
      go_wp2
      go_roundw
      case rel => exact ⟨trivial, .inr (.inl ⟨rfl, rfl⟩)⟩
      case measure => simp [intOf]
    · have s3 : decide ((n1 : Int) + (n2 : Int) < 0) = false := decide_eq_false (by omega)
      have s1 : IntKind.i64.wrap ((n1 : Int) + (n2 : Int)) = (n1 : Int) + (n2 : Int) := wrapI (by omega) (by omega)
      have s2 : wrap64 ((n1 : Int) + (n2 : Int)) = (n1 : Int) + (n2 : Int) := by unfold wrap64; omega
      go_wp2
      go_roundw
      case rel => exact ⟨trivial, .inr (.inr ⟨rfl, rfl⟩)⟩
      case measure => simp [intOf]
    · go_wp2_with fail
      refine GR.out.mono ?_
      rintro _ w1 ⟨aG, cG, rfl, hR, hN, hB⟩
      have HR := hide hR
      have HN := hide hN
      have HB := hide hB
      clear hR hN hB GR
      go_wp2_with fail
      go_loopw [6, 27] (fun z i wr => ∃ (k : Nat) (a' : Option Addr) (c' : Nat), k ≤ 2 ∧ i = .int .i64 (k : Int) ∧ z = .slice a' (cat2 L1 L2 k).length c' ∧ Vw wr a' c' (cat2 L1 L2 k) ∧ New w none a' ∧ Below w.heap.size w wr) (fun _ i _ => 2 - (intOf i).toNat)
      case atStart => exact ⟨0, aG, cG, by omega, rfl, rfl, HR.out, HN.out, HB.out⟩
      case round =>
        clear HR HN HB
        obtain ⟨k, a', c', hk, rfl, rfl, hR, hN, hB⟩ := hrel
        obtain ⟨d1, d2⟩ := C2.out _ hB
        have HR := hide hR
        have HN := hide hN
        have HB := hide hB
        clear hR hN hB
        rcases (show k = 0 ∨ k = 1 ∨ k = 2 by omega) with rfl | rfl | rfl
        · have V := hide (HV1.out.keep HB.out)
          show Code.wp _ _ _ _ _
          go_wp2_with (refine wpList_apRR rfl _ _ rfl a' 0 c' [] (by simp [Act.eval, cat2]) rfl HR.out a1 n1 c1 L1 (by simp [Act.eval]) N1.out.symm V.out (by rw [N1.out]; simp; omega) ?_; intro a2' c2' w2 r1 r2 r3; have R1 := hide r1; have R2 := hide r2; have R3 := hide r3; clear r1 r2 r3)
          go_roundw
          case rel =>
            obtain ⟨o1, o2⟩ := own_step HN.out HB.out R2.out R3.out
            exact ⟨1, a2', c2', by omega, rfl, by rw [show cat2 L1 L2 1 = L1 from rfl, N1.out], by simpa [cat2] using R1.out, o1, o2⟩
          case measure => simp [intOf]
        · have V := hide (HV2.out.keep HB.out)
          have hr1 : Vw wr a' c' L1 := HR.out
          have e1 : (cat2 L1 L2 1).length = n1 := N1.out
          rw [e1]
          have HR1 := hide hr1
          clear hr1 e1
          go_wp2_with (refine wpList_apRR rfl _ _ rfl a' n1 c' L1 (by simp [Act.eval]) N1.out.symm HR1.out a2 n2 c2 L2 (by simp [Act.eval]) N2.out.symm V.out (by rw [N1.out, N2.out]; omega) ?_; intro a2' c2' w2 r1 r2 r3; have R1 := hide r1; have R2 := hide r2; have R3 := hide r3; clear r1 r2 r3)
          go_roundw
          case rel =>
            obtain ⟨o1, o2⟩ := own_step HN.out HB.out R2.out R3.out
            exact ⟨2, a2', c2', by omega, rfl, by rw [show cat2 L1 L2 2 = L1 ++ L2 from rfl, eL.out, N1.out, N2.out], R1.out, o1, o2⟩
          case measure => simp [intOf]
        · have hr1 : Vw wr a' c' (L1 ++ L2) := HR.out
          have e1 : (cat2 L1 L2 2).length = n1 + n2 := by rw [show cat2 L1 L2 2 = L1 ++ L2 from rfl, eL.out, N1.out, N2.out]
          rw [e1]
          have HR1 := hide hr1
          clear hr1 e1
          go_wp2
          go_ret
          exact ⟨a', c', rfl, HR1.out, HN.out, HB.out⟩
end Go.Proofs.YtceeeofkigkpkaaGreat
