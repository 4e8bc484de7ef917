import Derived.Test.YtlflcdjaknnfaaaKAC
namespace Go.Proofs.Ytlflcdjaknnfaaa
open Go.RowKit

theorem many_facts {S : Sd} (O : List Ov) (hp : S.pow = true) (ha : S.alm = -1) : (S.many O).pow = true ∧ (S.many O).alm = -1 ∧ (S.many O).n = S.n ∧ (S.many O).img = S.img ∧ (S.many O).at.length = O.length ∧ (S.many O).uns.length = O.length ∧ (S.many O).wr = S.wr + O.length := by
  refine ⟨hp, ha, rfl, rfl, ?_, ?_, rfl⟩
  · rw [Sd.at_len]; show (uO O).length = _; unfold uO; rw [List.length_map]
  · show (uO O).length = _; unfold uO; rw [List.length_map]
theorem mul_z {ii oo : Nat} (h : oo = ii * 512) (hb : oo ≤ 33554432) : IntKind.i64.wrap ((ii : Int) * 512) = (oo : Int) := by rw [wrapI (by omega) (by omega)]; omega
theorem add_512 {oo : Nat} (hb : oo ≤ 33554432) : wrap64 ((oo : Int) + 512) = (oo : Int) + 512 := by unfold wrap64; omega
theorem add_z {oo kk z : Nat} (h : z = oo + kk) (hb : z ≤ 33554432) : wrap64 ((oo : Int) + (kk : Int)) = (z : Int) := by unfold wrap64; omega
theorem add_z' {oo kk z : Nat} (h : z = oo + kk) (hb : z ≤ 33554432) : IntKind.i64.wrap ((oo : Int) + (kk : Int)) = (z : Int) := by rw [wrapI (by omega) (by omega)]; omega
theorem Rw.frozen {w : World} {g cap : Nat} {l : List Nat} (h : Rw w (some ⟨g, 0, none⟩) cap l) (i : Nat) : w.frozen? ⟨g, i, none⟩ = false := by
  rcases h.cases with ⟨h0, _⟩ | ⟨g', cur, h0, hg, _⟩
  · cases h0
  · cases h0
    exact frozen_of_row w g i _ _ hg
theorem wpList_app {w w' : World} {ops : Array Oper} {rest : List Oper} {o : Oper} {a : Act} {Q : Exit → Act → World → Prop} (hgd : o.guard = none) (s x : Operand) (T : TypeId)
    (ho : o.op = .call { callee := .builtin .append, args := #[s, x], argTypes := #[T, T] }) (u v r : Value) (hs : a.eval s = u) (hx : a.eval x = v) (hr : (Builtin.append_ #[T, T] o.type #[u, v]).run Try.prog w = .ok r w')
    (h : wpList Try.prog ops Q rest (a.put o.dst r) w') : wpList Try.prog ops Q (o :: rest) a w := by
  refine wpList_plain hgd fun _ hK => ?_
  unfold Oper.wp execOp
  simp only [ho, resolve, invoke, builtin, Sem.run_bind, Sem.run_pure, Result.andThen_ok, List.map_toArray, List.map_cons, List.map_nil, hs, hx, hr]
  exact hK _ _ h
set_option maxRecDepth 10000 in
set_option maxHeartbeats 12000000 in
theorem keeps_good (w : World) (nb : Int) (a : Option Addr) (l : List Nat) (cap : Nat) (hB : Bs w a l) (hN : l.length + 64 ≤ 140737488355328) (hok : stOk nb l) (aa : Option Addr) (c : Nat) (L : List Ov) (hL : Sp w aa L) (aK : Option Addr) (cK : Nat) (K : List Bool) (hK : Kb w aK K) (hKN : K.length ≤ 1048576) :
    Calls Try.prog 6 #[.agg #[.int .i64 nb, .slice a l.length cap], .slice aa L.length c, .slice aK K.length cK] w fun e w' => e = .returned (.bool true) ∧ Below w.heap.size w w' := by
  obtain ⟨W0, hW0⟩ : ∃ W0, W0 = w.alloc (.cells #[.int .i64 nb, .slice a l.length cap] 37) := ⟨_, rfl⟩
  have HB0 : Hid (Below w.heap.size w W0) := by rw [hW0]; exact al _ _
  have R1 := hide (works_any W0)
  have hN1 := hL.2.1
  have HL := hide hL
  have HK := hide hK
  have HST := hide fun (V : World) (hb : Below w.heap.size w V) => started_good V nb a l cap (hB.keep hb) hN hok
  have HRM := hide (st_room nb l)
  have HFT := hide (st_fit nb l)
  have HW0 := hide hW0
  rw [hW0] at R1
  clear hW0 hB hN hok hL hK
  go_enter Try.func6, Try.ntmps6
  go_wp2_with fail
  refine R1.out.mono ?_
  rintro e w1 ⟨rfl, hb1⟩
  obtain ⟨s0, s1⟩ := start_cells hb1
  rw [← HW0.out] at hb1
  have HB1 := hide (bt HB0.out hb1)
  have R2 := hide (HST.out w1 HB1.out)
  clear hb1 R1
  go_wp2_with fail
  refine R2.out.mono ?_
  rintro e w2 ⟨F, p, rfl, h2, hF, hb2⟩
  have HD2 := hide (Ds.ofStart HB1.out h2 hF hb2)
  generalize stS nb l = S at *
  have R3 := hide (HD2.out.run aa c L HL.out 0 HRM.out (by omega))
  have HRA : Hid ((S.run L).room L.length) := by have := HRM.out.run' L; rw [Nat.zero_add] at this; exact this
  have HFA := hide (HFT.out.run L)
  clear h2 hF hb2 R2 s0 s1
  go_wp2_with fail
  refine R3.out.mono ?_
  rintro e w3 ⟨rfl, h3⟩
  have HD3 := hide h3
  clear h3 R3
  generalize S.run L = S0 at *
  clear HRM HST HB1 HB0 HW0 HD2 HFT
  have R4 := hide (HD3.out.arm (-1) (by decide))
  have HRB := hide (HRA.out.arm (-1))
  have HFB := hide (HFA.out.arm (-1))
  have HAR : Hid (S0.pow = true → (S0.arm (-1)).pow = true ∧ (S0.arm (-1)).alm = -1) := fun h => ⟨(arm_off h).2.1, (arm_off h).1⟩
  have HAN : Hid (S0.pow = false → (S0.arm (-1)).pow = false) := fun h => (by unfold Sd.arm; rw [if_pos h]; exact h)
  go_wp2_with fail
  refine R4.out.mono ?_
  rintro e w4 ⟨rfl, h4⟩
  have HD4 := hide h4
  clear h4 R4 HRA HFA HD3
  generalize S0.arm (-1) = S1 at *
  have R5 := hide (kIsOn' HD4.out.d)
  cases hpw : S1.pow with
  | true =>
    have ha2 : S1.alm = -1 := by
      cases h0 : S0.pow with
      | true => exact (HAR.out h0).2
      | false => rw [HAN.out h0] at hpw; cases hpw
    rw [hpw] at R5
    go_wp2_with fail
    refine R5.out.mono ?_
    rintro e wq ⟨rfl, e1⟩
    have e1 := e1.symm
    subst e1
    have HD5 := hide HD4.out
    have HRC := hide HRB.out
    have hp2 := hpw
    clear HAR HAN R5 hpw HFB HRB HD4
    obtain ⟨S2, hS2⟩ : ∃ S2, S2 = S1 := ⟨_, rfl⟩
    rw [← hS2] at HD5 HRC hp2 ha2
    clear hS2
    obtain ⟨w5, hw5⟩ : ∃ w5, w5 = w4 := ⟨_, rfl⟩
    rw [← hw5] at HD5
    rw [← hw5]
    clear hw5
    have hsy : S2.sy + 1 ≤ 4611686018427387904 := by have := HRC.out.2.1; omega
    obtain ⟨y1, y2⟩ := sync_on hp2 ha2
    have R7 := hide (HD5.out.sync hsy)
    rw [y1, y2] at R7
    have HP3 : Hid (S2.synced.pow = true ∧ S2.synced.alm = -1 ∧ S2.synced.uns = [] ∧ S2.synced.wr ≤ L.length) := ⟨hp2, ha2, rfl, HRC.out.1⟩
    clear HRC hsy y1 y2 hp2 ha2
    go_wp2_with fail
    refine R7.out.mono ?_
    rintro e w6 ⟨rfl, h6⟩
    have HD6 := hide h6
    clear h6 R7 HD5
    generalize S2.synced = S3 at *
    have hat : S3.at.length = 0 := by rw [S3.at_len, HP3.out.2.2.1]; rfl
    have R8 := hide (kUnsynced' HD6.out.d)
    rw [hat] at R8
    clear hat
    go_wp2_with fail
    refine R8.out.mono ?_
    rintro e w7 ⟨rfl, _, hb7⟩
    have HD7 := hide (HD6.out.keep hb7)
    clear hb7 R8 HD6
    have R9 := hide (kImage' HD7.out.d)
    have HOK3 := hide HD7.out.ok
    have hn1 := HOK3.out.n1
    have HI := hide (And.intro HOK3.out.imgLen HOK3.out.imgLt)
    obtain ⟨N, hNN⟩ : ∃ N, N = S3.img.length := ⟨_, rfl⟩
    rw [← hNN] at R9
    have HNN := hide hNN
    have hNb : N ≤ 33554432 := by rw [hNN]; exact HOK3.out.imgBig
    clear hNN
    go_wp2_with fail
    refine R9.out.mono ?_
    rintro e w8 ⟨rfl, hr8, hb8⟩
    obtain ⟨F, hk7, hF7, hB7⟩ := HD7.out
    have HK8 : Hid (Kp w w8 F p (S3.many []) none 0 [] w7.heap.size N S3.img) := by
      rw [Sd.many_nil HP3.out.2.2.1]
      exact ⟨hk7.keep hb8, hF7, bt hB7 hb8, Ow.nil _, fun x hx => by (cases hx), hr8, fun hk => absurd (hk7.lt _ hk) (Nat.lt_irrefl _), hB7.size⟩
    clear hk7 hF7 hB7 hr8 hb8 R9 HD7
    generalize w7.heap.size = g at *
    go_wp2
    go_loopw [9, 10] (fun v i wx => ∃ (j : Nat) (G : Nat → Prop) (aw : Option Addr) (cw : Nat), j ≤ L.length ∧ v = .slice aw (dn S3.n L j).length cw ∧ i = .int .i64 j ∧ Kp w wx G p (S3.many (dn S3.n L j)) aw cw (dn S3.n L j) g N S3.img) (fun _ i _ => L.length - (intOf i).toNat)
    case atStart => exact ⟨0, F, none, 0, Nat.zero_le _, rfl, rfl, HK8.out⟩
    case round =>
      clear HK8
      obtain ⟨j, G, aw, cw, hj, rfl, rfl, hG⟩ := hrel
      have HG := hide hG
      clear hG
      by_cases hlt : j < L.length
      · have hi : (j : Int) < (L.length : Int) := by omega
        have hsucc := dn_succ S3.n L hlt
        have hdl := dn_len S3.n L j
        obtain ⟨b, o, rfl, hra, hgo⟩ := (HL.out.keep HG.out.b).at hlt
        obtain ⟨m1, m2, m3, m4, m5, m6, m7⟩ := many_facts (dn S3.n L j) HP3.out.1 HP3.out.2.1
        have hrb1 : (S3.many (dn S3.n L j)).wr + 1 ≤ 4611686018427387904 := by rw [m7]; have := HP3.out.2.2.2; omega
        have hrb3 : (S3.many (dn S3.n L j)).uns.length + 1 ≤ 268435456 := by rw [m6]; omega
        have hsn := Sd.many_snoc S3 (dn S3.n L j)
        generalize hov : L.getD j Ov.zero = ov at *
        have HTK : Hid (ov.k = 1 → _) := write_tk m1 m2 ov
        rw [m3] at HTK
        have HSN := hide (hsn ov)
        have HSU := hide hsucc
        clear hsucc hsn m1 m2 m3 m4 m5 m6 m7 hov
        generalize dn S3.n L j = O at *
        have hOl : O.length ≤ 1048576 := by omega
        obtain ⟨k, i, aB, B, cB, aKo, Ko, cKo⟩ := ov
        have hra' : wr.rangeAt b (o + j * 4) [.int .i64 k, .int .i64 i, .slice aB B.length cB, .slice aKo Ko.length cKo] := hra
        have q0 := hra' 0 _ rfl
        have q1 := hra' 1 _ rfl
        have q2 := hra' 2 _ rfl
        have q3 := hra' 3 _ rfl
        rw [Nat.add_zero] at q0
        obtain ⟨W1, hW1⟩ : ∃ W1, W1 = wr.alloc (.cells #[.int .i64 k, .int .i64 i, .slice aB B.length cB, .slice aKo Ko.length cKo] 54) := ⟨_, rfl⟩
        have hb1 : Below wr.heap.size wr W1 := by rw [hW1]; exact al _ _
        have kk : W1.heap[wr.heap.size]? = some (.cells #[.int .i64 k, .int .i64 i, .slice aB B.length cB, .slice aKo Ko.length cKo] 54 (0, 0)) := by rw [hW1]; exact heap_alloc_last _ _
        have d0 : W1.cell? ⟨wr.heap.size, 0, none⟩ = some (.int .i64 k) := by rw [cell_of_row _ _ _ _ _ _ kk]; rfl
        have d1 : W1.cell? ⟨wr.heap.size, 1, none⟩ = some (.int .i64 i) := by rw [cell_of_row _ _ _ _ _ _ kk]; rfl
        have d2 : W1.cell? ⟨wr.heap.size, 2, none⟩ = some (.slice aB B.length cB) := by rw [cell_of_row _ _ _ _ _ _ kk]; rfl
        have Hg1 := hide (hgo.keep hb1)
        have hBl : B.length ≤ 1048576 := hgo.bl
        have HW1 := hide hb1
        have HWE := hide hW1
        have HKK := hide kk
        clear hra hra' hgo hb1 kk
        rw [hW1] at d0 d1 d2
        clear hW1
        by_cases k1 : k = 1
        · subst k1
          have HC := hide (CopyBytes_any W1.drew aB B.length cB B (Hg1.out.b.keep (drw W1)) rfl (by omega))
          have RW := hide fun (V : World) (a2 : Option Addr) (c2 : Nat) (hb2 : Below W1.drew.heap.size W1.drew V) (hr2 : Rw V a2 c2 B) (hn2 : New W1.drew none a2) => HG.out.write (bt HW1.out (bt (drw W1) hb2)) i a2 c2 B (hr2.bs' Hg1.out.b.1) (New.mono hn2 HW1.out.size) hrb3 hrb1
          have HKD : Hid (∀ V, Below W1.drew.heap.size W1.drew V → V.heap[wr.heap.size]? = some (.cells #[.int .i64 1, .int .i64 i, .slice aB B.length cB, .slice aKo Ko.length cKo] 54 (0, 0))) := fun V hb => (hb.block _ (Array.getElem?_eq_some_iff.1 HKK.out).1).trans HKK.out
          rw [HWE.out] at HC RW HKD
          have HT1 := HTK.out rfl
          have HLG : Hid (∀ k, G k → k < wr.heap.size) := HG.out.d.lt
          rcases HT1 with ⟨t1, t2, t3⟩ | ⟨t1, t2, t3⟩
          · have t2' : (S3.many O).writeE i B = 0 := t2
            have t3' : (S3.many O).write i B = (S3.many O).wrote i.toNat B := t3
            have e5 : (S3.many O).wrote i.toNat B = S3.many (O ++ [⟨1, i, aB, B, cB, aKo, Ko, cKo⟩]) := HSN.out
            rw [t2', t3', e5] at RW
            have HE : Hid (dn S3.n L (j + 1) = O ++ [⟨1, i, aB, B, cB, aKo, Ko, cKo⟩]) := by show _ = _; rw [HSU.out, if_pos t1]
            clear HTK HSN HSU t1 t2 t2' t3' e5 t3
            go_wp2
            go_region_held3 (fun V => V.cell? ⟨wr.heap.size, 0, none⟩ = some (.int .i64 1) ∧ V.cell? ⟨wr.heap.size, 1, none⟩ = some (.int .i64 i) ∧ V.cell? ⟨wr.heap.size, 2, none⟩ = some (.slice aB B.length cB))
              (first | exact ⟨d0, d1, d2⟩ | exact e2 | exact e3)
              (first
                | (go_at_call 9; refine HC.out.mono ?_; rintro e w2 ⟨a2, c2, rfl, hr2, hn2, hb2⟩; have kb := HKD.out w2 hb2; have e2 : w2.cell? ⟨wr.heap.size, 0, none⟩ = some (.int .i64 1) ∧ w2.cell? ⟨wr.heap.size, 1, none⟩ = some (.int .i64 i) ∧ w2.cell? ⟨wr.heap.size, 2, none⟩ = some (.slice aB B.length cB) := ⟨by rw [cell_of_row _ _ _ _ _ _ kb]; rfl, by rw [cell_of_row _ _ _ _ _ _ kb]; rfl, by rw [cell_of_row _ _ _ _ _ _ kb]; rfl⟩; have HKB := hide kb; have R5 := hide (RW.out w2 a2 c2 hb2 hr2 hn2); clear hr2 hn2 hb2 kb)
                | (go_at_call 25; refine R5.out.mono ?_; rintro e w3 ⟨rfl, h3, hb3⟩; have H3 := hide h3; have kc : w3.heap[wr.heap.size]? = some (.cells #[.int .i64 1, .int .i64 i, .slice aB B.length cB, .slice aKo Ko.length cKo] 54 (0, 0)) := (hb3.block _ (Array.getElem?_eq_some_iff.1 HKB.out).1 (fun hk => absurd (HLG.out _ hk) (Nat.lt_irrefl _))).trans HKB.out; have e3 : w3.cell? ⟨wr.heap.size, 0, none⟩ = some (.int .i64 1) ∧ w3.cell? ⟨wr.heap.size, 1, none⟩ = some (.int .i64 i) ∧ w3.cell? ⟨wr.heap.size, 2, none⟩ = some (.slice aB B.length cB) := ⟨by rw [cell_of_row _ _ _ _ _ _ kc]; rfl, by rw [cell_of_row _ _ _ _ _ _ kc]; rfl, by rw [cell_of_row _ _ _ _ _ _ kc]; rfl⟩; have f0 : w3.cell? ⟨wr.heap.size, 0, none⟩ = some (.int .i64 1) := e3.1; have f1 : w3.cell? ⟨wr.heap.size, 1, none⟩ = some (.int .i64 i) := e3.2.1; have f2 : w3.cell? ⟨wr.heap.size, 2, none⟩ = some (.slice aB B.length cB) := e3.2.2; have f3 : w3.cell? ⟨wr.heap.size, 3, none⟩ = some (.slice aKo Ko.length cKo) := (by rw [cell_of_row _ _ _ _ _ _ kc]; rfl); clear h3 hb3 kc))
            obtain ⟨G3, hK3⟩ := H3.out
            have hK4 := hK3.keep (al w3 (.cells #[.int .i64 1, .int .i64 i, .slice aB B.length cB, .slice aKo Ko.length cKo] 54))
            obtain ⟨g4, c4, w4', r1, r2, r3, r4⟩ := run_apO _ aw cw O hK4.ow ⟨w3.heap.size, 0, none⟩ 1 ⟨1, i, aB, B, cB, aKo, Ko, cKo⟩ (by
              intro m v hv
              rw [Addr.add_mid, cell_of_row _ _ _ _ _ _ (heap_alloc_last w3 _)]
              simpa [Ov.cs] using hv) (by omega) 49
            have HK5 := hide (hK4.more r3 r2 r4)
            clear hK3 hK4 r2 r3 r4
            go_wp2_with (at_builtin; refine wpList_app rfl _ _ 49 rfl _ _ _ rfl rfl r1 ?_)
            go_roundw
            case rel => exact ⟨j + 1, G3, _, c4, hlt, by rw [HE.out, List.length_append]; rfl, by go_num, by rw [HE.out]; exact HK5.out⟩
            case measure => simp [intOf]; omega
          · have t2' : (S3.many O).writeE i B ≠ 0 := t2
            have t3' : (S3.many O).write i B = S3.many O := t3
            rw [t3'] at RW
            generalize (S3.many O).writeE i B = e0 at *
            have n0 : ((e0 : Int) == 0) = false := eqf (fun e => t2' (by omega))
            have n0' : ¬ (e0 : Int) = 0 := fun e => t2' (by omega)
            have HE : Hid (dn S3.n L (j + 1) = O) := by show _ = _; rw [HSU.out, if_neg (by rw [t1]; decide)]
            clear HTK HSN HSU t1 t2 t2' t3' t3
            go_wp2
            go_region_held3 (fun V => V.cell? ⟨wr.heap.size, 0, none⟩ = some (.int .i64 1) ∧ V.cell? ⟨wr.heap.size, 1, none⟩ = some (.int .i64 i) ∧ V.cell? ⟨wr.heap.size, 2, none⟩ = some (.slice aB B.length cB))
              (first | exact ⟨d0, d1, d2⟩ | exact e2 | exact e3)
              (first
                | (go_at_call 9; refine HC.out.mono ?_; rintro e w2 ⟨a2, c2, rfl, hr2, hn2, hb2⟩; have kb := HKD.out w2 hb2; have e2 : w2.cell? ⟨wr.heap.size, 0, none⟩ = some (.int .i64 1) ∧ w2.cell? ⟨wr.heap.size, 1, none⟩ = some (.int .i64 i) ∧ w2.cell? ⟨wr.heap.size, 2, none⟩ = some (.slice aB B.length cB) := ⟨by rw [cell_of_row _ _ _ _ _ _ kb]; rfl, by rw [cell_of_row _ _ _ _ _ _ kb]; rfl, by rw [cell_of_row _ _ _ _ _ _ kb]; rfl⟩; have HKB := hide kb; have R5 := hide (RW.out w2 a2 c2 hb2 hr2 hn2); clear hr2 hn2 hb2 kb)
                | (go_at_call 25; refine R5.out.mono ?_; rintro e w3 ⟨rfl, h3, hb3⟩; have H3 := hide h3; have kc : w3.heap[wr.heap.size]? = some (.cells #[.int .i64 1, .int .i64 i, .slice aB B.length cB, .slice aKo Ko.length cKo] 54 (0, 0)) := (hb3.block _ (Array.getElem?_eq_some_iff.1 HKB.out).1 (fun hk => absurd (HLG.out _ hk) (Nat.lt_irrefl _))).trans HKB.out; have e3 : w3.cell? ⟨wr.heap.size, 0, none⟩ = some (.int .i64 1) ∧ w3.cell? ⟨wr.heap.size, 1, none⟩ = some (.int .i64 i) ∧ w3.cell? ⟨wr.heap.size, 2, none⟩ = some (.slice aB B.length cB) := ⟨by rw [cell_of_row _ _ _ _ _ _ kc]; rfl, by rw [cell_of_row _ _ _ _ _ _ kc]; rfl, by rw [cell_of_row _ _ _ _ _ _ kc]; rfl⟩; have f0 : w3.cell? ⟨wr.heap.size, 0, none⟩ = some (.int .i64 1) := e3.1; have f1 : w3.cell? ⟨wr.heap.size, 1, none⟩ = some (.int .i64 i) := e3.2.1; have f2 : w3.cell? ⟨wr.heap.size, 2, none⟩ = some (.slice aB B.length cB) := e3.2.2; have f3 : w3.cell? ⟨wr.heap.size, 3, none⟩ = some (.slice aKo Ko.length cKo) := (by rw [cell_of_row _ _ _ _ _ _ kc]; rfl); clear h3 hb3 kc))
            obtain ⟨G3, hK3⟩ := H3.out
            have HK5 := hide hK3
            clear hK3
            go_wp2
            go_roundw
            case rel => exact ⟨j + 1, G3, aw, cw, hlt, by rw [HE.out], by go_num, by rw [HE.out]; exact HK5.out⟩
            case measure => simp [intOf]; omega
        · have k1' := eqf k1
          have HE : Hid (dn S3.n L (j + 1) = O) := by
            show _ = _
            rw [HSU.out, if_neg]
            unfold tk
            rw [decide_eq_false k1]
            simp
          have HK5 := hide fun n => HG.out.keep (bt HW1.out (drN W1 n))
          rw [HWE.out] at HK5
          clear HTK HSN HSU
          go_wp2
          go_quiet (fail)
          go_wp2
          go_roundw
          case rel => exact ⟨j + 1, G, aw, cw, hlt, by rw [HE.out], by go_num, by rw [HE.out]; exact HK5.out _⟩
          case measure => simp [intOf]; omega
      · obtain rfl : j = L.length := by omega
        obtain ⟨m1, m2, m3, m4, m5, m6, m7⟩ := many_facts (dn S3.n L L.length) HP3.out.1 HP3.out.2.1
        have HO : Hid (∀ o ∈ dn S3.n L L.length, o.good w ∧ 0 ≤ o.i ∧ o.i < S3.n ∧ o.B.length = 512) := fun o ho => ⟨HL.out.1 o (dn_mem ho).1, (tk_has (dn_mem ho).2).2⟩
        have hOl : (dn S3.n L L.length).length ≤ 1048576 := Nat.le_trans (dn_len _ _ _) hN1
        generalize dn S3.n L L.length = O at *
        have R10 := hide (kImage HG.out.d)
        rw [m4, ← HNN.out] at R10
        have q9 : ((O.length : Int) == (O.length : Int)) = true := by simp
        clear m1 m2 m3 m6 m7 m4
        go_wp2_with fail
        refine R10.out.mono ?_
        rintro e w9 ⟨rfl, hr9, hb9⟩
        have HK9 := hide (HG.out.keep hb9)
        have R11 := hide (EqBytes_same w9 (some ⟨wr.heap.size, 0, none⟩) (some ⟨g, 0, none⟩) N N N N S3.img (hr9.bs' HI.out.2) (HK9.out.rw.bs' HI.out.2) HNN.out HNN.out)
        clear hr9 hb9 R10 HG
        go_wp2_with fail
        refine R11.out.mono ?_
        rintro e w10 ⟨rfl, hb10⟩
        have HK10 := hide (HK9.out.keep hb10)
        have R12 := hide (kUnsynced HK10.out.d)
        rw [m5] at R12
        clear hb10 R11 HK9 m5
        go_wp2_with fail
        refine R12.out.mono ?_
        rintro e w11 ⟨rfl, _, hb11⟩
        have HK11 := hide (HK10.out.keep hb11)
        have R13 := hide HK11.out.off
        clear hb11 R12 HK10
        go_wp2_with fail
        refine R13.out.mono ?_
        rintro e w12 ⟨rfl, G12, h12⟩
        have HK12 := hide h12
        have R14 := hide (copyBools_any w12 aK K.length cK K (HK.out.keep HK12.out.b) rfl hKN)
        clear h12 R13 HK11
        go_wp2_with fail
        refine R14.out.mono ?_
        rintro e w13 ⟨rfl, hk13, hb13⟩
        have R15 := hide (HK12.out.onn hb13 (some ⟨w12.heap.size, 0, none⟩) K.length K hk13 (fun x hx => by cases hx; exact Nat.le_refl _))
        clear hk13 hb13 R14
        go_wp2_with fail
        refine R15.out.mono ?_
        rintro e w14 ⟨rfl, G14, h14⟩
        have HK14 := hide h14
        obtain ⟨z1, z2, z3⟩ := on_many S3 O K
        have HZ : Hid (∀ t, O.length ≤ t ∨ K.length ≤ t → kI S3 O K t = ((S3.many O).off.on K).img) := fun t h => kI_over S3 O K h
        have HZ3 := hide z3
        have HZ2 := hide z2
        clear h14 R15 z2 z3 HK12
        generalize (S3.many O).off.on K = S6 at *
        have HKL : Hid (∀ t, (kI S3 O K t).length = N ∧ ∀ x ∈ kI S3 O K t, x < 256) := fun t => by
          have hblk : ∀ i, Blk (shows (kept ((uO O).take t) K) (S3.last i) i) := fun i => shows_blk (HOK3.out.last i) fun u hu => by
            have h1 := List.mem_of_mem_take (kept_mem u hu)
            unfold uO at h1
            obtain ⟨x, hx, rfl⟩ := List.mem_map.1 h1
            exact ⟨(HO.out x hx).2.2.2, (HO.out x hx).1.b.1⟩
          exact ⟨by rw [HNN.out, HI.out.1]; exact imgF_len fun i _ => (hblk i).1, imgF_mem fun i _ => (hblk i).2⟩
        go_wp2
        go_loopw [12] (fun i wx => ∃ (t : Nat) (G : Nat → Prop), t ≤ O.length ∧ t ≤ K.length ∧ i = .int .i64 t ∧ Kp w wx G p S6 aw cw O g N (kI S3 O K t)) (fun i _ => O.length - (intOf i).toNat)
        case atStart => exact ⟨0, G14, Nat.zero_le _, Nat.zero_le _, rfl, by rw [kI_zero]; exact HK14.out⟩
        case round =>
          clear HK14
          obtain ⟨t, G, ht1, ht2, rfl, hG⟩ := hrel
          have HG := hide hG
          clear hG
          by_cases hlt1 : t < O.length
          · have i1 : (t : Int) < (O.length : Int) := by omega
            by_cases hlt2 : t < K.length
            · have i2 : (t : Int) < (K.length : Int) := by omega
              obtain ⟨ov, hov⟩ : ∃ ov, O[t]? = some ov := ⟨_, List.getElem?_eq_getElem hlt1⟩
              obtain ⟨kb, ko, rfl, hkc⟩ := (HK.out.keep HG.out.b).at hlt2
              cases hkv : K.getD t false with
              | false =>
                rw [hkv] at hkc
                have HE := hide (kI_no (S := S3) hov hkv)
                clear hov hkv
                go_wp2
                go_roundw
                case rel => exact ⟨t + 1, G, hlt1, hlt2, by go_num, by rw [HE.out]; exact HG.out⟩
                case measure => simp [intOf]; omega
              | true =>
                rw [hkv] at hkc
                obtain ⟨go, gi0, gi1, gB⟩ := HO.out ov (List.mem_of_getElem? hov)
                have HE := hide (kI_yes HOK3.out hov hkv (fun o ho => ⟨by have := HO.out o ho; omega, (HO.out o ho).2.2.2, (HO.out o ho).1.b.1⟩))
                obtain ⟨g4, rfl, hra⟩ := HG.out.ow.at hov
                clear hkv
                obtain ⟨k, i, aB, B, cB, aKo, Ko, cKo⟩ := ov
                have hra' : wr.rangeAt g4 (t * 4) [.int .i64 k, .int .i64 i, .slice aB B.length cB, .slice aKo Ko.length cKo] := hra
                obtain ⟨ii, rfl⟩ : ∃ ii : Nat, i = (ii : Int) := ⟨i.toNat, by simp only at gi0; omega⟩
                have gi1' : (ii : Int) < (S3.n : Int) := gi1
                have gB' : B.length = 512 := gB
                have HE' : Hid (kI S3 O K (t + 1) = lays (kI S3 O K t) (ii * 512) B) := HE.out
                have u1 := hra' 1 _ rfl
                have u2 := hra' 2 _ rfl
                rw [gB'] at u2
                have hfit : ii * 512 + 512 ≤ N := by
                  rw [HNN.out, HI.out.1]
                  have : (ii + 1) * 512 ≤ S3.n * 512 := Nat.mul_le_mul_right _ (by omega)
                  omega
                obtain ⟨oo, hoo⟩ : ∃ oo, oo = ii * 512 := ⟨_, rfl⟩
                rw [← hoo] at hfit HE'
                have hob : oo ≤ 33554432 := by omega
                have v1 : ¬ (oo : Int) < 0 := by omega
                have v3 : ¬ (N : Int) < (oo : Int) + 512 := by omega
                have v4 : (0 : Int) ≤ (oo : Int) := by omega
                have hmul2 := mul_z hoo hob
                have hB2 := hide (show Bs w aB B from go.b)
                have HOV := hide hov
                have HGB := hide gB'
                clear hra hra' gi0 gi1 gi1' gB gB' hoo HE go hov
                have v2 := add_512 hob
                have hLk := HKL.out t
                generalize kI S3 O K t = I at *
                have HLk := hide hLk
                clear hLk
                go_wp2
                clear hmul2 v2
                go_loopw [14] (fun i wx => ∃ (kk : Nat), kk ≤ 512 ∧ i = .int .i64 kk ∧ Kp w wx G p S6 (some ⟨g4, 0, none⟩) cw O g N (lays I oo (B.take kk))) (fun i _ => 512 - (intOf i).toNat)
                case atStart => exact ⟨0, Nat.zero_le _, rfl, by rw [List.take_zero, lays_none]; exact HG.out⟩
                case round =>
                  obtain ⟨kk, hkk, rfl, hG3⟩ := hrel
                  have HG3 := hide hG3
                  clear hG3
                  obtain ⟨g5, e5, hra5⟩ := HG3.out.ow.at HOV.out
                  cases e5
                  have u3 := (show World.rangeAt wr g4 (t * 4) [.int .i64 k, .int .i64 (ii : Int), .slice aB B.length cB, .slice aKo Ko.length cKo] from hra5) 2 _ rfl
                  rw [HGB.out] at u3
                  clear hra5
                  by_cases hk5 : kk < 512
                  · have j1 : (kk : Int) < 512 := by omega
                    have hlf : oo + B.length ≤ I.length := by rw [HGB.out, HLk.out.1]; exact hfit
                    have HS := hide (lays_set (L := I) (o := oo) (by rw [HGB.out]; exact hk5) hlf)
                    have hll : (lays I oo (B.take kk)).length = N := by rw [lays_len (by rw [List.length_take]; omega), HLk.out.1]
                    obtain ⟨bb, ob, rfl, cb⟩ := (hB2.out.keep HG3.out.b).at (j := kk) (by rw [HGB.out]; exact hk5)
                    obtain ⟨z, hz⟩ : ∃ z, z = oo + kk := ⟨_, rfl⟩
                    have hzN : z < N := by omega
                    have cz := HG3.out.rw.cell (i := z) (by rw [hll]; exact hzN)
                    have fz := HG3.out.rw.frozen z
                    have v7 : (z : Int) < (N : Int) := by omega
                    have v8 : (0 : Int) ≤ (z : Int) := by omega
                    have hzb : z ≤ 33554432 := by omega
                    have v5 := add_z hz hzb
                    have v6 := add_z' hz hzb
                    rw [← hz] at HS
                    have HZZ := hide hz
                    clear hz hll hlf
                    generalize (lays I oo (B.take kk)).getD z 0 = y at *
                    generalize B.getD kk 0 = x at *
                    have HW3 := hide (HG3.out.set z x)
                    rw [HS.out] at HW3
                    clear HS HG3
                    go_wp2
                    clear v5 v6
                    go_roundw
                    case rel => exact ⟨kk + 1, hk5, by go_num, HW3.out⟩
                    case measure => first | exact meas_up _ _ _ rfl hk5 | (simp [intOf]; omega)
                  · obtain rfl : kk = 512 := by omega
                    have hG4 := HG3.out
                    rw [List.take_of_length_le (by rw [HGB.out]; exact Nat.le_refl _), ← HE'.out] at hG4
                    have HG4 := hide hG4
                    clear hG4 HG3 u3
                    have j1 : ¬ ((512 : Nat) : Int) < 512 := by decide
                    rw [show ((512 : Nat) : Int) = 512 from rfl]
                    go_wp2
                    go_roundw
                    case rel => exact ⟨t + 1, G, hlt1, hlt2, by go_num, HG4.out⟩
                    case measure => first | exact meas_up _ _ _ rfl hlt1 | (simp [intOf]; omega)
            · have i2 : ¬ (t : Int) < (K.length : Int) := by omega
              have hfin := HZ.out t (.inr (by omega))
              have HGX := hide HG.out
              obtain ⟨l1, l2⟩ := HKL.out t
              rw [hfin] at HGX l1 l2
              have hat : S6.at.length = 0 := by rw [S6.at_len, HZ2.out]; rfl
              have R20 := hide (kIsOn HGX.out.d)
              rw [z1] at R20
              have R21 := hide (kImage HGX.out.d)
              rw [l1] at R21
              have HLL := hide (And.intro l1 l2)
              clear l1 l2 hfin HG
              go_wp2_with fail
              refine R20.out.mono ?_
              rintro e wq ⟨rfl, e1⟩
              have e1 := e1.symm
              subst e1
              go_wp2_with fail
              refine R21.out.mono ?_
              rintro e w21 ⟨rfl, hr21, hb21⟩
              have HK21 := hide (HGX.out.keep hb21)
              have R22 := hide (EqBytes_same w21 (some ⟨wr.heap.size, 0, none⟩) (some ⟨g, 0, none⟩) N N N N S6.img (hr21.bs' HLL.out.2) (HK21.out.rw.bs' HLL.out.2) HLL.out.1.symm HLL.out.1.symm)
              clear hr21 hb21 R21 R20
              go_wp2_with fail
              refine R22.out.mono ?_
              rintro e w22 ⟨rfl, hb22⟩
              have HK22 := hide (HK21.out.keep hb22)
              have R23 := hide (kWhole HK22.out.d)
              rw [HZ3.out, HLL.out.1] at R23
              clear hb22 R22 HK21
              go_wp2_with fail
              refine R23.out.mono ?_
              rintro e w23 ⟨a23, c23, rfl, hr23, _, hb23⟩
              have HK23 := hide (HK22.out.keep hb23)
              have R24 := hide (EqBytes_same w23 a23 (some ⟨g, 0, none⟩) N N c23 N S6.img (hr23.bs' HLL.out.2) (HK23.out.rw.bs' HLL.out.2) HLL.out.1.symm HLL.out.1.symm)
              clear hr23 hb23 R23 HK22
              go_wp2_with fail
              refine R24.out.mono ?_
              rintro e w24 ⟨rfl, hb24⟩
              have HK24 := hide (HK23.out.keep hb24)
              have R25 := hide (kUnsynced HK24.out.d)
              rw [hat] at R25
              clear hb24 R24 HK23
              go_wp2_with fail
              refine R25.out.mono ?_
              rintro e w25 ⟨rfl, _, hb25⟩
              have HK25 := hide (HK24.out.keep hb25)
              clear hb25 R25
              go_wp2
              go_ret
              exact ⟨rfl, HK25.out.b⟩
          · have i1 : ¬ (t : Int) < (O.length : Int) := by omega
            have hfin := HZ.out t (.inl (by omega))
            have HGX := hide HG.out
            obtain ⟨l1, l2⟩ := HKL.out t
            rw [hfin] at HGX l1 l2
            have hat : S6.at.length = 0 := by rw [S6.at_len, HZ2.out]; rfl
            have R20 := hide (kIsOn HGX.out.d)
            rw [z1] at R20
            have R21 := hide (kImage HGX.out.d)
            rw [l1] at R21
            have HLL := hide (And.intro l1 l2)
            clear l1 l2 hfin HG
            go_wp2_with fail
            refine R20.out.mono ?_
            rintro e wq ⟨rfl, e1⟩
            have e1 := e1.symm
            subst e1
            go_wp2_with fail
            refine R21.out.mono ?_
            rintro e w21 ⟨rfl, hr21, hb21⟩
            have HK21 := hide (HGX.out.keep hb21)
            have R22 := hide (EqBytes_same w21 (some ⟨wr.heap.size, 0, none⟩) (some ⟨g, 0, none⟩) N N N N S6.img (hr21.bs' HLL.out.2) (HK21.out.rw.bs' HLL.out.2) HLL.out.1.symm HLL.out.1.symm)
            clear hr21 hb21 R21 R20
            go_wp2_with fail
            refine R22.out.mono ?_
            rintro e w22 ⟨rfl, hb22⟩
            have HK22 := hide (HK21.out.keep hb22)
            have R23 := hide (kWhole HK22.out.d)
            rw [HZ3.out, HLL.out.1] at R23
            clear hb22 R22 HK21
            go_wp2_with fail
            refine R23.out.mono ?_
            rintro e w23 ⟨a23, c23, rfl, hr23, _, hb23⟩
            have HK23 := hide (HK22.out.keep hb23)
            have R24 := hide (EqBytes_same w23 a23 (some ⟨g, 0, none⟩) N N c23 N S6.img (hr23.bs' HLL.out.2) (HK23.out.rw.bs' HLL.out.2) HLL.out.1.symm HLL.out.1.symm)
            clear hr23 hb23 R23 HK22
            go_wp2_with fail
            refine R24.out.mono ?_
            rintro e w24 ⟨rfl, hb24⟩
            have HK24 := hide (HK23.out.keep hb24)
            have R25 := hide (kUnsynced HK24.out.d)
            rw [hat] at R25
            clear hb24 R24 HK23
            go_wp2_with fail
            refine R25.out.mono ?_
            rintro e w25 ⟨rfl, _, hb25⟩
            have HK25 := hide (HK24.out.keep hb25)
            clear hb25 R25
            go_wp2
            go_ret
            exact ⟨rfl, HK25.out.b⟩
  | false =>
    have ha2 : (S1.on []).alm = -1 := by
      have e : S1.on [] = { (S1.lays (kept S1.uns [])).forget with pow := true } := by unfold Sd.on; rw [if_neg (by rw [hpw]; decide)]
      rw [e]
      exact HFB.out hpw
    have hp2 : (S1.on []).pow = true := by
      have e : S1.on [] = { (S1.lays (kept S1.uns [])).forget with pow := true } := by unfold Sd.on; rw [if_neg (by rw [hpw]; decide)]
      rw [e]
    rw [hpw] at R5
    go_wp2_with fail
    refine R5.out.mono ?_
    rintro e wq ⟨rfl, e1⟩
    have e1 := e1.symm
    subst e1
    have R6 := hide (HD4.out.on (Below.refl _ _) none 0 [] (Kb.nil _ _) (fun x hx => by cases hx))
    have HRC := hide (HRB.out.on [])
    go_wp2_with fail
    refine R6.out.mono ?_
    rintro e w5 ⟨rfl, h5⟩
    have HD5 := hide h5
    clear h5 HAR HAN R5 R6 hpw HFB HRB HD4
    generalize S1.on [] = S2 at *
    have hsy : S2.sy + 1 ≤ 4611686018427387904 := by have := HRC.out.2.1; omega
    obtain ⟨y1, y2⟩ := sync_on hp2 ha2
    have R7 := hide (HD5.out.sync hsy)
    rw [y1, y2] at R7
    have HP3 : Hid (S2.synced.pow = true ∧ S2.synced.alm = -1 ∧ S2.synced.uns = [] ∧ S2.synced.wr ≤ L.length) := ⟨hp2, ha2, rfl, HRC.out.1⟩
    clear HRC hsy y1 y2 hp2 ha2
    go_wp2_with fail
    refine R7.out.mono ?_
    rintro e w6 ⟨rfl, h6⟩
    have HD6 := hide h6
    clear h6 R7 HD5
    generalize S2.synced = S3 at *
    have hat : S3.at.length = 0 := by rw [S3.at_len, HP3.out.2.2.1]; rfl
    have R8 := hide (kUnsynced' HD6.out.d)
    rw [hat] at R8
    clear hat
    go_wp2_with fail
    refine R8.out.mono ?_
    rintro e w7 ⟨rfl, _, hb7⟩
    have HD7 := hide (HD6.out.keep hb7)
    clear hb7 R8 HD6
    have R9 := hide (kImage' HD7.out.d)
    have HOK3 := hide HD7.out.ok
    have hn1 := HOK3.out.n1
    have HI := hide (And.intro HOK3.out.imgLen HOK3.out.imgLt)
    obtain ⟨N, hNN⟩ : ∃ N, N = S3.img.length := ⟨_, rfl⟩
    rw [← hNN] at R9
    have HNN := hide hNN
    have hNb : N ≤ 33554432 := by rw [hNN]; exact HOK3.out.imgBig
    clear hNN
    go_wp2_with fail
    refine R9.out.mono ?_
    rintro e w8 ⟨rfl, hr8, hb8⟩
    obtain ⟨F, hk7, hF7, hB7⟩ := HD7.out
    have HK8 : Hid (Kp w w8 F p (S3.many []) none 0 [] w7.heap.size N S3.img) := by
      rw [Sd.many_nil HP3.out.2.2.1]
      exact ⟨hk7.keep hb8, hF7, bt hB7 hb8, Ow.nil _, fun x hx => by (cases hx), hr8, fun hk => absurd (hk7.lt _ hk) (Nat.lt_irrefl _), hB7.size⟩
    clear hk7 hF7 hB7 hr8 hb8 R9 HD7
    generalize w7.heap.size = g at *
    go_wp2
    go_loopw [9, 10] (fun v i wx => ∃ (j : Nat) (G : Nat → Prop) (aw : Option Addr) (cw : Nat), j ≤ L.length ∧ v = .slice aw (dn S3.n L j).length cw ∧ i = .int .i64 j ∧ Kp w wx G p (S3.many (dn S3.n L j)) aw cw (dn S3.n L j) g N S3.img) (fun _ i _ => L.length - (intOf i).toNat)
    case atStart => exact ⟨0, F, none, 0, Nat.zero_le _, rfl, rfl, HK8.out⟩
    case round =>
      clear HK8
      obtain ⟨j, G, aw, cw, hj, rfl, rfl, hG⟩ := hrel
      have HG := hide hG
      clear hG
      by_cases hlt : j < L.length
      · have hi : (j : Int) < (L.length : Int) := by omega
        have hsucc := dn_succ S3.n L hlt
        have hdl := dn_len S3.n L j
        obtain ⟨b, o, rfl, hra, hgo⟩ := (HL.out.keep HG.out.b).at hlt
        obtain ⟨m1, m2, m3, m4, m5, m6, m7⟩ := many_facts (dn S3.n L j) HP3.out.1 HP3.out.2.1
        have hrb1 : (S3.many (dn S3.n L j)).wr + 1 ≤ 4611686018427387904 := by rw [m7]; have := HP3.out.2.2.2; omega
        have hrb3 : (S3.many (dn S3.n L j)).uns.length + 1 ≤ 268435456 := by rw [m6]; omega
        have hsn := Sd.many_snoc S3 (dn S3.n L j)
        generalize hov : L.getD j Ov.zero = ov at *
        have HTK : Hid (ov.k = 1 → _) := write_tk m1 m2 ov
        rw [m3] at HTK
        have HSN := hide (hsn ov)
        have HSU := hide hsucc
        clear hsucc hsn m1 m2 m3 m4 m5 m6 m7 hov
        generalize dn S3.n L j = O at *
        have hOl : O.length ≤ 1048576 := by omega
        obtain ⟨k, i, aB, B, cB, aKo, Ko, cKo⟩ := ov
        have hra' : wr.rangeAt b (o + j * 4) [.int .i64 k, .int .i64 i, .slice aB B.length cB, .slice aKo Ko.length cKo] := hra
        have q0 := hra' 0 _ rfl
        have q1 := hra' 1 _ rfl
        have q2 := hra' 2 _ rfl
        have q3 := hra' 3 _ rfl
        rw [Nat.add_zero] at q0
        obtain ⟨W1, hW1⟩ : ∃ W1, W1 = wr.alloc (.cells #[.int .i64 k, .int .i64 i, .slice aB B.length cB, .slice aKo Ko.length cKo] 54) := ⟨_, rfl⟩
        have hb1 : Below wr.heap.size wr W1 := by rw [hW1]; exact al _ _
        have kk : W1.heap[wr.heap.size]? = some (.cells #[.int .i64 k, .int .i64 i, .slice aB B.length cB, .slice aKo Ko.length cKo] 54 (0, 0)) := by rw [hW1]; exact heap_alloc_last _ _
        have d0 : W1.cell? ⟨wr.heap.size, 0, none⟩ = some (.int .i64 k) := by rw [cell_of_row _ _ _ _ _ _ kk]; rfl
        have d1 : W1.cell? ⟨wr.heap.size, 1, none⟩ = some (.int .i64 i) := by rw [cell_of_row _ _ _ _ _ _ kk]; rfl
        have d2 : W1.cell? ⟨wr.heap.size, 2, none⟩ = some (.slice aB B.length cB) := by rw [cell_of_row _ _ _ _ _ _ kk]; rfl
        have Hg1 := hide (hgo.keep hb1)
        have hBl : B.length ≤ 1048576 := hgo.bl
        have HW1 := hide hb1
        have HWE := hide hW1
        have HKK := hide kk
        clear hra hra' hgo hb1 kk
        rw [hW1] at d0 d1 d2
        clear hW1
        by_cases k1 : k = 1
        · subst k1
          have HC := hide (CopyBytes_any W1.drew aB B.length cB B (Hg1.out.b.keep (drw W1)) rfl (by omega))
          have RW := hide fun (V : World) (a2 : Option Addr) (c2 : Nat) (hb2 : Below W1.drew.heap.size W1.drew V) (hr2 : Rw V a2 c2 B) (hn2 : New W1.drew none a2) => HG.out.write (bt HW1.out (bt (drw W1) hb2)) i a2 c2 B (hr2.bs' Hg1.out.b.1) (New.mono hn2 HW1.out.size) hrb3 hrb1
          have HKD : Hid (∀ V, Below W1.drew.heap.size W1.drew V → V.heap[wr.heap.size]? = some (.cells #[.int .i64 1, .int .i64 i, .slice aB B.length cB, .slice aKo Ko.length cKo] 54 (0, 0))) := fun V hb => (hb.block _ (Array.getElem?_eq_some_iff.1 HKK.out).1).trans HKK.out
          rw [HWE.out] at HC RW HKD
          have HT1 := HTK.out rfl
          have HLG : Hid (∀ k, G k → k < wr.heap.size) := HG.out.d.lt
          rcases HT1 with ⟨t1, t2, t3⟩ | ⟨t1, t2, t3⟩
          · have t2' : (S3.many O).writeE i B = 0 := t2
            have t3' : (S3.many O).write i B = (S3.many O).wrote i.toNat B := t3
            have e5 : (S3.many O).wrote i.toNat B = S3.many (O ++ [⟨1, i, aB, B, cB, aKo, Ko, cKo⟩]) := HSN.out
            rw [t2', t3', e5] at RW
            have HE : Hid (dn S3.n L (j + 1) = O ++ [⟨1, i, aB, B, cB, aKo, Ko, cKo⟩]) := by show _ = _; rw [HSU.out, if_pos t1]
            clear HTK HSN HSU t1 t2 t2' t3' e5 t3
            go_wp2
            go_region_held3 (fun V => V.cell? ⟨wr.heap.size, 0, none⟩ = some (.int .i64 1) ∧ V.cell? ⟨wr.heap.size, 1, none⟩ = some (.int .i64 i) ∧ V.cell? ⟨wr.heap.size, 2, none⟩ = some (.slice aB B.length cB))
              (first | exact ⟨d0, d1, d2⟩ | exact e2 | exact e3)
              (first
                | (go_at_call 9; refine HC.out.mono ?_; rintro e w2 ⟨a2, c2, rfl, hr2, hn2, hb2⟩; have kb := HKD.out w2 hb2; have e2 : w2.cell? ⟨wr.heap.size, 0, none⟩ = some (.int .i64 1) ∧ w2.cell? ⟨wr.heap.size, 1, none⟩ = some (.int .i64 i) ∧ w2.cell? ⟨wr.heap.size, 2, none⟩ = some (.slice aB B.length cB) := ⟨by rw [cell_of_row _ _ _ _ _ _ kb]; rfl, by rw [cell_of_row _ _ _ _ _ _ kb]; rfl, by rw [cell_of_row _ _ _ _ _ _ kb]; rfl⟩; have HKB := hide kb; have R5 := hide (RW.out w2 a2 c2 hb2 hr2 hn2); clear hr2 hn2 hb2 kb)
                | (go_at_call 25; refine R5.out.mono ?_; rintro e w3 ⟨rfl, h3, hb3⟩; have H3 := hide h3; have kc : w3.heap[wr.heap.size]? = some (.cells #[.int .i64 1, .int .i64 i, .slice aB B.length cB, .slice aKo Ko.length cKo] 54 (0, 0)) := (hb3.block _ (Array.getElem?_eq_some_iff.1 HKB.out).1 (fun hk => absurd (HLG.out _ hk) (Nat.lt_irrefl _))).trans HKB.out; have e3 : w3.cell? ⟨wr.heap.size, 0, none⟩ = some (.int .i64 1) ∧ w3.cell? ⟨wr.heap.size, 1, none⟩ = some (.int .i64 i) ∧ w3.cell? ⟨wr.heap.size, 2, none⟩ = some (.slice aB B.length cB) := ⟨by rw [cell_of_row _ _ _ _ _ _ kc]; rfl, by rw [cell_of_row _ _ _ _ _ _ kc]; rfl, by rw [cell_of_row _ _ _ _ _ _ kc]; rfl⟩; have f0 : w3.cell? ⟨wr.heap.size, 0, none⟩ = some (.int .i64 1) := e3.1; have f1 : w3.cell? ⟨wr.heap.size, 1, none⟩ = some (.int .i64 i) := e3.2.1; have f2 : w3.cell? ⟨wr.heap.size, 2, none⟩ = some (.slice aB B.length cB) := e3.2.2; have f3 : w3.cell? ⟨wr.heap.size, 3, none⟩ = some (.slice aKo Ko.length cKo) := (by rw [cell_of_row _ _ _ _ _ _ kc]; rfl); clear h3 hb3 kc))
            obtain ⟨G3, hK3⟩ := H3.out
            have hK4 := hK3.keep (al w3 (.cells #[.int .i64 1, .int .i64 i, .slice aB B.length cB, .slice aKo Ko.length cKo] 54))
            obtain ⟨g4, c4, w4', r1, r2, r3, r4⟩ := run_apO _ aw cw O hK4.ow ⟨w3.heap.size, 0, none⟩ 1 ⟨1, i, aB, B, cB, aKo, Ko, cKo⟩ (by
              intro m v hv
              rw [Addr.add_mid, cell_of_row _ _ _ _ _ _ (heap_alloc_last w3 _)]
              simpa [Ov.cs] using hv) (by omega) 49
            have HK5 := hide (hK4.more r3 r2 r4)
            clear hK3 hK4 r2 r3 r4
            go_wp2_with (at_builtin; refine wpList_app rfl _ _ 49 rfl _ _ _ rfl rfl r1 ?_)
            go_roundw
            case rel => exact ⟨j + 1, G3, _, c4, hlt, by rw [HE.out, List.length_append]; rfl, by go_num, by rw [HE.out]; exact HK5.out⟩
            case measure => simp [intOf]; omega
          · have t2' : (S3.many O).writeE i B ≠ 0 := t2
            have t3' : (S3.many O).write i B = S3.many O := t3
            rw [t3'] at RW
            generalize (S3.many O).writeE i B = e0 at *
            have n0 : ((e0 : Int) == 0) = false := eqf (fun e => t2' (by omega))
            have n0' : ¬ (e0 : Int) = 0 := fun e => t2' (by omega)
            have HE : Hid (dn S3.n L (j + 1) = O) := by show _ = _; rw [HSU.out, if_neg (by rw [t1]; decide)]
            clear HTK HSN HSU t1 t2 t2' t3' t3
            go_wp2
            go_region_held3 (fun V => V.cell? ⟨wr.heap.size, 0, none⟩ = some (.int .i64 1) ∧ V.cell? ⟨wr.heap.size, 1, none⟩ = some (.int .i64 i) ∧ V.cell? ⟨wr.heap.size, 2, none⟩ = some (.slice aB B.length cB))
              (first | exact ⟨d0, d1, d2⟩ | exact e2 | exact e3)
              (first
                | (go_at_call 9; refine HC.out.mono ?_; rintro e w2 ⟨a2, c2, rfl, hr2, hn2, hb2⟩; have kb := HKD.out w2 hb2; have e2 : w2.cell? ⟨wr.heap.size, 0, none⟩ = some (.int .i64 1) ∧ w2.cell? ⟨wr.heap.size, 1, none⟩ = some (.int .i64 i) ∧ w2.cell? ⟨wr.heap.size, 2, none⟩ = some (.slice aB B.length cB) := ⟨by rw [cell_of_row _ _ _ _ _ _ kb]; rfl, by rw [cell_of_row _ _ _ _ _ _ kb]; rfl, by rw [cell_of_row _ _ _ _ _ _ kb]; rfl⟩; have HKB := hide kb; have R5 := hide (RW.out w2 a2 c2 hb2 hr2 hn2); clear hr2 hn2 hb2 kb)
                | (go_at_call 25; refine R5.out.mono ?_; rintro e w3 ⟨rfl, h3, hb3⟩; have H3 := hide h3; have kc : w3.heap[wr.heap.size]? = some (.cells #[.int .i64 1, .int .i64 i, .slice aB B.length cB, .slice aKo Ko.length cKo] 54 (0, 0)) := (hb3.block _ (Array.getElem?_eq_some_iff.1 HKB.out).1 (fun hk => absurd (HLG.out _ hk) (Nat.lt_irrefl _))).trans HKB.out; have e3 : w3.cell? ⟨wr.heap.size, 0, none⟩ = some (.int .i64 1) ∧ w3.cell? ⟨wr.heap.size, 1, none⟩ = some (.int .i64 i) ∧ w3.cell? ⟨wr.heap.size, 2, none⟩ = some (.slice aB B.length cB) := ⟨by rw [cell_of_row _ _ _ _ _ _ kc]; rfl, by rw [cell_of_row _ _ _ _ _ _ kc]; rfl, by rw [cell_of_row _ _ _ _ _ _ kc]; rfl⟩; have f0 : w3.cell? ⟨wr.heap.size, 0, none⟩ = some (.int .i64 1) := e3.1; have f1 : w3.cell? ⟨wr.heap.size, 1, none⟩ = some (.int .i64 i) := e3.2.1; have f2 : w3.cell? ⟨wr.heap.size, 2, none⟩ = some (.slice aB B.length cB) := e3.2.2; have f3 : w3.cell? ⟨wr.heap.size, 3, none⟩ = some (.slice aKo Ko.length cKo) := (by rw [cell_of_row _ _ _ _ _ _ kc]; rfl); clear h3 hb3 kc))
            obtain ⟨G3, hK3⟩ := H3.out
            have HK5 := hide hK3
            clear hK3
            go_wp2
            go_roundw
            case rel => exact ⟨j + 1, G3, aw, cw, hlt, by rw [HE.out], by go_num, by rw [HE.out]; exact HK5.out⟩
            case measure => simp [intOf]; omega
        · have k1' := eqf k1
          have HE : Hid (dn S3.n L (j + 1) = O) := by
            show _ = _
            rw [HSU.out, if_neg]
            unfold tk
            rw [decide_eq_false k1]
            simp
          have HK5 := hide fun n => HG.out.keep (bt HW1.out (drN W1 n))
          rw [HWE.out] at HK5
          clear HTK HSN HSU
          go_wp2
          go_quiet (fail)
          go_wp2
          go_roundw
          case rel => exact ⟨j + 1, G, aw, cw, hlt, by rw [HE.out], by go_num, by rw [HE.out]; exact HK5.out _⟩
          case measure => simp [intOf]; omega
      · obtain rfl : j = L.length := by omega
        obtain ⟨m1, m2, m3, m4, m5, m6, m7⟩ := many_facts (dn S3.n L L.length) HP3.out.1 HP3.out.2.1
        have HO : Hid (∀ o ∈ dn S3.n L L.length, o.good w ∧ 0 ≤ o.i ∧ o.i < S3.n ∧ o.B.length = 512) := fun o ho => ⟨HL.out.1 o (dn_mem ho).1, (tk_has (dn_mem ho).2).2⟩
        have hOl : (dn S3.n L L.length).length ≤ 1048576 := Nat.le_trans (dn_len _ _ _) hN1
        generalize dn S3.n L L.length = O at *
        have R10 := hide (kImage HG.out.d)
        rw [m4, ← HNN.out] at R10
        have q9 : ((O.length : Int) == (O.length : Int)) = true := by simp
        clear m1 m2 m3 m6 m7 m4
        go_wp2_with fail
        refine R10.out.mono ?_
        rintro e w9 ⟨rfl, hr9, hb9⟩
        have HK9 := hide (HG.out.keep hb9)
        have R11 := hide (EqBytes_same w9 (some ⟨wr.heap.size, 0, none⟩) (some ⟨g, 0, none⟩) N N N N S3.img (hr9.bs' HI.out.2) (HK9.out.rw.bs' HI.out.2) HNN.out HNN.out)
        clear hr9 hb9 R10 HG
        go_wp2_with fail
        refine R11.out.mono ?_
        rintro e w10 ⟨rfl, hb10⟩
        have HK10 := hide (HK9.out.keep hb10)
        have R12 := hide (kUnsynced HK10.out.d)
        rw [m5] at R12
        clear hb10 R11 HK9 m5
        go_wp2_with fail
        refine R12.out.mono ?_
        rintro e w11 ⟨rfl, _, hb11⟩
        have HK11 := hide (HK10.out.keep hb11)
        have R13 := hide HK11.out.off
        clear hb11 R12 HK10
        go_wp2_with fail
        refine R13.out.mono ?_
        rintro e w12 ⟨rfl, G12, h12⟩
        have HK12 := hide h12
        have R14 := hide (copyBools_any w12 aK K.length cK K (HK.out.keep HK12.out.b) rfl hKN)
        clear h12 R13 HK11
        go_wp2_with fail
        refine R14.out.mono ?_
        rintro e w13 ⟨rfl, hk13, hb13⟩
        have R15 := hide (HK12.out.onn hb13 (some ⟨w12.heap.size, 0, none⟩) K.length K hk13 (fun x hx => by cases hx; exact Nat.le_refl _))
        clear hk13 hb13 R14
        go_wp2_with fail
        refine R15.out.mono ?_
        rintro e w14 ⟨rfl, G14, h14⟩
        have HK14 := hide h14
        obtain ⟨z1, z2, z3⟩ := on_many S3 O K
        have HZ : Hid (∀ t, O.length ≤ t ∨ K.length ≤ t → kI S3 O K t = ((S3.many O).off.on K).img) := fun t h => kI_over S3 O K h
        have HZ3 := hide z3
        have HZ2 := hide z2
        clear h14 R15 z2 z3 HK12
        generalize (S3.many O).off.on K = S6 at *
        have HKL : Hid (∀ t, (kI S3 O K t).length = N ∧ ∀ x ∈ kI S3 O K t, x < 256) := fun t => by
          have hblk : ∀ i, Blk (shows (kept ((uO O).take t) K) (S3.last i) i) := fun i => shows_blk (HOK3.out.last i) fun u hu => by
            have h1 := List.mem_of_mem_take (kept_mem u hu)
            unfold uO at h1
            obtain ⟨x, hx, rfl⟩ := List.mem_map.1 h1
            exact ⟨(HO.out x hx).2.2.2, (HO.out x hx).1.b.1⟩
          exact ⟨by rw [HNN.out, HI.out.1]; exact imgF_len fun i _ => (hblk i).1, imgF_mem fun i _ => (hblk i).2⟩
        go_wp2
        go_loopw [12] (fun i wx => ∃ (t : Nat) (G : Nat → Prop), t ≤ O.length ∧ t ≤ K.length ∧ i = .int .i64 t ∧ Kp w wx G p S6 aw cw O g N (kI S3 O K t)) (fun i _ => O.length - (intOf i).toNat)
        case atStart => exact ⟨0, G14, Nat.zero_le _, Nat.zero_le _, rfl, by rw [kI_zero]; exact HK14.out⟩
        case round =>
          clear HK14
          obtain ⟨t, G, ht1, ht2, rfl, hG⟩ := hrel
          have HG := hide hG
          clear hG
          by_cases hlt1 : t < O.length
          · have i1 : (t : Int) < (O.length : Int) := by omega
            by_cases hlt2 : t < K.length
            · have i2 : (t : Int) < (K.length : Int) := by omega
              obtain ⟨ov, hov⟩ : ∃ ov, O[t]? = some ov := ⟨_, List.getElem?_eq_getElem hlt1⟩
              obtain ⟨kb, ko, rfl, hkc⟩ := (HK.out.keep HG.out.b).at hlt2
              cases hkv : K.getD t false with
              | false =>
                rw [hkv] at hkc
                have HE := hide (kI_no (S := S3) hov hkv)
                clear hov hkv
                go_wp2
                go_roundw
                case rel => exact ⟨t + 1, G, hlt1, hlt2, by go_num, by rw [HE.out]; exact HG.out⟩
                case measure => simp [intOf]; omega
              | true =>
                rw [hkv] at hkc
                obtain ⟨go, gi0, gi1, gB⟩ := HO.out ov (List.mem_of_getElem? hov)
                have HE := hide (kI_yes HOK3.out hov hkv (fun o ho => ⟨by have := HO.out o ho; omega, (HO.out o ho).2.2.2, (HO.out o ho).1.b.1⟩))
                obtain ⟨g4, rfl, hra⟩ := HG.out.ow.at hov
                clear hkv
                obtain ⟨k, i, aB, B, cB, aKo, Ko, cKo⟩ := ov
                have hra' : wr.rangeAt g4 (t * 4) [.int .i64 k, .int .i64 i, .slice aB B.length cB, .slice aKo Ko.length cKo] := hra
                obtain ⟨ii, rfl⟩ : ∃ ii : Nat, i = (ii : Int) := ⟨i.toNat, by simp only at gi0; omega⟩
                have gi1' : (ii : Int) < (S3.n : Int) := gi1
                have gB' : B.length = 512 := gB
                have HE' : Hid (kI S3 O K (t + 1) = lays (kI S3 O K t) (ii * 512) B) := HE.out
                have u1 := hra' 1 _ rfl
                have u2 := hra' 2 _ rfl
                rw [gB'] at u2
                have hfit : ii * 512 + 512 ≤ N := by
                  rw [HNN.out, HI.out.1]
                  have : (ii + 1) * 512 ≤ S3.n * 512 := Nat.mul_le_mul_right _ (by omega)
                  omega
                obtain ⟨oo, hoo⟩ : ∃ oo, oo = ii * 512 := ⟨_, rfl⟩
                rw [← hoo] at hfit HE'
                have hob : oo ≤ 33554432 := by omega
                have v1 : ¬ (oo : Int) < 0 := by omega
                have v3 : ¬ (N : Int) < (oo : Int) + 512 := by omega
                have v4 : (0 : Int) ≤ (oo : Int) := by omega
                have hmul2 := mul_z hoo hob
                have hB2 := hide (show Bs w aB B from go.b)
                have HOV := hide hov
                have HGB := hide gB'
                clear hra hra' gi0 gi1 gi1' gB gB' hoo HE go hov
                have v2 := add_512 hob
                have hLk := HKL.out t
                generalize kI S3 O K t = I at *
                have HLk := hide hLk
                clear hLk
                go_wp2
                clear hmul2 v2
                go_loopw [14] (fun i wx => ∃ (kk : Nat), kk ≤ 512 ∧ i = .int .i64 kk ∧ Kp w wx G p S6 (some ⟨g4, 0, none⟩) cw O g N (lays I oo (B.take kk))) (fun i _ => 512 - (intOf i).toNat)
                case atStart => exact ⟨0, Nat.zero_le _, rfl, by rw [List.take_zero, lays_none]; exact HG.out⟩
                case round =>
                  obtain ⟨kk, hkk, rfl, hG3⟩ := hrel
                  have HG3 := hide hG3
                  clear hG3
                  obtain ⟨g5, e5, hra5⟩ := HG3.out.ow.at HOV.out
                  cases e5
                  have u3 := (show World.rangeAt wr g4 (t * 4) [.int .i64 k, .int .i64 (ii : Int), .slice aB B.length cB, .slice aKo Ko.length cKo] from hra5) 2 _ rfl
                  rw [HGB.out] at u3
                  clear hra5
                  by_cases hk5 : kk < 512
                  · have j1 : (kk : Int) < 512 := by omega
                    have hlf : oo + B.length ≤ I.length := by rw [HGB.out, HLk.out.1]; exact hfit
                    have HS := hide (lays_set (L := I) (o := oo) (by rw [HGB.out]; exact hk5) hlf)
                    have hll : (lays I oo (B.take kk)).length = N := by rw [lays_len (by rw [List.length_take]; omega), HLk.out.1]
                    obtain ⟨bb, ob, rfl, cb⟩ := (hB2.out.keep HG3.out.b).at (j := kk) (by rw [HGB.out]; exact hk5)
                    obtain ⟨z, hz⟩ : ∃ z, z = oo + kk := ⟨_, rfl⟩
                    have hzN : z < N := by omega
                    have cz := HG3.out.rw.cell (i := z) (by rw [hll]; exact hzN)
                    have fz := HG3.out.rw.frozen z
                    have v7 : (z : Int) < (N : Int) := by omega
                    have v8 : (0 : Int) ≤ (z : Int) := by omega
                    have hzb : z ≤ 33554432 := by omega
                    have v5 := add_z hz hzb
                    have v6 := add_z' hz hzb
                    rw [← hz] at HS
                    have HZZ := hide hz
                    clear hz hll hlf
                    generalize (lays I oo (B.take kk)).getD z 0 = y at *
                    generalize B.getD kk 0 = x at *
                    have HW3 := hide (HG3.out.set z x)
                    rw [HS.out] at HW3
                    clear HS HG3
                    go_wp2
                    clear v5 v6
                    go_roundw
                    case rel => exact ⟨kk + 1, hk5, by go_num, HW3.out⟩
                    case measure => first | exact meas_up _ _ _ rfl hk5 | (simp [intOf]; omega)
                  · obtain rfl : kk = 512 := by omega
                    have hG4 := HG3.out
                    rw [List.take_of_length_le (by rw [HGB.out]; exact Nat.le_refl _), ← HE'.out] at hG4
                    have HG4 := hide hG4
                    clear hG4 HG3 u3
                    have j1 : ¬ ((512 : Nat) : Int) < 512 := by decide
                    rw [show ((512 : Nat) : Int) = 512 from rfl]
                    go_wp2
                    go_roundw
                    case rel => exact ⟨t + 1, G, hlt1, hlt2, by go_num, HG4.out⟩
                    case measure => first | exact meas_up _ _ _ rfl hlt1 | (simp [intOf]; omega)
            · have i2 : ¬ (t : Int) < (K.length : Int) := by omega
              have hfin := HZ.out t (.inr (by omega))
              have HGX := hide HG.out
              obtain ⟨l1, l2⟩ := HKL.out t
              rw [hfin] at HGX l1 l2
              have hat : S6.at.length = 0 := by rw [S6.at_len, HZ2.out]; rfl
              have R20 := hide (kIsOn HGX.out.d)
              rw [z1] at R20
              have R21 := hide (kImage HGX.out.d)
              rw [l1] at R21
              have HLL := hide (And.intro l1 l2)
              clear l1 l2 hfin HG
              go_wp2_with fail
              refine R20.out.mono ?_
              rintro e wq ⟨rfl, e1⟩
              have e1 := e1.symm
              subst e1
              go_wp2_with fail
              refine R21.out.mono ?_
              rintro e w21 ⟨rfl, hr21, hb21⟩
              have HK21 := hide (HGX.out.keep hb21)
              have R22 := hide (EqBytes_same w21 (some ⟨wr.heap.size, 0, none⟩) (some ⟨g, 0, none⟩) N N N N S6.img (hr21.bs' HLL.out.2) (HK21.out.rw.bs' HLL.out.2) HLL.out.1.symm HLL.out.1.symm)
              clear hr21 hb21 R21 R20
              go_wp2_with fail
              refine R22.out.mono ?_
              rintro e w22 ⟨rfl, hb22⟩
              have HK22 := hide (HK21.out.keep hb22)
              have R23 := hide (kWhole HK22.out.d)
              rw [HZ3.out, HLL.out.1] at R23
              clear hb22 R22 HK21
              go_wp2_with fail
              refine R23.out.mono ?_
              rintro e w23 ⟨a23, c23, rfl, hr23, _, hb23⟩
              have HK23 := hide (HK22.out.keep hb23)
              have R24 := hide (EqBytes_same w23 a23 (some ⟨g, 0, none⟩) N N c23 N S6.img (hr23.bs' HLL.out.2) (HK23.out.rw.bs' HLL.out.2) HLL.out.1.symm HLL.out.1.symm)
              clear hr23 hb23 R23 HK22
              go_wp2_with fail
              refine R24.out.mono ?_
              rintro e w24 ⟨rfl, hb24⟩
              have HK24 := hide (HK23.out.keep hb24)
              have R25 := hide (kUnsynced HK24.out.d)
              rw [hat] at R25
              clear hb24 R24 HK23
              go_wp2_with fail
              refine R25.out.mono ?_
              rintro e w25 ⟨rfl, _, hb25⟩
              have HK25 := hide (HK24.out.keep hb25)
              clear hb25 R25
              go_wp2
              go_ret
              exact ⟨rfl, HK25.out.b⟩
          · have i1 : ¬ (t : Int) < (O.length : Int) := by omega
            have hfin := HZ.out t (.inl (by omega))
            have HGX := hide HG.out
            obtain ⟨l1, l2⟩ := HKL.out t
            rw [hfin] at HGX l1 l2
            have hat : S6.at.length = 0 := by rw [S6.at_len, HZ2.out]; rfl
            have R20 := hide (kIsOn HGX.out.d)
            rw [z1] at R20
            have R21 := hide (kImage HGX.out.d)
            rw [l1] at R21
            have HLL := hide (And.intro l1 l2)
            clear l1 l2 hfin HG
            go_wp2_with fail
            refine R20.out.mono ?_
            rintro e wq ⟨rfl, e1⟩
            have e1 := e1.symm
            subst e1
            go_wp2_with fail
            refine R21.out.mono ?_
            rintro e w21 ⟨rfl, hr21, hb21⟩
            have HK21 := hide (HGX.out.keep hb21)
            have R22 := hide (EqBytes_same w21 (some ⟨wr.heap.size, 0, none⟩) (some ⟨g, 0, none⟩) N N N N S6.img (hr21.bs' HLL.out.2) (HK21.out.rw.bs' HLL.out.2) HLL.out.1.symm HLL.out.1.symm)
            clear hr21 hb21 R21 R20
            go_wp2_with fail
            refine R22.out.mono ?_
            rintro e w22 ⟨rfl, hb22⟩
            have HK22 := hide (HK21.out.keep hb22)
            have R23 := hide (kWhole HK22.out.d)
            rw [HZ3.out, HLL.out.1] at R23
            clear hb22 R22 HK21
            go_wp2_with fail
            refine R23.out.mono ?_
            rintro e w23 ⟨a23, c23, rfl, hr23, _, hb23⟩
            have HK23 := hide (HK22.out.keep hb23)
            have R24 := hide (EqBytes_same w23 a23 (some ⟨g, 0, none⟩) N N c23 N S6.img (hr23.bs' HLL.out.2) (HK23.out.rw.bs' HLL.out.2) HLL.out.1.symm HLL.out.1.symm)
            clear hr23 hb23 R23 HK22
            go_wp2_with fail
            refine R24.out.mono ?_
            rintro e w24 ⟨rfl, hb24⟩
            have HK24 := hide (HK23.out.keep hb24)
            have R25 := hide (kUnsynced HK24.out.d)
            rw [hat] at R25
            clear hb24 R24 HK23
            go_wp2_with fail
            refine R25.out.mono ?_
            rintro e w25 ⟨rfl, _, hb25⟩
            have HK25 := hide (HK24.out.keep hb25)
            clear hb25 R25
            go_wp2
            go_ret
            exact ⟨rfl, HK25.out.b⟩
set_option maxRecDepth 10000 in
set_option maxHeartbeats 2000000 in
theorem keeps_bad (w : World) (nb : Int) (a : Option Addr) (l : List Nat) (cap : Nat) (hB : Bs w a l) (hN : l.length + 64 ≤ 140737488355328) (hok : ¬ stOk nb l) (a1 : Option Addr) (n1 c1 : Nat) (a2 : Option Addr) (n2 c2 : Nat) :
    Calls Try.prog 6 #[.agg #[.int .i64 nb, .slice a l.length cap], .slice a1 n1 c1, .slice a2 n2 c2] w fun e w' => e = .returned (.bool true) ∧ Below w.heap.size w w' := by
  obtain ⟨W0, hW0⟩ : ∃ W0, W0 = w.alloc (.cells #[.int .i64 nb, .slice a l.length cap] 37) := ⟨_, rfl⟩
  have HB0 : Hid (Below w.heap.size w W0) := by rw [hW0]; exact al _ _
  have R1 := hide (works_any W0)
  have HST := hide fun (V : World) (hb : Below w.heap.size w V) => started_bad V nb a l cap (hB.keep hb) hN hok
  have HW0 := hide hW0
  rw [hW0] at R1
  clear hW0 hB hN hok
  go_enter Try.func6, Try.ntmps6
  go_wp2_with fail
  refine R1.out.mono ?_
  rintro e w1 ⟨rfl, hb1⟩
  obtain ⟨s0, s1⟩ := start_cells hb1
  rw [← HW0.out] at hb1
  have HB1 := hide (bt HB0.out hb1)
  have R2 := hide (HST.out w1 HB1.out)
  clear hb1 R1
  go_wp2_with fail
  refine R2.out.mono ?_
  rintro e w2 ⟨rfl, hb2⟩
  have HB2 := hide (bt HB1.out hb2)
  clear hb2 R2 s0 s1
  go_wp2
  go_ret
  exact ⟨rfl, HB2.out⟩
theorem diskKeeps_any (w : World) (nb : Int) (a : Option Addr) (l : List Nat) (cap : Nat) (_hnb : N64 nb) (hB : Bs w a l) (hN : l.length + 64 ≤ 140737488355328) (_hC : l.length ≤ cap) (aa : Option Addr) (c : Nat) (L : List Ov) (hL : Sp w aa L) (aK : Option Addr) (cK : Nat) (K : List Bool) (hK : Kb w aK K) (hKN : K.length ≤ 1048576) :
    Calls Try.prog 6 #[.agg #[.int .i64 nb, .slice a l.length cap], .slice aa L.length c, .slice aK K.length cK] w fun e w' => e = .returned (.bool true) ∧ Below w.heap.size w w' := by
  by_cases h : stOk nb l
  · exact keeps_good w nb a l cap hB hN h aa c L hL aK cK K hK hKN
  · exact keeps_bad w nb a l cap hB hN h aa L.length c aK K.length cK
end Go.Proofs.Ytlflcdjaknnfaaa
