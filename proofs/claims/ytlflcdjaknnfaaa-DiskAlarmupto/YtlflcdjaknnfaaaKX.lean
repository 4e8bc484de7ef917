import Derived.Test.YtlflcdjaknnfaaaKV
namespace Go.Proofs.Ytlflcdjaknnfaaa
open Go.RowKit

theorem EqB {w : World} {g h : Option Addr} {c d : Nat} {l : List Nat} (hA : Rw w g c l) (hB : Rw w h d l) (hl : ∀ x ∈ l, x < 256) :
    Calls Try.prog 13 #[.slice g l.length c, .slice h l.length d] w fun x w' => x = .returned (.bool true) ∧ Below w.heap.size w w' :=
  EqBytes_same w g h l.length l.length c d l (hA.bs' hl) (hB.bs' hl) rfl rfl
theorem kImage' {w : World} {p : Nat} {S : Sd} (h : ∃ F, Dk F w p S) : Calls Try.prog 14 #[.pointer (some ⟨p, 0, none⟩)] w fun e w' => e = .returned (.slice (some ⟨w.heap.size, 0, none⟩) S.img.length S.img.length) ∧ Rw w' (some ⟨w.heap.size, 0, none⟩) S.img.length S.img ∧ Below w.heap.size w w' := by
  obtain ⟨F, h⟩ := h; exact kImage h
theorem kWhole' {w : World} {p : Nat} {S : Sd} (h : ∃ F, Dk F w p S) : Calls Try.prog 15 #[.pointer (some ⟨p, 0, none⟩)] w fun e w' => ∃ a c, e = .returned (.slice a S.wh.length c) ∧ Rw w' a c S.wh ∧ New w none a ∧ Below w.heap.size w w' := by
  obtain ⟨F, h⟩ := h; exact kWhole h
theorem kIsOn' {w : World} {p : Nat} {S : Sd} (h : ∃ F, Dk F w p S) : Calls Try.prog 20 #[.pointer (some ⟨p, 0, none⟩)] w fun e w' => e = .returned (.bool S.pow) ∧ w' = w := by
  obtain ⟨F, h⟩ := h; exact kIsOn h
theorem kUnsynced' {w : World} {p : Nat} {S : Sd} (h : ∃ F, Dk F w p S) : Calls Try.prog 21 #[.pointer (some ⟨p, 0, none⟩)] w fun e w' => e = .returned (.slice (some ⟨w.heap.size, 0, none⟩) S.at.length S.at.length) ∧ Iw w' w.heap.size S.at ∧ Below w.heap.size w w' := by
  obtain ⟨F, h⟩ := h; exact kUnsynced h
theorem start_cells {w w' : World} {nb : Int} {a : Option Addr} {n cap : Nat} (hb : Below (w.alloc (.cells #[.int .i64 nb, .slice a n cap] 37)).heap.size (w.alloc (.cells #[.int .i64 nb, .slice a n cap] 37)) w') :
    w'.cell? ⟨w.heap.size, 0, none⟩ = some (.int .i64 nb) ∧ w'.cell? ⟨w.heap.size, 1, none⟩ = some (.slice a n cap) := by
  have hk : w'.heap[w.heap.size]? = some (.cells #[.int .i64 nb, .slice a n cap] 37 (0, 0)) := (hb.block _ (by rw [size_alloc]; omega)).trans (heap_alloc_last _ _)
  exact ⟨by rw [cell_of_row _ _ _ _ _ _ hk]; rfl, by rw [cell_of_row _ _ _ _ _ _ hk]; rfl⟩
theorem Ds.ofStart {w W V : World} {p : Nat} {S : Sd} {F : Nat → Prop} (hb : Below w.heap.size w W) (h : Dk F V p S) (hF : ∀ k, F k → W.heap.size ≤ k) (hV : Below W.heap.size W V) : Ds w V p S :=
  ⟨F, h, fun k hk => Nat.le_trans hb.size (hF k hk), bt hb hV⟩

/-- alike but for the counts -/
structure Sim (S T : Sd) : Prop where
  n : S.n = T.n
  l : ∀ i, i < S.n → S.last i = T.last i
  u : S.uns = T.uns
  p : S.pow = T.pow
  a : S.alm = T.alm
theorem Sim.off {S T : Sd} (h : Sim S T) : Sim S.off T.off := ⟨h.n, h.l, h.u, rfl, rfl⟩
theorem Sim.act {S T : Sd} (h : Sim S T) : Sim S.act T.act := by
  unfold Sd.act
  rw [h.a]
  split
  · exact h.off
  · split
    · exact h
    · exact ⟨h.n, h.l, h.u, h.p, rfl⟩
theorem Sim.acts {S T : Sd} (h : Sim S T) : S.acts = T.acts := by unfold Sd.acts; rw [h.a]
theorem Sim.has {S T : Sd} (h : Sim S T) (i : Int) : S.has i = T.has i := by unfold Sd.has; rw [h.n]
theorem Sim.lays {S T : Sd} (h : Sim S T) (U : Uns) : Sim (S.lays U) (T.lays U) := ⟨h.n, fun i hi => by show shows U (S.last i) i = shows U (T.last i) i; rw [h.l i hi], h.u, h.p, h.a⟩
theorem Sim.write {S T : Sd} (h : Sim S T) (i : Int) (b : List Nat) : Sim (S.write i b) (T.write i b) := by
  unfold Sd.write
  rw [h.p, h.has, h.acts]
  split
  · exact h
  · split
    · exact h
    · split
      · exact h
      · split
        · exact h.act
        · exact ⟨h.act.n, h.act.l, by show S.act.uns ++ _ = T.act.uns ++ _; rw [h.act.u], h.act.p, h.act.a⟩
theorem Sim.sync {S T : Sd} (h : Sim S T) : Sim S.sync T.sync := by
  unfold Sd.sync
  rw [h.p, h.acts]
  split
  · exact h
  · split
    · exact h.act
    · have := h.act.lays T.act.uns
      refine ⟨this.n, ?_, rfl, this.p, this.a⟩
      intro i hi
      show shows S.act.uns (S.act.last i) i = shows T.act.uns (T.act.last i) i
      rw [h.act.u]
      exact this.l i hi
theorem Sim.arm {S T : Sd} (h : Sim S T) (a : Int) : Sim (S.arm a) (T.arm a) := by
  unfold Sd.arm
  rw [h.p]
  split
  · exact h
  · exact ⟨h.n, h.l, h.u, rfl, rfl⟩
theorem Sim.on {S T : Sd} (h : Sim S T) (K : List Bool) : Sim (S.on K) (T.on K) := by
  unfold Sd.on
  rw [h.p]
  split
  · exact h
  · refine ⟨h.n, fun i hi => ?_, rfl, rfl, h.a⟩
    show shows (kept S.uns K) (S.last i) i = shows (kept T.uns K) (T.last i) i
    rw [h.u, h.l i hi]
theorem Sim.layd {S T : Sd} (h : Sim S T) (i : Int) (b : List Nat) : Sim (S.layd i b) (T.layd i b) := by
  have e : S.layE i b = T.layE i b := by unfold Sd.layE; rw [h.p, h.has]
  unfold Sd.layd
  rw [e]
  split
  · refine ⟨h.n, fun x hx => ?_, h.u, h.p, h.a⟩
    show (if x = i.toNat then b else S.last x) = (if x = i.toNat then b else T.last x)
    rw [h.l x hx]
  · exact h
theorem Sim.step {S T : Sd} (h : Sim S T) (o : Ov) : Sim (S.step o) (T.step o) := by
  unfold Sd.step
  repeat' split
  · exact h.write _ _
  · exact h.sync
  · exact h.arm _
  · exact h.off
  · exact h.on _
  · exact h.layd _ _
  · exact h
theorem Sim.run {S T : Sd} (h : Sim S T) (L : List Ov) : Sim (S.run L) (T.run L) := by
  unfold Sd.run
  induction L generalizing S T with
  | nil => exact h
  | cons o L ih => exact ih (h.step o)
theorem Sim.img {S T : Sd} (h : Sim S T) : S.img = T.img := by
  unfold Sd.img
  rw [← h.n]
  exact imgF_congr h.l
theorem Sim.all {S T : Sd} (h : Sim S T) : S.all = T.all := by
  unfold Sd.all
  rw [← h.n]
  refine imgF_congr fun i hi => ?_
  unfold Sd.show
  rw [h.u, h.l i hi]
theorem Sim.wh {S T : Sd} (h : Sim S T) : S.wh = T.wh := by unfold Sd.wh; rw [h.p, h.all]
theorem Sim.at {S T : Sd} (h : Sim S T) : S.at = T.at := by unfold Sd.at; rw [h.u]
theorem cuts_img {S : Sd} (h : S.ok) {i : Nat} (hi : i < S.n) : cuts S.img i = S.last i := by
  have hl := h.imgLen
  have hk : (i + 1) * 512 ≤ S.n * 512 := Nat.mul_le_mul_right _ hi
  have hc : (cuts S.img i).length = 512 := by unfold cuts; rw [List.length_take, List.length_drop, hl]; omega
  refine ext_get (by rw [hc, (h.last i).1]) fun k hk2 => ?_
  rw [hc] at hk2
  have := imgF_get (n := S.n) (f := S.last) (fun i _ => (h.last i).1) hi hk2
  rw [← this]
  unfold cuts
  simp only [List.getD_eq_getElem?_getD, List.getElem?_take, List.getElem?_drop, hk2, if_true]
  rfl
theorem sim_of {S : Sd} (h : S.ok) : Sim (S.off.on []) (Sd.of S.img) := by
  have hl := h.imgLen
  have hn : S.img.length / 512 = S.n := by omega
  have e : S.off.on [] = { (S.off.lays (kept S.uns [])).forget with pow := true } := by unfold Sd.on; rw [if_neg (show ¬ (S.off.pow = true) from (by show ¬ (false = true); decide))]; rfl
  rw [e, kept_nil]
  refine ⟨?_, fun i hi => ?_, rfl, rfl, rfl⟩
  · show S.n = S.img.length / 512
    exact hn.symm
  · have hi : i < S.n := hi
    show S.last i = upto S.img (S.img.length / 512) i
    rw [hn]
    unfold upto
    rw [if_pos hi, cuts_img h hi]
theorem of_wh (l : List Nat) : (Sd.of l).wh = (Sd.of l).img := rfl
set_option maxHeartbeats 4000000 in
theorem again_good (w : World) (nb : Int) (a : Option Addr) (l : List Nat) (cap : Nat) (hB : Bs w a l) (hN : l.length + 64 ≤ 140737488355328) (hok : stOk nb l) (a1 : Option Addr) (c1 : Nat) (L1 : List Ov) (hL1 : Sp w a1 L1) (a2 : Option Addr) (c2 : Nat) (L2 : List Ov) (hL2 : Sp w a2 L2) :
    Calls Try.prog 8 #[.agg #[.int .i64 nb, .slice a l.length cap], .slice a1 L1.length c1, .slice a2 L2.length c2] w fun e w' => e = .returned (.bool true) ∧ Below w.heap.size w w' := by
  obtain ⟨W0, hW0⟩ : ∃ W0, W0 = w.alloc (.cells #[.int .i64 nb, .slice a l.length cap] 37) := ⟨_, rfl⟩
  have HB0 : Hid (Below w.heap.size w W0) := by rw [hW0]; exact al _ _
  have R1 := hide (works_any W0)
  have hN1 := hL1.2.1
  have hN2 := hL2.2.1
  have HL1 := hide hL1
  have HL2 := hide hL2
  have HST := hide fun (V : World) (hb : Below w.heap.size w V) => started_good V nb a l cap (hB.keep hb) hN hok
  have HRM := hide (st_room nb l)
  have HW0 := hide hW0
  rw [hW0] at R1
  clear hW0 hB hN hok hL1 hL2
  go_enter Try.func8, Try.ntmps8
  go_wp2_with fail
  refine R1.out.mono ?_
  rintro e w1 ⟨rfl, hb1⟩
  obtain ⟨s0, s1⟩ := start_cells hb1
  rw [← HW0.out] at hb1
  have HB1 := hide (bt HB0.out hb1)
  have R2 := hide (HST.out w1 HB1.out)
  clear hb1 R1
  go_wp2_with fail
  refine R2.out.mono ?_
  rintro e w2 ⟨F, p, rfl, h2, hF, hb2⟩
  have HD2 := hide (Ds.ofStart HB1.out h2 hF hb2)
  generalize stS nb l = S at *
  have R3 := hide (HD2.out.run a1 c1 L1 HL1.out 0 HRM.out (by omega))
  clear h2 hF hb2 R2 s0 s1
  go_wp2_with fail
  refine R3.out.mono ?_
  rintro e w3 ⟨rfl, h3⟩
  have HD3 := hide h3
  have hrm : (S.run L1).room (0 + L1.length) := HRM.out.run' L1
  rw [Nat.zero_add] at hrm
  have HR3 := hide hrm
  generalize S.run L1 = S1 at *
  clear h3 hrm R3
  obtain ⟨F3, hk3, hF3, hB3⟩ := HD3.out
  have hok3 := hk3.ok
  have R4 := hide (kImage hk3)
  have HI := hide (And.intro hok3.imgLen hok3.imgLt)
  have hn0 := hok3.n0
  have hn1 := hok3.n1
  have HSIM := hide (sim_of hok3)
  have HOI := hide (Sd.of_img hok3.imgLen)
  clear hk3 hF3 hB3 hok3
  obtain ⟨n, hn⟩ : ∃ n, n = S1.n := ⟨_, rfl⟩
  rw [← hn] at HI hn0 hn1
  clear hn
  obtain ⟨I, hI⟩ : ∃ I, I = S1.img := ⟨_, rfl⟩
  rw [← hI] at R4 HI HSIM HOI
  have HII := hide hI
  clear hI
  go_wp2_with fail
  refine R4.out.mono ?_
  rintro e w4 ⟨rfl, hr4, hb4⟩
  have HD4 := hide (HD3.out.keep hb4)
  have R5 := hide (dFrom_any w4 (some ⟨w3.heap.size, 0, none⟩) I.length I.length I n (hr4.bs' HI.out.2) rfl HI.out.1 hn0 hn1 (Nat.le_refl _))
  clear hr4 hb4 R4
  go_wp2_with fail
  refine R5.out.mono ?_
  rintro e w5 ⟨q, bl, bn, rfl, h5, hb5⟩
  have HP5 := hide (HD4.out.two (q := q) (T := Sd.of I) hb5 ⟨_, _, _, _, h5⟩ (fun k hk => (ext_none hk).1))
  have R6 := hide (kWhole' HP5.out.e)
  rw [of_wh, HOI.out] at R6
  clear h5 hb5 R5
  go_wp2_with fail
  refine R6.out.mono ?_
  rintro e w6 ⟨a6, c6, rfl, hr6, _, hb6⟩
  have HP6 := hide (HP5.out.keep hb6)
  have HR6 := hide hr6
  have R7 := hide (kImage' HP6.out.d)
  rw [← HII.out] at R7
  clear hr6 hb6 R6
  go_wp2_with fail
  refine R7.out.mono ?_
  rintro e w7 ⟨rfl, hr7, hb7⟩
  have HP7 := hide (HP6.out.keep hb7)
  have R8 := hide (EqB (HR6.out.keep hb7) hr7 HI.out.2)
  clear hr7 hb7 R7
  go_wp2_with fail
  refine R8.out.mono ?_
  rintro e w8 ⟨rfl, hb8⟩
  have HP8 := hide (HP7.out.keep hb8)
  have R9 := hide (kImage' HP8.out.e)
  rw [HOI.out] at R9
  clear hb8 R8
  go_wp2_with fail
  refine R9.out.mono ?_
  rintro e w9 ⟨rfl, hr9, hb9⟩
  have HP9 := hide (HP8.out.keep hb9)
  have HR9 := hide hr9
  have R10 := hide (kImage' HP9.out.d)
  rw [← HII.out] at R10
  clear hr9 hb9 R9
  go_wp2_with fail
  refine R10.out.mono ?_
  rintro e w10 ⟨rfl, hr10, hb10⟩
  have HP10 := hide (HP9.out.keep hb10)
  have R11 := hide (EqB (HR9.out.keep hb10) hr10 HI.out.2)
  clear hr10 hb10 R10
  go_wp2_with fail
  refine R11.out.mono ?_
  rintro e w11 ⟨rfl, hb11⟩
  have HP11 := hide (HP10.out.keep hb11)
  have R12 := hide HP11.out.off1
  clear hb11 R11
  go_wp2_with fail
  refine R12.out.mono ?_
  rintro e w12 ⟨rfl, h12⟩
  have HP12 := hide h12
  have R13 := hide (HP12.out.on1 (Below.refl _ _) none 0 [] (Kb.nil _ _) (fun x hx => by cases hx))
  clear h12 R12
  go_wp2_with fail
  refine R13.out.mono ?_
  rintro e w13 ⟨rfl, h13⟩
  have HP13 := hide h13
  have hr2 : (S1.off.on []).room L1.length := HR3.out.off.on []
  have R14 := hide (HP13.out.run1 a2 c2 L2 HL2.out L1.length hr2 (by omega))
  have HSIM2 := hide (HSIM.out.run L2)
  clear h13 R13 hr2
  go_wp2_with fail
  refine R14.out.mono ?_
  rintro e w14 ⟨rfl, h14⟩
  have HP14 := hide h14
  have hr3 : (Sd.of I).room 0 := ⟨Nat.le_refl _, Nat.le_refl _, Nat.le_refl _⟩
  have R15 := hide (HP14.out.run2 a2 c2 L2 HL2.out 0 hr3 (by omega))
  clear h14 R14 hr3
  go_wp2_with fail
  refine R15.out.mono ?_
  rintro e w15 ⟨rfl, h15⟩
  have HP15 := hide h15
  clear h15 R15
  have HOK := hide (Sd.run_ok HP15.out)
  generalize (S1.off.on []).run L2 = A at *
  generalize (Sd.of I).run L2 = B at *
  have R16 := hide (kIsOn' HP15.out.d)
  have R17 := hide (kIsOn' HP15.out.e)
  rw [← HSIM2.out.p] at R17
  obtain ⟨pw, hpw⟩ : ∃ pw, pw = A.pow := ⟨_, rfl⟩
  rw [← hpw] at R16 R17
  clear hpw
  have hpp : (pw == pw) = true := by simp
  go_wp2_with fail
  refine R16.out.mono ?_
  rintro e wq ⟨rfl, e1⟩
  have e1 := e1.symm
  subst e1
  go_wp2_with fail
  refine R17.out.mono ?_
  rintro e wq ⟨rfl, e1⟩
  have e1 := e1.symm
  subst e1
  have R18 := hide (kImage' HP15.out.d)
  clear R16 R17
  go_wp2_with fail
  refine R18.out.mono ?_
  rintro e w16 ⟨rfl, hr16, hb16⟩
  have HP16 := hide (HP15.out.keep hb16)
  have HR16 := hide hr16
  have R19 := hide (kImage' HP16.out.e)
  rw [← HSIM2.out.img] at R19
  clear hr16 hb16 R18
  go_wp2_with fail
  refine R19.out.mono ?_
  rintro e w17 ⟨rfl, hr17, hb17⟩
  have HP17 := hide (HP16.out.keep hb17)
  have R20 := hide (EqB (HR16.out.keep hb17) hr17 HOK.out.1.imgLt)
  clear hr17 hb17 R19
  go_wp2_with fail
  refine R20.out.mono ?_
  rintro e w18 ⟨rfl, hb18⟩
  have HP18 := hide (HP17.out.keep hb18)
  have R21 := hide (kUnsynced' HP18.out.d)
  clear hb18 R20
  go_wp2_with fail
  refine R21.out.mono ?_
  rintro e w19 ⟨rfl, hr19, hb19⟩
  have HP19 := hide (HP18.out.keep hb19)
  have HR19 := hide hr19
  have R22 := hide (kUnsynced' HP19.out.e)
  rw [← HSIM2.out.at] at R22
  clear hr19 hb19 R21
  go_wp2_with fail
  refine R22.out.mono ?_
  rintro e w20 ⟨rfl, hr20, hb20⟩
  have HP20 := hide (HP19.out.keep hb20)
  have R23 := hide (EqInts_any w20 w18.heap.size w19.heap.size A.at.length A.at.length A.at.length A.at.length A.at A.at (HR19.out.keep hb20) hr20 rfl rfl (by rw [A.at_len]; exact HOK.out.1.u1))
  rw [decide_eq_true (rfl : A.at = A.at)] at R23
  clear hr20 hb20 R22
  go_wp2_with fail
  refine R23.out.mono ?_
  rintro e w21 ⟨rfl, hb21⟩
  have HP21 := hide (HP20.out.keep hb21)
  have R24 := hide (kWhole' HP21.out.d)
  clear hb21 R23
  go_wp2_with fail
  refine R24.out.mono ?_
  rintro e w22 ⟨a22, c22, rfl, hr22, _, hb22⟩
  have HP22 := hide (HP21.out.keep hb22)
  have HR22 := hide hr22
  have R25 := hide (kWhole' HP22.out.e)
  rw [← HSIM2.out.wh] at R25
  clear hr22 hb22 R24
  go_wp2_with fail
  refine R25.out.mono ?_
  rintro e w23 ⟨a23, c23, rfl, hr23, _, hb23⟩
  have HP23 := hide (HP22.out.keep hb23)
  have R26 := hide (EqB (HR22.out.keep hb23) hr23 HOK.out.1.whLt)
  clear hr23 hb23 R25
  go_wp2_with fail
  refine R26.out.mono ?_
  rintro e w24 ⟨rfl, hb24⟩
  have HP24 := hide (HP23.out.keep hb24)
  clear hb24 R26
  go_wp2
  go_ret
  exact ⟨rfl, HP24.out.b⟩
set_option maxHeartbeats 2000000 in
theorem diskAgain_bad (w : World) (nb : Int) (a : Option Addr) (l : List Nat) (cap : Nat) (hB : Bs w a l) (hN : l.length + 64 ≤ 140737488355328) (hok : ¬ stOk nb l) (a1 : Option Addr) (n1 c1 : Nat) (a2 : Option Addr) (n2 c2 : Nat) :
    Calls Try.prog 8 #[.agg #[.int .i64 nb, .slice a l.length cap], .slice a1 n1 c1, .slice a2 n2 c2] w fun e w' => e = .returned (.bool true) ∧ Below w.heap.size w w' := by
  obtain ⟨W0, hW0⟩ : ∃ W0, W0 = w.alloc (.cells #[.int .i64 nb, .slice a l.length cap] 37) := ⟨_, rfl⟩
  have HB0 : Hid (Below w.heap.size w W0) := by rw [hW0]; exact al _ _
  have R1 := hide (works_any W0)
  have HST := hide fun (V : World) (hb : Below w.heap.size w V) => started_bad V nb a l cap (hB.keep hb) hN hok
  have HW0 := hide hW0
  rw [hW0] at R1
  clear hW0 hB hN hok
  go_enter Try.func8, Try.ntmps8
  go_wp2_with fail
  refine R1.out.mono ?_
  rintro e w1 ⟨rfl, hb1⟩
  obtain ⟨s0, s1⟩ := start_cells hb1
  rw [← HW0.out] at hb1
  have HB1 := hide (bt HB0.out hb1)
  have R2 := hide (HST.out w1 HB1.out)
  clear hb1 R1
  go_wp2_with fail
  refine R2.out.mono ?_
  rintro e w2 ⟨rfl, hb2⟩
  have HB2 := hide (bt HB1.out hb2)
  clear hb2 R2 s0 s1
  go_wp2
  go_ret
  exact ⟨rfl, HB2.out⟩
theorem diskAgain_any (w : World) (nb : Int) (a : Option Addr) (l : List Nat) (cap : Nat) (_hnb : N64 nb) (hB : Bs w a l) (hN : l.length + 64 ≤ 140737488355328) (_hC : l.length ≤ cap) (a1 : Option Addr) (c1 : Nat) (L1 : List Ov) (hL1 : Sp w a1 L1) (a2 : Option Addr) (c2 : Nat) (L2 : List Ov) (hL2 : Sp w a2 L2) :
    Calls Try.prog 8 #[.agg #[.int .i64 nb, .slice a l.length cap], .slice a1 L1.length c1, .slice a2 L2.length c2] w fun e w' => e = .returned (.bool true) ∧ Below w.heap.size w w' := by
  by_cases h : stOk nb l
  · exact again_good w nb a l cap hB hN h a1 c1 L1 hL1 a2 c2 L2 hL2
  · exact diskAgain_bad w nb a l cap hB hN h a1 L1.length c1 a2 L2.length c2
end Go.Proofs.Ytlflcdjaknnfaaa
