import Derived.Test.YtbhigodjbfoeoaaGreatWpHP
namespace Go.Proofs.YtbhigodjbfoeoaaGreat
set_option linter.unusedVariables false
set_option linter.unusedSimpArgs false
open Go.RowKit
/-! ### BlobBack: an item, and counts that were told, beside a vault -/
structure Bk (w : World) (b pb mb : Nat) (x : Iv) (xb : Nat) (aB aC : Option Addr) (cB cC : List Int) (wx : World) (S : Vs) (pc col : Nat → Nat) : Prop where
  v : Vw wx b S pb mb pc col
  old : ∀ k, k < w.heap.size → col k = 0
  bel : Below w.heap.size w wx
  fl : S.fl = 0
  fine : Fine S.X.f
  box : wx.heap[xb]? = some (.cells x.cs 34 (0, 0))
  bc : col xb = 0
  rb : Q.Ir wx aB cB
  rbc : ∀ y, aB = some y → cB ≠ [] → col y.block = 0
  rc : Q.Ir wx aC cC
  rcc : ∀ y, aC = some y → cC ≠ [] → col y.block = 0
theorem ir_lt {w : World} {a : Option Addr} {l : List Int} (h : Q.Ir w a l) {y : Addr} (hy : a = some y) (hl : l ≠ []) : y.block < w.heap.size := by
  obtain ⟨g, off, e, hc⟩ := h.at (j := 0) (List.length_pos_iff.2 hl)
  rw [hy] at e
  cases e
  exact block_lt_of_cell hc
theorem Bk.keep {w : World} {b pb mb : Nat} {x : Iv} {xb : Nat} {aB aC : Option Addr} {cB cC : List Int} {wx wy : World} {S : Vs} {pc col : Nat → Nat} (h : Bk w b pb mb x xb aB aC cB cC wx S pc col) (hb : Below wx.heap.size wx wy) : Bk w b pb mb x xb aB aC cB cC wy S pc col :=
  ⟨h.v.keep hb, h.old, bt h.bel hb, h.fl, h.fine, blk13 h.box hb, h.bc, h.rb.keep hb, h.rbc, h.rc.keep hb, h.rcc⟩
theorem Bk.go {w : World} {b pb mb : Nat} {x : Iv} {xb : Nat} {aB aC : Option Addr} {cB cC : List Int} {wx wy : World} {S S' : Vs} {pc col pc' col' : Nat → Nat} (h : Bk w b pb mb x xb aB aC cB cC wx S pc col) (hf : Vf wx col wy col') (hv : Vw wy b S' pb mb pc' col') (hfl : S'.fl = S.fl) (hfi : Fine S'.X.f) : Bk w b pb mb x xb aB aC cB cC wy S' pc' col' := by
  have sz := h.bel.size
  have lx := (Array.getElem?_eq_some_iff.1 h.box).1
  refine ⟨hv, fun k hk => (hf.c k (by omega)).trans (h.old k hk), ?_, hfl.trans h.fl, hfi, hf.b.same h.box (fun e => by rw [h.bc] at e; omega), (hf.c _ lx).trans h.bc, h.rb.but hf.b (fun y hy hl e => by rw [h.rbc y hy hl] at e; omega), fun y hy hl => (hf.c _ (ir_lt h.rb hy hl)).trans (h.rbc y hy hl), h.rc.but hf.b (fun y hy hl e => by rw [h.rcc y hy hl] at e; omega), fun y hy hl => (hf.c _ (ir_lt h.rc hy hl)).trans (h.rcc y hy hl)⟩
  exact ((But.ofBelow (S := fun k => 1 ≤ col k ∧ col k ≤ 5) h.bel).trans hf.b (fun _ _ e => e)).below (fun k hk e => by rw [h.old k hk] at e; omega)
theorem Vw.ok {w : World} {b : Nat} {S : Vs} {pb mb : Nat} {pc col : Nat → Nat} (h : Vw w b S pb mb pc col) : S.X.P.Ok := by
  obtain ⟨aa, ca, hx⟩ := h.vx
  exact hx.ok
theorem tot_lt {P : Q.Po} (h : P.Ok) : tot P ≤ 4294967296 := by
  have h1 := tot_le h
  have h2 := h.l2
  have h3 := h.r2
  have h4 : P.rf.toNat ≤ 65536 := by omega
  have := Nat.mul_le_mul h2 h4
  omega
theorem spo_zero {l : List Nat} {k : Nat} {S0 S : Vs} {m : Nat} {nx : Int} (hok : S0.X.P.Ok) (hl : 480 * (k - 1) < l.length) (h : Spo l k S0 (m + 1) S nx) : ¬ 0 < S0.X.P.count nx := by
  intro hc
  obtain ⟨_, _, hd⟩ := spr_step hok hl (m + 1) S nx h.s h.la
  obtain ⟨S1, n1, q, o, ok, hq, hr, hn, hS⟩ := hd m rfl
  obtain ⟨eR, e0, _⟩ := makeS_ok (q := q) (show 480 * (k - 1 - m) < l.length by omega) o.nx.1 o.nx.2 hr
  have := (alloc_count e0).1
  have e := (o.st nx hc).1
  rw [hn, eR] at e hc
  omega
theorem Sim.counts {X Y : Vm} (h : Sim X Y) : X.P.counts = Y.P.counts := by unfold Q.Po.counts; rw [h.pg]
theorem Sim.stays {X Y : Vm} (h : Sim X Y) : ∀ z, 0 < Y.P.count z → X.P.count z = Y.P.count z ∧ (X.on z).pg = (Y.on z).pg := fun z hz => ⟨h.count z, h.on z (by rw [h.count]; omega)⟩
/-- an item that was stored is released -/
theorem Release_all (w : World) (b : Nat) (S0 S1 S : Vs) (pb mb : Nat) (pc col : Nat → Nat) (h : Vw w b S pb mb pc col) (hS : Sim S.X S1.X) (x : Iv) (l : List Nat) (h0 : S0.X.P.Ok) (hx : StoredBy S0 S1 x l) (hz : x.size = (l.length : Int)) (hfn : Fine S.X.f) (hm : S.X.P.mark ≤ 1000000) (hc : S.X.ch.length ≤ 1000000) (hl : S.al.length ≤ 1000000) (h38 : l.length ≤ 3840) :
    Calls Tryz.prog 25 #[.pointer (some ⟨b, 0, none⟩), x.vl] w fun e w' => e = .returned (.int .i64 0) ∧ ∃ S' pc' col', Vw w' b S' pb mb pc' col' ∧ Vf w col w' col' ∧ Sim S'.X S0.X ∧ S'.fl = S.fl ∧ Fine S'.X.f ∧ S'.X.P.mark ≤ S.X.P.mark + 8 ∧ S'.X.ch.length ≤ S.X.ch.length + 8 ∧ S'.al.length ≤ S.al.length + 1 := by
  rcases hx with ⟨q1, q2⟩ | ⟨q1, q2⟩
  · subst q2
    refine (Release_short w (.pointer (some ⟨b, 0, none⟩)) x (by rw [hz]; omega)).mono ?_
    rintro _ w' ⟨rfl, hb⟩
    exact ⟨rfl, S, pc, col, h.keep hb, Vf.keep hb, hS, rfl, hfn, by omega, by omega, by omega⟩
  · have ht := tot_lt h.ok
    have k8 : kp l ≤ 8 := by unfold kp; omega
    obtain ⟨m, hm2⟩ : ∃ m, kp l = m + 1 := ⟨(l.length - 1) / 480, rfl⟩
    rw [hm2] at q2 k8
    have hl3 : 480 * (m + 1 - 1) < l.length := by unfold kp at hm2; omega
    refine (Release_long w b S pb mb pc col h x (by rw [hz]; omega) (tot S.X.P + 9) (by omega) (by omega) (by omega) (by omega)).mono ?_
    obtain ⟨d1, d2, d3, d4⟩ := drop_spo h0 hl3 m S1 x.child q2 (tot S.X.P + 9) (by omega)
    obtain ⟨c1, c2, c3⟩ := Sim.dropM (tot S.X.P + 9) _ _ x.child hS
    have c4 := c3.m
    have c5 := c3.c
    have VE := Ve.dropM (tot S.X.P + 9) S.X x.child
    rw [d1] at c1
    rw [c1]
    rintro _ w' ⟨rfl, pc', col', hV, hF⟩
    refine ⟨rfl, _, pc', col', hV, hF, ?_⟩
    unfold Vs.done
    rw [if_pos rfl]
    refine ⟨c2.trans d2, rfl, Ve.fine VE hfn, ?_, ?_, by simp⟩
    · show (dropM _ S.X x.child).2.P.mark ≤ _
      omega
    · show (dropM _ S.X x.child).2.ch.length ≤ _
      omega
end Go.Proofs.YtbhigodjbfoeoaaGreat
