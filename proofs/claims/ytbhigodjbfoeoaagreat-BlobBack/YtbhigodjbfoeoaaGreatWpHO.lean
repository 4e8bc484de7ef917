import Derived.Test.YtbhigodjbfoeoaaGreatWpHN
namespace Go.Proofs.YtbhigodjbfoeoaaGreat
set_option linter.unusedVariables false
set_option linter.unusedSimpArgs false
open Go.RowKit
/-! ### an item that was stored -/
def kp (l : List Nat) : Nat := (l.length - 1) / 480 + 1
def np (l : List Nat) : Nat := if l.length ≤ 32 then 0 else kp l
theorem np_bpn (l : List Nat) : bpn ((l.length : Nat) : Int) = ((np l : Nat) : Int) := by
  unfold np
  split
  · unfold bpn; rw [if_pos (by omega)]; rfl
  · rw [bpn_nat (by omega)]; rfl
theorem np_le {l : List Nat} (h : l.length ≤ 3840) : np l ≤ 8 := by unfold np kp; split <;> omega
structure Sto (w : World) (col : Nat → Nat) (S : Vs) (x : Iv) (l : List Nat) : Prop where
  b8 : B8 l
  le : l.length ≤ 3840
  size : x.size = (l.length : Int)
  v : (l.length ≤ 32 ∧ x.val = l ∧ Rw w x.aV x.cV l ∧ ∀ y, x.aV = some y → col y.block = 0) ∨ (32 < l.length ∧ Chn S l (kp l) (kp l) x.child)
theorem Chn.alike {S S' : Vs} {l : List Nat} {k : Nat} (h : ∀ z, 0 < S.X.P.count z → S'.X.P.count z = S.X.P.count z ∧ (S'.X.on z).pg = (S.X.on z).pg) : ∀ (r : Nat) (n : Int), Chn S l k r n → Chn S' l k r n
  | 0, _, hc => hc
  | r + 1, n, ⟨c1, nx, g, hz, hc⟩ => by
    obtain ⟨e1, e2⟩ := h n c1
    exact ⟨by rw [e1]; exact c1, nx, by rw [e2]; exact g, hz, Chn.alike h r nx hc⟩
theorem Sto.go {w w' : World} {col col' : Nat → Nat} {S S' : Vs} {x : Iv} {l : List Nat} (h : Sto w col S x l) (hf : Vf w col w' col') (hs : ∀ z, 0 < S.X.P.count z → S'.X.P.count z = S.X.P.count z ∧ (S'.X.on z).pg = (S.X.on z).pg) : Sto w' col' S' x l := by
  refine ⟨h.b8, h.le, h.size, ?_⟩
  rcases h.v with ⟨h1, h2, h3, h4⟩ | ⟨h1, h2⟩
  · exact .inl ⟨h1, h2, h3.but hf.b (fun y hy e => by rw [h4 y hy] at e; omega), fun y hy => (hf.c _ (h3.lt hy)).trans (h4 y hy)⟩
  · exact .inr ⟨h1, h2.alike hs⟩
theorem Sto.keep {w w' : World} {col : Nat → Nat} {S : Vs} {x : Iv} {l : List Nat} (h : Sto w col S x l) (hb : Below w.heap.size w w') : Sto w' col S x l := h.go (Vf.keep hb) (fun _ _ => ⟨rfl, rfl⟩)
theorem Sto.but {T : Nat → Prop} {w w' : World} {col : Nat → Nat} {S : Vs} {x : Iv} {l : List Nat} (h : Sto w col S x l) (hb : But T w w') (hn : ∀ y c L, Rw w (some y) c L → ¬ T y.block) : Sto w' col S x l := by
  refine ⟨h.b8, h.le, h.size, ?_⟩
  rcases h.v with ⟨h1, h2, h3, h4⟩ | ⟨h1, h2⟩
  · exact .inl ⟨h1, h2, h3.but hb (fun y hy => hn y x.cV l (by rw [← hy]; exact h3)), h4⟩
  · exact .inr ⟨h1, h2⟩
/-- what a store did to the vault -/
structure Stp (S S' : Vs) (n : Nat) : Prop where
  v : Ve S.X S'.X
  fl : S'.fl = S.fl
  la : S'.al.length = S.al.length + n
  lm : S'.X.P.mark = S.X.P.mark + n
  lc : S'.X.ch.length = S.X.ch.length + n
  st : ∀ z, 0 < S.X.P.count z → S'.X.P.count z = S.X.P.count z ∧ S'.X.on z = S.X.on z
  fr : (S'.X.P.pages 1).length + n = (S.X.P.pages 1).length
theorem Stp.zero (S : Vs) : Stp S S 0 := ⟨Ve.refl _, rfl, rfl, rfl, rfl, fun _ _ => ⟨rfl, rfl⟩, rfl⟩
theorem Spo.stp {l : List Nat} {k : Nat} {S S' : Vs} {m : Nat} {nx : Int} (h : Spo l k S m S' nx) : Stp S S' m := ⟨h.v, h.fl, h.la, h.lm, h.lc, h.st, h.fr⟩
def StoredBy (S S' : Vs) (x : Iv) (l : List Nat) : Prop := (l.length ≤ 32 ∧ S' = S) ∨ (32 < l.length ∧ Spo l (kp l) S (kp l) S' x.child)
theorem Store_all (w : World) (b : Nat) (S : Vs) (pb mb : Nat) (pc col : Nat → Nat) (h : Vw w b S pb mb pc col) (ak : Option Addr) (ck : Nat) (key : List Nat) (hK : Bs w ak key) (hkc : ∀ x, ak = some x → col x.block = 0) (k1 : 1 ≤ key.length) (k2 : key.length ≤ 24) (av : Option Addr) (cv : Nat) (l : List Nat) (hB : Bs w av l) (hvc : 32 < l.length → ∀ x, av = some x → col x.block = 0) (hcv : l.length ≤ cv) (h2 : l.length ≤ 3840) (hfn : Fine S.X.f) (hm1 : S.fl + S.al.length + 9 ≤ 9223372036854775807) (hm2 : S.al.length + 9 ≤ 8796093022208) (hm3 : S.X.P.mark + 9 ≤ 17592186044416) (hm4 : S.X.ch.length + 9 ≤ 1759218604441) :
    Calls Tryz.prog 22 #[.pointer (some ⟨b, 0, none⟩), .slice ak key.length ck, .slice av l.length cv] w fun e w' => ∃ pc' col', Vf w col w' col' ∧
      ((∃ (S' : Vs) (x : Iv), e = .returned (.tuple #[x.vl, .int .i64 0]) ∧ x.key = key ∧ Rw w' x.aK x.cK key ∧ (∀ y, x.aK = some y → col' y.block = 0) ∧ Sto w' col' S' x l ∧ Stp S S' (np l) ∧ StoredBy S S' x l ∧ Vw w' b S' pb mb pc' col') ∨
      (e = .returned (.tuple #[Iv.zero.vl, .int .i64 12]) ∧ (S.X.P.pages 1).length < np l ∧ Vw w' b S pb mb pc' col')) := by
  have nw : ∀ {a : Option Addr}, New w none a → ∀ y, a = some y → col y.block = 0 := fun hn y hy => by
    rcases hn y hy with ⟨_, e, _⟩ | e
    · cases e
    · exact h.z e
  by_cases h1 : l.length ≤ 32
  · refine (Store_short w (.pointer (some ⟨b, 0, none⟩)) ak av ck cv key l hK hB k1 k2 h1).mono ?_
    rintro _ w' ⟨x, rfl, hx, oK, oV, hb⟩
    have e1 : x.key = key := congrArg It.key hx
    have e2 : x.val = l := congrArg It.val hx
    have e3 : x.size = (l.length : Int) := congrArg It.size hx
    refine ⟨pc, col, Vf.keep hb, .inl ⟨S, x, rfl, e1, oK.r, nw oK.n, ⟨hB.1, h2, e3, .inl ⟨h1, e2, oV.r, nw oV.n⟩⟩, ?_, .inl ⟨h1, rfl⟩, h.keep hb⟩⟩
    have : np l = 0 := if_pos h1
    rw [this]
    exact Stp.zero S
  · obtain ⟨g, off, rfl, hc⟩ := hB.at (j := 0) (by omega)
    have hn : np l = kp l := if_neg h1
    refine (Store_long w b S pb mb pc col h ak ck key hK hkc k1 k2 g off cv l hB (hvc (by omega) _ rfl) (block_lt_of_cell hc) hcv (by omega) h2 (kp l) rfl hfn hm1 hm2 hm3 hm4).mono ?_
    rintro _ w' (⟨S', x, rfl, e1, e2, e3, hS, pc', col', hV, hF, hR, hn2⟩ | ⟨m, S1, n1, er, rfl, hne, hm, hS, hr, pc', col', hV, hF⟩)
    · refine ⟨pc', col', hF, .inl ⟨S', x, rfl, e1, hR, fun y hy => (hn2 y hy).1, ⟨hB.1, h2, e3, .inr ⟨by omega, hS.c⟩⟩, ?_, .inr ⟨by omega, hS⟩, hV⟩⟩
      rw [hn]
      exact hS.stp
    · obtain ⟨q1, q2⟩ := spo_err hS (by unfold kp; omega) hr hne
      subst q1
      exact ⟨pc', col', hF, .inr ⟨rfl, by rw [hn]; omega, hV⟩⟩
theorem Load_all (w : World) (b : Nat) (S : Vs) (pb mb : Nat) (pc col : Nat → Nat) (h : Vw w b S pb mb pc col) (x : Iv) (l : List Nat) (hs : Sto w col S x l) :
    Calls Tryz.prog 24 #[.pointer (some ⟨b, 0, none⟩), x.vl] w fun e w' => ∃ (a : Option Addr) (c : Nat), e = .returned (.tuple #[.slice a l.length c, .int .i64 0]) ∧ Own w w' a c l := by
  rcases hs.v with ⟨h1, h2, h3, h4⟩ | ⟨h1, h2⟩
  · have hB : Bs w x.aV x.val := by rw [h2]; exact h3.bs hs.b8 (Nat.le_trans hs.le (by decide))
    have := Load_short w (.pointer (some ⟨b, 0, none⟩)) x hB (by rw [h2]; exact h1) (by rw [h2]; exact hs.size)
    rw [h2] at this
    exact this
  · exact Load_ok w b S pb mb pc col h l h1 hs.le hs.b8 (kp l) rfl x hs.size h2
set_option maxHeartbeats 8000000 in
set_option maxRecDepth 8000 in
theorem Read_gone (w : World) (b : Nat) (S : Vs) (pb mb : Nat) (pc col : Nat → Nat) (h : Vw w b S pb mb pc col) (z : Int) (h1 : ¬ 0 < S.X.P.count z) :
    Calls Tryz.prog 43 #[.pointer (some ⟨b, 0, none⟩), .int .i64 z] w fun x w' => x = .returned (.tuple #[.agg #[.int .i64 0, .int .i64 0, .slice none 0 0, .slice none 0 0, .int .i64 0], .int .i64 15]) ∧ Below w.heap.size w w' := by
  have aB := al w (.cells Pv.zero.cs 93)
  have TH := hide (there_st _ b S pb mb pc col (h.keep aB) z)
  have HX := hide (World.alloc_heap_new w (.cells Pv.zero.cs 93))
  have AB := hide aB
  clear h aB
  simp only [Pv.cs] at HX AB TH
  simp only [Pv.zero, List.length_nil] at HX AB TH
  rw [decide_eq_false h1] at TH
  clear h1
  go_enter Tryz.func43, Tryz.ntmps43
  go_wp2_with fail
  refine TH.out.mono ?_
  rintro _ wq ⟨rfl, hwq⟩
  obtain rfl := hwq.symm
  clear hwq
  go_wp2_with (first | (refine wpList_store_row rfl 93 _ _ rfl w.heap.size _ rfl rfl 93 _ HX.out sizePage rfl (by simp [Value.oneCell']) ?_) | fail)
  refine bodyPost_ret (v := .tuple #[.agg _, _]) (results_cell_one Tryz.results43 _ _ w.heap.size 93 _ (0, 0) _ rfl (setRow_heap _ _ _ _ _ _ HX.out) Tryz.underlying93 rfl sizePage) rfl ?_
  exact ⟨rfl, ((But.ofBelow (S := fun k => k = w.heap.size) AB.out).trans (Q.setRow_but _ _ _) (fun _ _ e => e)).below (fun k hk e => by omega)⟩
set_option maxHeartbeats 8000000 in
set_option maxRecDepth 8000 in
/-- a value whose first page is gone -/
theorem Load_gone (w : World) (b : Nat) (S : Vs) (pb mb : Nat) (pc col : Nat → Nat) (h : Vw w b S pb mb pc col) (x : Iv) (s : Nat) (h1 : 32 < s) (h2 : s ≤ 3840) (hz : x.size = (s : Int)) (hc : ¬ 0 < S.X.P.count x.child) :
    Calls Tryz.prog 24 #[.pointer (some ⟨b, 0, none⟩), x.vl] w fun e w' => e = .returned (.tuple #[.slice none 0 0, .int .i64 15]) ∧ Below w.heap.size w w' := by
  have A0 := hide (al w (.cells x.cs 34))
  have X0 := hide (heap_alloc_new w (.cells x.cs 34))
  have GA : Hid (Calls Tryz.prog 57 #[.pointer (some ⟨b, 0, none⟩), .int .i64 x.child, .int .i64 (s : Int)] (w.alloc (.cells x.cs 34)) fun e w' => e = .returned (.tuple #[.slice none 0 0, .int .i64 15]) ∧ Below (w.alloc (.cells x.cs 34)).heap.size (w.alloc (.cells x.cs 34)) w') := by
    show Calls _ _ _ _ _
    have h' := h.keep A0.out
    generalize (w.alloc (.cells x.cs 34)) = W at *
    have AA := hide (al W (.cells (madeCells #[.int .u8 0] s) 5))
    have RD := hide (Read_gone (W.alloc (.cells (madeCells #[.int .u8 0] s) 5)) b S pb mb pc col (h'.keep AA.out) x.child hc)
    have hmk : ∀ w : World, (Instr.makeSlice 32 (.int .i64 0) (.int .i64 (s : Int))).run Tryz.prog w = .ok (.slice (some ⟨w.heap.size, 0, none⟩) 0 s) (w.alloc (.cells (madeCells #[.int .u8 0] s) 5)) := make_u8 0 s (Nat.zero_le _) (by omega)
    obtain ⟨ch, hch⟩ : ∃ ch, x.child = ch := ⟨_, rfl⟩
    rw [hch] at RD ⊢
    clear h h' hc hz hch A0 X0
    have hs0 : (0 : Int) < (s : Int) := by omega
    obtain ⟨mc, hmc⟩ : ∃ mc, madeCells #[.int .u8 0] s = mc := ⟨_, rfl⟩
    rw [hmc] at AA RD
    simp only [hmc] at hmk
    clear hmc
    go_enter Tryz.func57, Tryz.ntmps57
    go_wp2_with fail
    go_loopw [8, 1] (fun vv nv wx => vv = .slice (some ⟨W.heap.size, 0, none⟩) 0 s ∧ nv = .int .i64 ch ∧ wx = W.alloc (.cells mc 5)) (fun vv _ _ => 0)
    case atStart => exact ⟨rfl, rfl, rfl⟩
    case round =>
      obtain ⟨rfl, rfl, rfl⟩ := hrel
      go_wp2_with fail
      refine RD.out.mono ?_
      rintro _ w3 ⟨rfl, hb3⟩
      have B3 := hide (bt AA.out hb3)
      clear hb3 RD
      have A4 := hide (al w3 (.cells #[.int .i64 0, .int .i64 0, .slice none 0 0, .slice none 0 0, .int .i64 0] 93))
      go_wp2_with fail
      refine bodyPost_ret (results_tmp2 rfl _ _ _) rfl ?_
      exact ⟨rfl, bt B3.out A4.out⟩
  clear h hc
  obtain ⟨xK, xcK, xkey, xV, xcV, xval, xch, xsz⟩ := x
  simp only at hz
  subst hz
  unfold Iv.vl
  simp only [Iv.cs] at A0 X0 GA ⊢
  have d1 : decide ((s : Int) < 0) = false := decide_eq_false (by omega)
  have d2 : decide ((3840 : Int) < (s : Int)) = false := decide_eq_false (by omega)
  have d3 : decide ((32 : Int) < (s : Int)) = true := decide_eq_true (by omega)
  obtain ⟨x0, x1, x2, x3⟩ := four13 X0.out
  go_enter Tryz.func24, Tryz.ntmps24
  go_wp2_with fail
  refine GA.out.mono ?_
  rintro _ w3 ⟨rfl, hb⟩
  have B3 := hide (bt A0.out hb)
  clear hb
  go_wp2_with fail
  refine bodyPost_ret (results_tmp2 rfl _ _ _) rfl ?_
  exact ⟨rfl, B3.out⟩
set_option maxHeartbeats 8000000 in
set_option maxRecDepth 8000 in
theorem Release_short (w : World) (v : Value) (x : Iv) (h : x.size ≤ 32) : Calls Tryz.prog 25 #[v, x.vl] w fun e w' => e = .returned (.int .i64 0) ∧ Below w.heap.size w w' := by
  have A0 := hide (al w (.cells x.cs 34))
  have X0 := hide (heap_alloc_new w (.cells x.cs 34))
  obtain ⟨xK, xcK, xkey, xV, xcV, xval, xch, xsz⟩ := x
  simp only at h
  unfold Iv.vl
  simp only [Iv.cs] at A0 X0 ⊢
  have d3 : decide (xsz ≤ (32 : Int)) = true := decide_eq_true (by omega)
  obtain ⟨x0, x1, x2, x3⟩ := four13 X0.out
  go_enter Tryz.func25, Tryz.ntmps25
  go_wp2_with fail
  go_ret
  exact ⟨rfl, A0.out⟩
set_option maxHeartbeats 8000000 in
set_option maxRecDepth 8000 in
theorem Release_long (w : World) (b : Nat) (S : Vs) (pb mb : Nat) (pc col : Nat → Nat) (h : Vw w b S pb mb pc col) (x : Iv) (hx : 32 < x.size) (t : Nat) (ht : tot S.X.P < t) (hm : S.X.P.mark + tot S.X.P + 1 ≤ 17592186044416) (hc : S.X.ch.length + tot S.X.P + 1 ≤ 1759218604441) (hl : S.al.length + 1 ≤ 8796093022208) :
    Calls Tryz.prog 25 #[.pointer (some ⟨b, 0, none⟩), x.vl] w fun e w' => e = .returned (.int .i64 (dropM t S.X x.child).1) ∧ ∃ pc' col', Vw w' b (S.done (dropM t S.X x.child).1 (dropM t S.X x.child).2) pb mb pc' col' ∧ Vf w col w' col' := by
  have A0 := hide (al w (.cells x.cs 34))
  have X0 := hide (heap_alloc_new w (.cells x.cs 34))
  have DR := hide (Drop_any (w.alloc (.cells x.cs 34)) b S pb mb pc col (h.keep A0.out) x.child t ht hm hc hl)
  obtain ⟨r, hr⟩ : ∃ r, dropM t S.X x.child = r := ⟨_, rfl⟩
  rw [hr] at DR ⊢
  obtain ⟨e, X1⟩ := r
  simp only at DR ⊢
  obtain ⟨S2, hS2⟩ : ∃ S2, S.done e X1 = S2 := ⟨_, rfl⟩
  rw [hS2] at DR ⊢
  clear h ht hm hc hl hr hS2
  obtain ⟨xK, xcK, xkey, xV, xcV, xval, xch, xsz⟩ := x
  simp only at hx
  unfold Iv.vl
  simp only [Iv.cs] at A0 X0 DR ⊢
  have d3 : decide (xsz ≤ (32 : Int)) = false := decide_eq_false (by omega)
  obtain ⟨x0, x1, x2, x3⟩ := four13 X0.out
  go_enter Tryz.func25, Tryz.ntmps25
  go_wp2_with fail
  refine DR.out.mono ?_
  rintro _ w3 ⟨rfl, pc3, col3, v3, f3⟩
  have V3 := hide v3
  have F3 := hide ((Vf.keep A0.out).trans f3)
  clear v3 f3
  go_wp2_with fail
  go_ret
  exact ⟨rfl, pc3, col3, V3.out, F3.out⟩
end Go.Proofs.YtbhigodjbfoeoaaGreat
