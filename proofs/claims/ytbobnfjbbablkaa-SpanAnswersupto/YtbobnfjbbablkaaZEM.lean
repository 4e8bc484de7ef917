import Derived.Test.YtbobnfjbbablkaaZFB
namespace Go.Proofs.Ytbobnfjbbablkaa
open Go.RowKit

theorem set_alloc (w : World) (o : Obj) {p : Addr} (hp : p.block < w.heap.size) (v : Value) : (w.alloc o).setCell p v = (w.setCell p v).alloc o := by
  symm
  simp only [World.setCell, World.alloc]
  congr 1
  apply Array.ext_getElem?
  intro i
  simp [Array.getElem?_modify, Array.getElem?_push]
  by_cases e : i = w.heap.size
  · subst e; simp [show p.block ≠ w.heap.size by omega]
  · simp [e]
theorem Wl.mark' {w W : World} {oc c3 : Array Value} {g3 gM n : Nat} {T : List Br} {M : List Rv} {j : Nat} {D : List Rv} (h : Wl w W oc c3 g3 gM n T M j D) (hj : M.length ≤ j) (hn : j < n) :
    Wl w ((((W.setCell ⟨gM, j * 3, none⟩ (.slice (some ⟨W.heap.size, 0, none⟩) 2 2)).setCell ⟨gM, j * 3 + 1, none⟩ (.slice none 0 0)).setCell ⟨gM, j * 3 + 2, none⟩ (.bool true)).alloc (.cells #[.int .u8 ((j : Int) % 256), .int .u8 200] 5)) oc c3 g3 gM n T M (j + 1) (D ++ [⟨some ⟨W.heap.size, 0, none⟩, 2, [j % 256, 200], none, 0, [], true⟩]) := by
  have h1 := h.mark hj hn
  have hg : gM < W.heap.size := h.q.lt rfl
  have e : ((W.alloc (.cells #[.int .u8 ((j % 256 : Nat) : Int), .int .u8 ((200 : Nat) : Int)] 5)).setCells gM (j * 3) (Rv.mk (some ⟨W.heap.size, 0, none⟩) 2 [j % 256, 200] none 0 [] true).cs.toList) = ((((W.setCell ⟨gM, j * 3, none⟩ (.slice (some ⟨W.heap.size, 0, none⟩) 2 2)).setCell ⟨gM, j * 3 + 1, none⟩ (.slice none 0 0)).setCell ⟨gM, j * 3 + 2, none⟩ (.bool true)).alloc (.cells #[.int .u8 ((j : Int) % 256), .int .u8 200] 5)) := by
    rw [show (((j % 256 : Nat) : Int)) = (j : Int) % 256 by omega]
    show (((W.alloc _).setCell ⟨gM, j * 3, none⟩ _).setCell ⟨gM, j * 3 + 1, none⟩ _).setCell ⟨gM, j * 3 + 1 + 1, none⟩ _ = _
    rw [set_alloc W _ (p := ⟨gM, j * 3, none⟩) hg, set_alloc _ _ (p := ⟨gM, j * 3 + 1, none⟩) (by simpa [World.setCell] using hg), set_alloc _ _ (p := ⟨gM, j * 3 + 1 + 1, none⟩) (by simpa [World.setCell] using hg)]
    rfl
  rw [e] at h1
  exact h1
/-- the call that spared makes -/
structure Sp (w W : World) (o p : Ov) : Prop where
  kd : p.kd = o.kd
  A : p.A = o.A
  B : p.B = o.B
  R : p.R.rg = o.R.rg
  S : p.S.rg = o.S.rg
  M : p.M.map Rv.rg = o.M.map Rv.rg
  f : Sf w W ([] ++ [⟨p.aA, p.cA, p.A⟩] ++ [⟨p.aB, p.cB, p.B⟩] ++ p.R.rows ++ p.S.rows ++ rowsOf p.M)
  q : ∃ gM D, p.aM = some ⟨gM, 0, none⟩ ∧ p.cM = p.M.length + 3 ∧ w.heap.size ≤ gM ∧ Qw W (some ⟨gM, 0, none⟩) (p.M.length + 3) (p.M ++ D) ∧ D.length = 3 ∧ ∀ i, i < 3 → Mk W (p.M.length + i) (D.getD i Rv.zero)
theorem take_rg {D M : List Rv} {n : Nat} (hl : D.length = n) (hn : M.length ≤ n) (h : ∀ i, i < n → i < M.length → (D.getD i Rv.zero).rg = (M.getD i Rv.zero).rg) : (D.take M.length).map Rv.rg = M.map Rv.rg := by
  apply List.ext_getElem?
  intro i
  by_cases hi : i < M.length
  · have h1 := h i (by omega) hi
    have hd : i < D.length := by omega
    simp [hi, hd] at h1 ⊢
    exact h1
  · rw [List.getElem?_eq_none (by simp; omega), List.getElem?_eq_none (by simp; omega)]
theorem Wl.done {w W : World} {oc c3 : Array Value} {g3 gM n : Nat} {T : List Br} {M D : List Rv} {kd : Int} {aA aB aM : Option Addr} {cA cB cM gA gB : Nat} {A B : List Nat} {q s R S : Rv} (h : Wl w W oc c3 g3 gM n T M n D) (hn : n = M.length + 3)
    (hT : T = [] ++ [⟨some ⟨gA, 0, none⟩, A.length + 64, A⟩] ++ [⟨some ⟨gB, 0, none⟩, B.length + 64, B⟩] ++ q.rows ++ s.rows) (hq : q.rg = R.rg) (hs : s.rg = S.rg) (v : Value) (cs : Array Value) :
    Sp w ((W.setCell ⟨g3, 9, none⟩ v).setRow (w.heap.size + 1) cs) ⟨kd, aA, cA, A, aB, cB, B, R, S, aM, cM, M⟩ ⟨kd, some ⟨gA, 0, none⟩, A.length + 64, A, some ⟨gB, 0, none⟩, B.length + 64, B, q, s, some ⟨gM, 0, none⟩, M.length + 3, D.take M.length⟩ := by
  have hb : But (fun k => k = g3 ∨ k = w.heap.size + 1) W ((W.setCell ⟨g3, 9, none⟩ v).setRow (w.heap.size + 1) cs) :=
    ((But.refl (fun k => k = g3 ∨ k = w.heap.size + 1) W).setCell (p := ⟨g3, 9, none⟩) (fun _ => .inl rfl) v).trans (but_setRow _ _ cs) fun x _ e => .inr e
  have hn3 := h.s.n3
  have hw : Below w.heap.size w ((W.setCell ⟨g3, 9, none⟩ v).setRow (w.heap.size + 1) cs) := ((But.ofBelow (S := fun k => k = g3 ∨ k = w.heap.size + 1) h.s.p.b).trans hb fun _ _ e => e).below fun k hk e => by omega
  have nk : ∀ {a : Option Addr} {c : Nat} {l : List Nat}, Rw W a c l → ∀ x, a = some x → ¬ (x.block = g3 ∨ x.block = w.heap.size + 1) := fun hr x hx e => by
    rcases e with e | e
    · exact hr.notKind h.s.m3 (by decide) hx e
    · exact hr.notKind h.s.p.m1 (by decide) hx e
  have hDl : (D.take M.length).length = M.length := by rw [List.length_take, h.l]; omega
  obtain ⟨cq, hkq⟩ := h.q.kind
  refine ⟨rfl, rfl, rfl, hq, hs, take_rg h.l (by omega) h.e, ?_, gM, D.drop M.length, rfl, by dsimp only; rw [hDl], by have := h.g; omega, ?_, ?_, fun i hi => ?_⟩
  · subst hT
    exact h.s.f.but hb hw fun t ht => nk (h.s.f.s t ht).rw'
  · dsimp only
    rw [hDl, List.take_append_drop]
    have q1 := h.q
    rw [Nat.sub_self, List.replicate_zero, List.append_nil, hn] at q1
    refine q1.but hb fun x hx e => ?_
    cases hx
    rcases e with e | e
    · dsimp only at e
      have h1 := h.s.m3
      rw [← e, hkq] at h1
      simp at h1
    · have := h.g; dsimp only at e; omega
  · rw [List.length_drop, h.l]; omega
  · dsimp only
    rw [hDl]
    have hk := h.k (M.length + i) (by omega) (by omega)
    have e : (D.drop M.length).getD i Rv.zero = D.getD (M.length + i) Rv.zero := by simp
    rw [e]
    exact ⟨hk.e, hk.o.but hb (nk hk.o)⟩
set_option maxRecDepth 100000 in
set_option maxHeartbeats 12800000 in
theorem gspared_lit (w : World) (kd : Int) (aA : Option Addr) (cA : Nat) (A : List Nat) (aB : Option Addr) (cB : Nat) (B : List Nat) (aL : Option Addr) (cL : Nat) (lo : List Nat) (aH : Option Addr) (cH : Nat) (hi : List Nat) (op : Bool) (bL : Option Addr) (dL : Nat) (ko : List Nat) (bH : Option Addr) (dH : Nat) (ki : List Nat) (oq : Bool) (aM : Option Addr) (cM : Nat) (M : List Rv) (h : Oi w ⟨kd, aA, cA, A, aB, cB, B, ⟨aL, cL, lo, aH, cH, hi, op⟩, ⟨bL, dL, ko, bH, dH, ki, oq⟩, aM, cM, M⟩) (hb0 : Ob ⟨kd, aA, cA, A, aB, cB, B, ⟨aL, cL, lo, aH, cH, hi, op⟩, ⟨bL, dL, ko, bH, dH, ki, oq⟩, aM, cM, M⟩) :
    Calls Try.prog 10 #[.agg #[.int .i64 kd, .slice aA A.length cA, .slice aB B.length cB, .slice aL lo.length cL, .slice aH hi.length cH, .bool op, .slice bL ko.length dL, .slice bH ki.length dH, .bool oq, .slice aM M.length cM]] w fun e w' => ∃ p : Ov, e = .returned (.agg p.cs) ∧ Sp w w' ⟨kd, aA, cA, A, aB, cB, B, ⟨aL, cL, lo, aH, cH, hi, op⟩, ⟨bL, dL, ko, bH, dH, ki, oq⟩, aM, cM, M⟩ p := by
  have SA := hide fun w1 (hb : Below w.heap.size w w1) => Spare_at w1 aA A.length cA A (h.a.keep hb) rfl hb0.a
  have SB := hide fun w1 (hb : Below w.heap.size w w1) => Spare_at w1 aB B.length cB B (h.b.keep hb) rfl hb0.b
  have SR := hide fun w1 (hb : Below w.heap.size w w1) => gspareRange_any w1 ⟨aL, cL, lo, aH, cH, hi, op⟩ (h.r.keep hb) hb0.rl hb0.rh
  have SS := hide fun w1 (hb : Below w.heap.size w w1) => gspareRange_any w1 ⟨bL, dL, ko, bH, dH, ki, oq⟩ (h.s.keep hb) hb0.sl hb0.sh
  have A8 := hide (B8_of h.a)
  have B8 := hide (B8_of h.b)
  have NA := hide hb0.a
  have NB := hide hb0.b
  have HM := hide h.m
  have HMB := hide hb0.m
  have HML := hide hb0.ml
  clear h hb0
  unfold Rv.val at SR SS
  dsimp only [Rv.cs] at SR SS
  go_enter Try.func10, Try.ntmps10
  go_wp2
  have P0 : Hid (Pq w ((w.alloc (.cells #[.int .i64 kd, .slice aA A.length cA, .slice aB B.length cB, .slice aL lo.length cL, .slice aH hi.length cH, .bool op, .slice bL ko.length dL, .slice bH ki.length dH, .bool oq, .slice aM M.length cM] 29)).alloc (.cells #[.int .i64 0, .slice none 0 0, .slice none 0 0, .slice none 0 0, .slice none 0 0, .bool false, .slice none 0 0, .slice none 0 0, .bool false, .slice none 0 0] 29)).drew #[.int .i64 kd, .slice aA A.length cA, .slice aB B.length cB, .slice aL lo.length cL, .slice aH hi.length cH, .bool op, .slice bL ko.length dL, .slice bH ki.length dH, .bool oq, .slice aM M.length cM]) := Pq.start ((Below.refl _ _).drew)
  have P0b : Hid (Pq w (((w.alloc (.cells #[.int .i64 kd, .slice aA A.length cA, .slice aB B.length cB, .slice aL lo.length cL, .slice aH hi.length cH, .bool op, .slice bL ko.length dL, .slice bH ki.length dH, .bool oq, .slice aM M.length cM] 29)).alloc (.cells #[.int .i64 0, .slice none 0 0, .slice none 0 0, .slice none 0 0, .slice none 0 0, .bool false, .slice none 0 0, .slice none 0 0, .bool false, .slice none 0 0] 29)).alloc (.cells #[.int .i64 0, .slice none 0 0, .slice none 0 0, .slice none 0 0, .slice none 0 0, .bool false, .slice none 0 0, .slice none 0 0, .bool false, .slice none 0 0] 29)).drew #[.int .i64 kd, .slice aA A.length cA, .slice aB B.length cB, .slice aL lo.length cL, .slice aH hi.length cH, .bool op, .slice bL ko.length dL, .slice bH ki.length dH, .bool oq, .slice aM M.length cM]) := Pq.start ((al _ _).drew)
  have C0 := ten10 P0.out.m0
  have C0b := ten10 P0b.out.m0
  have F0 := hide (Sf.nil P0.out.b)
  have F0b := hide (Sf.nil P0b.out.b)
  go_cut [3] from 6 to 20 (fun p wx => ∃ (g3 gA gB : Nat) (q s : Rv), p = .pointer (some ⟨g3, 0, none⟩) ∧ (Ws w wx #[.int .i64 kd, .slice aA A.length cA, .slice aB B.length cB, .slice aL lo.length cL, .slice aH hi.length cH, .bool op, .slice bL ko.length dL, .slice bH ki.length dH, .bool oq, .slice aM M.length cM] #[.int .i64 kd, .slice (some ⟨gA, 0, none⟩) A.length (A.length + 64), .slice (some ⟨gB, 0, none⟩) B.length (B.length + 64), .slice q.aL q.lo.length q.cL, .slice q.aH q.hi.length q.cH, .bool q.op, .slice s.aL s.lo.length s.cL, .slice s.aH s.hi.length s.cH, .bool s.op, .slice none 0 0] g3 ([] ++ [⟨some ⟨gA, 0, none⟩, A.length + 64, A⟩] ++ [⟨some ⟨gB, 0, none⟩, B.length + 64, B⟩] ++ q.rows ++ s.rows) ∧ q.rg = ⟨lo, hi, op⟩ ∧ s.rg = ⟨ko, ki, oq⟩))
  case first =>
    go_region_held3 (fun w' => w'.cell? ⟨w.heap.size, 0, none⟩ = some (.int .i64 kd) ∧ w'.cell? ⟨w.heap.size, 1, none⟩ = some (.slice aA A.length cA) ∧ w'.cell? ⟨w.heap.size, 2, none⟩ = some (.slice aB B.length cB) ∧ w'.cell? ⟨w.heap.size, 3, none⟩ = some (.slice aL lo.length cL) ∧ w'.cell? ⟨w.heap.size, 4, none⟩ = some (.slice aH hi.length cH) ∧ w'.cell? ⟨w.heap.size, 5, none⟩ = some (.bool op) ∧ w'.cell? ⟨w.heap.size, 6, none⟩ = some (.slice bL ko.length dL) ∧ w'.cell? ⟨w.heap.size, 7, none⟩ = some (.slice bH ki.length dH) ∧ w'.cell? ⟨w.heap.size, 8, none⟩ = some (.bool oq) ∧ w'.cell? ⟨w.heap.size, 9, none⟩ = some (.slice aM M.length cM))
      (first | with_reducible exact C0 | with_reducible exact C0b | with_reducible exact CC | with_reducible exact CA _ | with_reducible exact CS _ _ _ _ _ _ _ _ _ _)
      (first | (go_at_call 31; with_reducible refine (SA.out _ P0.out.b).mono ?_; rintro e w1 ⟨gA, rfl, hr, hg, _, hb⟩; (try (have A3 := hide (And.intro (blk_keep A3.out.1 hb) A3.out.2))); have P := hide (P0.out.keep hb); have PA := hide fun o => P.out.keep (al _ o); have CC := ten10 P.out.m0; have CA := fun o => ten10 (PA.out o).m0; have F := hide (F0.out.app (Sf.one hb hr hg NA.out A8.out)); clear hb hr hg) | (go_at_call 31; with_reducible refine (SA.out _ P0b.out.b).mono ?_; rintro e w1 ⟨gA, rfl, hr, hg, _, hb⟩; have A3 := hide (And.intro (blk_new3 (w := w) hb) (Nat.le_refl (w.heap.size + 2))); have P := hide (P0b.out.keep hb); have PA := hide fun o => P.out.keep (al _ o); have CC := ten10 P.out.m0; have CA := fun o => ten10 (PA.out o).m0; have F := hide (F0b.out.app (Sf.one hb hr hg NA.out A8.out)); clear hb hr hg) | (go_at_call 31; with_reducible refine (SB.out _ P.out.b).mono ?_; rintro e w2 ⟨gB, rfl, hr, hg, _, hb⟩; (try (have A3 := hide (And.intro (blk_keep A3.out.1 hb) A3.out.2))); have P := hide (P.out.keep hb); have PA := hide fun o => P.out.keep (al _ o); have CC := ten10 P.out.m0; have CA := fun o => ten10 (PA.out o).m0; have F := hide (F.out.app (Sf.one hb hr hg NB.out B8.out)); clear hb hr hg) | (go_at_call 31; with_reducible refine (SB.out _ (PA.out _).b).mono ?_; rintro e w2 ⟨gB, rfl, hr, hg, _, hb⟩; have A3 := hide (And.intro (blk_new hb) P.out.s); have P := hide ((PA.out _).keep hb); have PA := hide fun o => P.out.keep (al _ o); have CC := ten10 P.out.m0; have CA := fun o => ten10 (PA.out o).m0; have F := hide ((F.out.keep (al _ _)).app (Sf.one hb hr hg NB.out B8.out)); clear hb hr hg) | (go_at_call 32; with_reducible refine (SR.out _ P.out.b).mono ?_; rintro e w3 ⟨q, rfl, hs⟩; have hb := hs.b; (try (have A3 := hide (And.intro (blk_keep A3.out.1 hb) A3.out.2))); have P := hide (P.out.keep hb); have PA := hide fun o => P.out.keep (al _ o); have CC := ten10 P.out.m0; have CA := fun o => ten10 (PA.out o).m0; have F := hide (F.out.app hs.sf); have HS3 := hide hs.e; clear hb hs) | (go_at_call 32; with_reducible refine (SR.out _ (PA.out _).b).mono ?_; rintro e w3 ⟨q, rfl, hs⟩; have hb := hs.b; have A3 := hide (And.intro (blk_new hb) P.out.s); have P := hide ((PA.out _).keep hb); have PA := hide fun o => P.out.keep (al _ o); have CC := ten10 P.out.m0; have CA := fun o => ten10 (PA.out o).m0; have F := hide ((F.out.keep (al _ _)).app hs.sf); have HS3 := hide hs.e; clear hb hs) | (go_at_call 32; with_reducible refine (SS.out _ P.out.b).mono ?_; rintro e w4 ⟨s, rfl, hs⟩; have hb := hs.b; (try (have A3 := hide (And.intro (blk_keep A3.out.1 hb) A3.out.2))); have P := hide (P.out.keep hb); have PA := hide fun o => P.out.keep (al _ o); have CC := ten10 P.out.m0; have CA := fun o => ten10 (PA.out o).m0; have F := hide (F.out.app hs.sf); (try (obtain ⟨x0, x1, x2, x3, x4, x5, x6, x7, x8, x9⟩ := ten10 A3.out.1; have y0 := thaw A3.out.1 0; have y1 := thaw A3.out.1 1; have y2 := thaw A3.out.1 2; have y3 := thaw A3.out.1 3; have y4 := thaw A3.out.1 4; have y5 := thaw A3.out.1 5; have y6 := thaw A3.out.1 6; have y7 := thaw A3.out.1 7; have y8 := thaw A3.out.1 8; have y9 := thaw A3.out.1 9)); (try (have CS := fun b0 b1 b2 b3 b4 b5 b6 b7 b8 b9 => ten10 (P.out.but (set10_but _ _ b0 b1 b2 b3 b4 b5 b6 b7 b8 b9) A3.out.2).m0)); have HS4 := hide hs.e; clear hb hs) | (go_at_call 32; with_reducible refine (SS.out _ (PA.out _).b).mono ?_; rintro e w4 ⟨s, rfl, hs⟩; have hb := hs.b; have A3 := hide (And.intro (blk_new hb) P.out.s); have P := hide ((PA.out _).keep hb); have PA := hide fun o => P.out.keep (al _ o); have CC := ten10 P.out.m0; have CA := fun o => ten10 (PA.out o).m0; have F := hide ((F.out.keep (al _ _)).app hs.sf); (try (obtain ⟨x0, x1, x2, x3, x4, x5, x6, x7, x8, x9⟩ := ten10 A3.out.1; have y0 := thaw A3.out.1 0; have y1 := thaw A3.out.1 1; have y2 := thaw A3.out.1 2; have y3 := thaw A3.out.1 3; have y4 := thaw A3.out.1 4; have y5 := thaw A3.out.1 5; have y6 := thaw A3.out.1 6; have y7 := thaw A3.out.1 7; have y8 := thaw A3.out.1 8; have y9 := thaw A3.out.1 9)); (try (have CS := fun b0 b1 b2 b3 b4 b5 b6 b7 b8 b9 => ten10 (P.out.but (set10_but _ _ b0 b1 b2 b3 b4 b5 b6 b7 b8 b9) A3.out.2).m0)); have HS4 := hide hs.e; clear hb hs))
    · go_wp2_with fail
      go_meet
      case rel => exact ⟨w4.heap.size, gA, gB, q, s, rfl, Ws.new P.out F.out #[.int .i64 kd, .slice (some ⟨gA, 0, none⟩) A.length (A.length + 64), .slice (some ⟨gB, 0, none⟩) B.length (B.length + 64), .slice q.aL q.lo.length q.cL, .slice q.aH q.hi.length q.cH, .bool q.op, .slice s.aL s.lo.length s.cL, .slice s.aH s.hi.length s.cH, .bool s.op, .slice none 0 0], HS3.out, HS4.out⟩
    · clear x0 x1 x2 x3 x4 x5 x6 x7 x8 x9 y0 y1 y2 y3 y4 y5 y6 y7 y8 y9
      go_wp2_with fail
      go_meet
      case rel => exact ⟨w3.heap.size, gA, gB, q, s, rfl, Ws.set P.out F.out A3.out.1 A3.out.2 (.int .i64 kd) (.slice (some ⟨gA, 0, none⟩) A.length (A.length + 64)) (.slice (some ⟨gB, 0, none⟩) B.length (B.length + 64)) (.slice q.aL q.lo.length q.cL) (.slice q.aH q.hi.length q.cH) (.bool q.op) (.slice s.aL s.lo.length s.cL) (.slice s.aH s.hi.length s.cH) (.bool s.op) (.slice none 0 0), HS3.out, HS4.out⟩
    · clear x0 x1 x2 x3 x4 x5 x6 x7 x8 x9 y0 y1 y2 y3 y4 y5 y6 y7 y8 y9
      go_wp2_with fail
      go_meet
      case rel => exact ⟨w2.heap.size, gA, gB, q, s, rfl, Ws.set P.out F.out A3.out.1 A3.out.2 (.int .i64 kd) (.slice (some ⟨gA, 0, none⟩) A.length (A.length + 64)) (.slice (some ⟨gB, 0, none⟩) B.length (B.length + 64)) (.slice q.aL q.lo.length q.cL) (.slice q.aH q.hi.length q.cH) (.bool q.op) (.slice s.aL s.lo.length s.cL) (.slice s.aH s.hi.length s.cH) (.bool s.op) (.slice none 0 0), HS3.out, HS4.out⟩
    · clear x0 x1 x2 x3 x4 x5 x6 x7 x8 x9 y0 y1 y2 y3 y4 y5 y6 y7 y8 y9
      go_wp2_with fail
      go_meet
      case rel => exact ⟨w1.heap.size, gA, gB, q, s, rfl, Ws.set P.out F.out A3.out.1 A3.out.2 (.int .i64 kd) (.slice (some ⟨gA, 0, none⟩) A.length (A.length + 64)) (.slice (some ⟨gB, 0, none⟩) B.length (B.length + 64)) (.slice q.aL q.lo.length q.cL) (.slice q.aH q.hi.length q.cH) (.bool q.op) (.slice s.aL s.lo.length s.cL) (.slice s.aH s.hi.length s.cH) (.bool s.op) (.slice none 0 0), HS3.out, HS4.out⟩
    · clear x0 x1 x2 x3 x4 x5 x6 x7 x8 x9 y0 y1 y2 y3 y4 y5 y6 y7 y8 y9
      go_wp2_with fail
      go_meet
      case rel => exact ⟨w.heap.size + 1 + 1, gA, gB, q, s, rfl, Ws.set P.out F.out A3.out.1 A3.out.2 (.int .i64 kd) (.slice (some ⟨gA, 0, none⟩) A.length (A.length + 64)) (.slice (some ⟨gB, 0, none⟩) B.length (B.length + 64)) (.slice q.aL q.lo.length q.cL) (.slice q.aH q.hi.length q.cH) (.bool q.op) (.slice s.aL s.lo.length s.cL) (.slice s.aH s.hi.length s.cH) (.bool s.op) (.slice none 0 0), HS3.out, HS4.out⟩
  case rest =>
    obtain ⟨g3, gA, gB, q, s, rfl, hW, hq, hs⟩ := hcut
    have HQ := hide hq
    have HSS := hide hs
    have HW := hide hW
    clear hW hq hs
    have HT0 : Hid (∃ T, T = [] ++ [⟨some ⟨gA, 0, none⟩, A.length + 64, A⟩] ++ [⟨some ⟨gB, 0, none⟩, B.length + 64, B⟩] ++ q.rows ++ s.rows) := ⟨_, rfl⟩
    obtain ⟨T, hT⟩ := HT0.out
    rw [← hT] at HW
    have HT := hide hT
    clear hT HT0
    obtain ⟨k0, k1, k2, k3, k4, k5, k6, k7, k8, k9⟩ := ten10 HW.out.p.m0
    have hl0 : w.heap.size < wc.heap.size := by have := HW.out.p.s; omega
    have hMl := HMB.out
    have hmk := make_rng (M.length + 3) (by omega)
    have hadd : IntKind.i64.wrap ((M.length : Int) + 3) = ((M.length + 3 : Nat) : Int) := by rw [wrapI (by omega) (by omega)]; omega
    have HNN : Hid (∃ n, n = M.length + 3) := ⟨_, rfl⟩
    obtain ⟨n, hn⟩ := HNN.out
    rw [← hn] at hmk hadd
    have hn3 : M.length ≤ n := by omega
    have hn4 : n ≤ 1048579 := by omega
    have HN := hide hn
    clear hn HNN
    go_wp2
    clear k0 k1 k2 k3 k4 k5 k6 k7 k8 k9
    go_loopw [5] (fun i wx => ∃ (j : Nat) (D : List Rv), j ≤ n ∧ i = .int .i64 j ∧ Wl w wx #[.int .i64 kd, .slice aA A.length cA, .slice aB B.length cB, .slice aL lo.length cL, .slice aH hi.length cH, .bool op, .slice bL ko.length dL, .slice bH ki.length dH, .bool oq, .slice aM M.length cM] #[.int .i64 kd, .slice (some ⟨gA, 0, none⟩) A.length (A.length + 64), .slice (some ⟨gB, 0, none⟩) B.length (B.length + 64), .slice q.aL q.lo.length q.cL, .slice q.aH q.hi.length q.cH, .bool q.op, .slice s.aL s.lo.length s.cL, .slice s.aH s.hi.length s.cH, .bool s.op, .slice none 0 0] g3 wc.heap.size n T M j D) (fun i _ => n - (intOf i).toNat)
    case atStart => exact ⟨0, [], Nat.zero_le _, rfl, ⟨by simpa [rowsOf] using HW.out.keep (al _ _), by simpa using Qw.start hn4, rfl, HW.out.p.s, fun _ h => absurd h (by omega), fun _ h => absurd h (by omega)⟩⟩
    case round =>
      obtain ⟨j, D, hj, rfl, hG⟩ := hrel
      have HG := hide hG
      clear hG
      obtain ⟨k0, k1, k2, k3, k4, k5, k6, k7, k8, k9⟩ := ten10 HG.out.s.p.m0
      have hj1 := w64 (j := j) (by omega)
      by_cases hlt : j < n
      · have hi1 : (j : Int) < (n : Int) := by omega
        have hgl := HG.out.q.lt rfl
        dsimp only at hgl
        have hln : j < (D ++ List.replicate (n - j) Rv.zero).length := by rw [List.length_append, List.length_replicate, HG.out.l]; omega
        have HLN := hide hln
        clear hln
        by_cases hm : j < M.length
        · have hi2 : (j : Int) < (M.length : Int) := by omega
          obtain ⟨b, off, hab, hrr⟩ := (HM.out.keep HG.out.s.p.b).at hm
          have SPR := hide (gspareRange_any wr (M.getD j Rv.zero) ((HM.out.keep HG.out.s.p.b).1 _ (getD_memR hm)) (HML.out _ (getD_memR hm)).1 (HML.out _ (getD_memR hm)).2)
          have STP := hide fun w2 q' (h : Sr wr w2 q' (M.getD j Rv.zero)) => HG.out.spare hm hn3 h
          generalize M.getD j Rv.zero = r at *
          obtain ⟨m0, m1, m2⟩ := range3 hrr
          subst hab
          clear hrr
          unfold Rv.val at SPR
          obtain ⟨r1, r2, rl, r3, r4, rh, ro⟩ := r
          dsimp only [Rv.cs] at SPR m0 m1 m2
          go_wp2_with fail
          refine SPR.out.mono ?_
          rintro e w2 ⟨q', rfl, hsr⟩
          obtain ⟨⟨p0, p1, p2⟩, f0, f1, f2⟩ := (HG.out.q.keep hsr.b).three HLN.out
          have HST := hide (STP.out w2 q' hsr)
          clear hsr STP SPR m0 m1 m2 k0 k1 k2 k3 k4 k5 k6 k7 k8 k9
          go_wp2
          go_roundw
          case rel => exact ⟨j + 1, D ++ [q'], by omega, by first | (go_num; done) | exact congrArg (Value.int IntKind.i64) (by omega), HST.out⟩
          case measure => first | exact meas_up _ _ _ hj1 hlt | exact meas_up _ _ _ rfl hlt | (simp [intOf]; omega)
        · have hi2 : ¬ (j : Int) < (M.length : Int) := by omega
          have hcv : IntKind.u8.wrap (j : Int) = ((j % 256 : Nat) : Int) := by simp [IntKind.wrap, IntKind.bits, IntKind.signed]
          obtain ⟨⟨p0, p1, p2⟩, f0, f1, f2⟩ := HG.out.q.three HLN.out
          have HST := hide (HG.out.mark' (by omega) hlt)
          go_wp2
          clear k0 k1 k2 k3 k4 k5 k6 k7 k8 k9 p0 p1 p2 f0 f1 f2
          go_roundw
          case rel => exact ⟨j + 1, _, by omega, by first | (go_num; done) | exact congrArg (Value.int IntKind.i64) (by omega), HST.out⟩
          case measure => first | exact meas_up _ _ _ hj1 hlt | exact meas_up _ _ _ rfl hlt | (simp [intOf]; omega)
      · obtain rfl : j = n := by omega
        obtain ⟨g0x, g1x, g2x, g3x, g4x, g5x, g6x, g7x, g8x, g9x⟩ := ten10 HG.out.s.m3
        have gf := thaw HG.out.s.m3 9
        have M1 : Hid (∀ v, (wr.setCell ⟨g3, 9, none⟩ v).heap[w.heap.size + 1]? = some (.cells #[.int .i64 0, .slice none 0 0, .slice none 0 0, .slice none 0 0, .slice none 0 0, .bool false, .slice none 0 0, .slice none 0 0, .bool false, .slice none 0 0] 29 (0, 0))) := fun v => (Below.heap_setCell _ _ _ _ (by have := HG.out.s.n3; show w.heap.size + 1 ≠ g3; omega)).trans HG.out.s.p.m1
        have hle : (M.length : Int) ≤ (j : Int) := by omega
        go_wp2_with (refine wpList_store_row rfl 29 _ _ rfl (w.heap.size + 1) _ rfl rfl 29 _ (M1.out _) sizeOp4 rfl (by simp [Value.oneCell']) ?_)
        refine bodyPost_ret (v := .agg _) (results_cell_row Try.results10 _ _ (w.heap.size + 1) 29 _ (0, 0) _ rfl (setRow_heap _ _ _ _ _ _ (M1.out _)) Try.underlying29 rfl sizeOp4) rfl ?_
        have hnn := HN.out
        have hDl : (D.take M.length).length = M.length := by rw [List.length_take, HG.out.l]; omega
        exact ⟨⟨kd, some ⟨gA, 0, none⟩, A.length + 64, A, some ⟨gB, 0, none⟩, B.length + 64, B, q, s, some ⟨wc.heap.size, 0, none⟩, M.length + 3, D.take M.length⟩, by dsimp only [Ov.cs]; rw [hDl, hnn], Wl.done (kd := kd) (aA := aA) (cA := cA) (aB := aB) (cB := cB) (R := ⟨aL, cL, lo, aH, cH, hi, op⟩) (S := ⟨bL, dL, ko, bH, dH, ki, oq⟩) (aM := aM) (cM := cM) HG.out HN.out HT.out HQ.out HSS.out _ _⟩
theorem gspared_any (w : World) (o : Ov) (h : Oi w o) (hb0 : Ob o) : Calls Try.prog 10 #[.agg o.cs] w fun e w' => ∃ p : Ov, e = .returned (.agg p.cs) ∧ Sp w w' o p := by
  obtain ⟨kd, aA, cA, A, aB, cB, B, ⟨aL, cL, lo, aH, cH, hi, op⟩, ⟨bL, dL, ko, bH, dH, ki, oq⟩, aM, cM, M⟩ := o
  exact gspared_lit w kd aA cA A aB cB B aL cL lo aH cH hi op bL dL ko bH dH ki oq aM cM M h hb0
end Go.Proofs.Ytbobnfjbbablkaa
