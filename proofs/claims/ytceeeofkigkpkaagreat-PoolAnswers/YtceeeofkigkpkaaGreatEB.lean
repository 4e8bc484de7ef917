import Derived.Test.YtceeeofkigkpkaaGreatEA
namespace Go.Proofs.YtceeeofkigkpkaaGreat
set_option linter.unusedVariables false
open Go.RowKit Go.Shelf
attribute [local go_sem] Oper.semAt_some

/-! ### ranging over a function whose rounds own memory: F are the blocks that the rounds may change -/
def AbidF {β : Type} (n : Nat) (J : (Nat → Prop) → β → World → Prop) : Prop := ∀ F s A B, J F s A → But (fun k => ¬ F k ∧ n ≤ k) A B → J F s B
def SizF {β : Type} (J : (Nat → Prop) → β → World → Prop) : Prop := ∀ F s A, J F s A → ∀ k, F k → k < A.heap.size
def YesF {α : Type} (F : Nat → Prop) (J Jx : (Nat → Prop) → List α → World → Prop) (pre : List α) (W : World) (e : Ending) (W' : World) : Prop :=
  ∃ F' : Nat → Prop, But F W W' ∧ (∀ k, F' k → F k ∨ W.heap.size ≤ k) ∧ ((e = .returned (.bool true) ∧ J F' pre W') ∨ (e = .returned (.bool false) ∧ Jx F' pre W'))
def SeqF {α : Type} (P : Program) (g : Nat) (lb : Array Value) (encs : α → Array Value) (xs : List α) (w : World) (X : Nat → Prop) : Prop :=
  ∀ (l : Nat) (J Jx : (Nat → Prop) → List α → World → Prop) (W : World) (F0 : Nat → Prop), But (fun k => ¬ X k) w W → (∀ k, F0 k → ¬ X k) → AbidF W.heap.size J → SizF J →
    (∀ F pre x rest W1, xs = pre ++ x :: rest → J F pre W1 → W.heap.size ≤ W1.heap.size → (∀ k, F k → F0 k ∨ W.heap.size ≤ k) → YieldAt Fence.wide 0 P l (encs x) W1 (YesF F J Jx (pre ++ [x]) W1)) →
    J F0 [] W → CallsIn Fence.wide 0 P g (#[.func (.yield l) #[] #[]] ++ lb) W fun e W' => ∃ F' : Nat → Prop, (∃ v, e = .returned v) ∧ But F0 W W' ∧ (∀ k, F' k → F0 k ∨ W.heap.size ≤ k) ∧ (J F' xs W' ∨ ∃ pre rest, xs = pre ++ rest ∧ Jx F' pre W')
def roundEndF {α : Type} (F : Nat → Prop) (I : (Nat → Prop) → List α → World → Prop) (Ix : Code → (Nat → Prop) → List α → World → Prop) (pre : List α) (W : World) : Exit → Act → World → Prop
  | .normal, _, W' => ∃ F' : Nat → Prop, But F W W' ∧ (∀ k, F' k → F k ∨ W.heap.size ≤ k) ∧ I F' pre W'
  | .ret, _, W' => ∃ F' : Nat → Prop, But F W W' ∧ (∀ k, F' k → F k ∨ W.heap.size ≤ k) ∧ Ix .ret F' pre W'
  | .exit id, _, W' => ∃ F' : Nat → Prop, But F W W' ∧ (∀ k, F' k → F k ∨ W.heap.size ≤ k) ∧ Ix (.exit id) F' pre W'
  | .goto t, _, W' => ∃ F' : Nat → Prop, But F W W' ∧ (∀ k, F' k → F k ∨ W.heap.size ≤ k) ∧ Ix (.goto t) F' pre W'
  | .panic _, _, _ => False
  | .outgrown, _, _ => False

set_option maxHeartbeats 2000000 in
theorem wp_rangeF {P : Program} {α : Type} {g : Operand} {ps : Array Tmp} {assign body : Code} {Q : Exit → Act → World → Prop} {a : Act} {w : World}
    {gf : Nat} {lb : Array Value} (hg : a.eval g = .func (.func gf) #[] lb) (eg : ∀ args w, (callFunc gf args).run P w = .ok (.enter gf args) w)
    {encs : α → Array Value} {xs : List α} {w0 : World} {X : Nat → Prop} (hseq : SeqF P gf lb encs xs w0 X) (h0X : But (fun k => ¬ X k) w0 w) (hXw : ∀ k, X k → k < w.heap.size) (hps : ∀ x, (encs x).size = ps.size)
    (F0 : Nat → Prop) (hF : ∀ k, F0 k → ¬ X k) (I : (Nat → Prop) → List α → World → Prop) (Ix : Code → (Nat → Prop) → List α → World → Prop) (hI : AbidF w.heap.size I) (sI : SizF I) (hIx : ∀ c, AbidF w.heap.size (Ix c)) (sIx : ∀ c, SizF (Ix c)) (h0 : I F0 [] w)
    (hround : ∀ (l : Nat) (F : Nat → Prop) (pre : List α) (x : α) (rest : List α) (W : World), xs = pre ++ x :: rest → I F pre W → w.heap.size ≤ W.heap.size → (∀ k, F k → F0 k ∨ w.heap.size ≤ k) → ¬ F l → w.heap.size ≤ l → l < W.heap.size → But F0 w W →
      assign.wpIn (Fence.wide.inRound l) 0 P (Exit.then (fun a₁ W₁ => Below W.heap.size W W₁ ∧ ∀ W₂, But (fun k => k = l) W₁ W₂ → body.wpIn (Fence.wide.inRound l) 0 P (roundEndF F I Ix (pre ++ [x]) W₂) a₁ W₂) (fun _ _ _ => False))
        { tmps := (ps.zip (encs x)).foldl (fun t (p, v) => t.setIfInBounds p v) a.tmps, defers := [] } W)
    (hdone : ∀ (D : Nat) (F : Nat → Prop) (W : World), w.heap.size ≤ D → ¬ F D → I F xs W → But F0 w W → (∀ k, F k → F0 k ∨ w.heap.size ≤ k) → W.heap[D]? = some (.deferred (some [])) → Q .normal { a with defers := { target := .collected D, args := #[] } :: a.defers } W)
    (hstop : ∀ (D : Nat) (c : Code) (F : Nat → Prop) (pre rest : List α) (W : World), w.heap.size ≤ D → ¬ F D → xs = pre ++ rest → Ix c F pre W → But F0 w W → (∀ k, F k → F0 k ∨ w.heap.size ≤ k) → W.heap[D]? = some (.deferred (some [])) → c.wpIn Fence.wide 0 P Q { a with defers := { target := .collected D, args := #[] } :: a.defers } W) :
    (Code.rangeFunc g ps assign body).wpIn Fence.wide 0 P Q a w := by
  refine wpIn_rangeFunc fun fn hfn => ?_
  obtain ⟨rec, hrec⟩ : ∃ rec : LoopState → Option Code → Loop, rec = fun st pe => { state := st, pending := pe, fn, tmps := a.tmps, params := ps, assign, body, defers := w.heap.size } := ⟨_, rfl⟩
  have hen := run_enterLoop_outer (P := P) (w := w) fn a.tmps ps assign body
  obtain ⟨V, hV⟩ : ∃ V, (w.alloc (.deferred (some []))).alloc (.loop (rec .ready none)) = V := ⟨_, rfl⟩
  have sV : V.heap.size = w.heap.size + 2 := by rw [← hV, size_alloc, size_alloc]
  have rV : V.heap[w.heap.size + 1]? = some (.loop (rec .ready none)) := by
    rw [← hV]; have := World.alloc_heap_new (w.alloc (.deferred (some []))) (.loop (rec .ready none)); rwa [World.size_alloc] at this
  have dV : V.heap[w.heap.size]? = some (.deferred (some [])) := by
    rw [← hV]; exact (Below.heap_alloc _ _ _ (by simp)).trans (World.alloc_heap_new w _)
  have bV : Below w.heap.size w V := by rw [← hV]; exact bt ((Below.refl _ _).alloc (Nat.le_refl _) _) ((Below.refl _ _).alloc (Nat.le_refl _) _)
  have f0 : ∀ k, F0 k → k < w.heap.size := sI _ _ _ h0
  have IV : I F0 [] V := hI _ _ _ _ h0 (But.ofBelow bV)
  obtain ⟨N, hN⟩ : ∃ N : Nat, N = w.heap.size := ⟨_, rfl⟩
  refine ⟨w.heap.size + 1, [{ target := .collected w.heap.size, args := #[] }], V, { target := .fn (.func gf) lb, args := #[.func (.yield (w.heap.size + 1)) #[] #[]] }, V, gf, #[.func (.yield (w.heap.size + 1)) #[] #[]] ++ lb, V, ?_, ?_, ?_, ?_, ?_, ?_⟩
  · rw [← hV, hrec]; exact hen
  · simp only [resolve, hg]
    simp [go_sem]
  · intro f' _; trivial
  · simp [invoke, go_sem, eg]
  · intro h; cases h
  rw [← hN] at sV rV dV f0 hI hIx hround hdone hstop hrec ⊢
  have step := hseq (N + 1)
    (fun F pre W => ∃ Fb : Nat → Prop, (∀ k, F k ↔ (Fb k ∨ k = N ∨ k = N + 1)) ∧ (∀ k, Fb k → F0 k ∨ N + 2 ≤ k) ∧ I Fb pre W ∧ W.heap[N + 1]? = some (.loop (rec .ready none)) ∧ W.heap[N]? = some (.deferred (some [])) ∧ But F0 w W)
    (fun F pre W => ∃ c, ∃ Fb : Nat → Prop, (∀ k, F k ↔ (Fb k ∨ k = N ∨ k = N + 1)) ∧ (∀ k, Fb k → F0 k ∨ N + 2 ≤ k) ∧ Ix c Fb pre W ∧ W.heap[N + 1]? = some (.loop (rec .done (some c))) ∧ W.heap[N]? = some (.deferred (some [])) ∧ But F0 w W)
    V (fun k => F0 k ∨ k = N ∨ k = N + 1) (h0X.andBelow bV)
    (fun k hk => by
      rcases hk with hk | rfl | rfl
      · exact hF k hk
      · exact fun hx => by have := hXw _ hx; omega
      · exact fun hx => by have := hXw _ hx; omega)
    (fun F s A B hs hb => by
      obtain ⟨Fb, h1, h2, h3, h4, h5, h6⟩ := hs
      exact ⟨Fb, h1, h2, hI _ _ _ _ h3 (hb.mono fun k _ hk => ⟨fun hf => hk.1 ((h1 k).2 (.inl hf)), by have := hk.2; omega⟩), hb.same h4 (fun h => h.1 ((h1 _).2 (.inr (.inr rfl)))), hb.same h5 (fun h => h.1 ((h1 _).2 (.inr (.inl rfl)))), h6.trans hb (fun k hk h => by have := h.2; omega)⟩)
    (fun F s A hs k hk => by
      obtain ⟨Fb, h1, h2, h3, h4, h5, h6⟩ := hs
      rcases (h1 k).1 hk with h | rfl | rfl
      · exact sI _ _ _ h3 k h
      · exact (Array.getElem?_eq_some_iff.1 h5).1
      · exact (Array.getElem?_eq_some_iff.1 h4).1)
    ?_ ⟨F0, fun k => Iff.rfl, fun k hk => .inl hk, IV, rV, dV, But.ofBelow bV⟩
  · refine CallsIn.mono step ?_
    rintro e W ⟨F', ⟨v, rfl⟩, hB, hF', ⟨Fb, hFb, hsub, hi, hl, hd, hBw⟩ | ⟨pre, rest, hx, c, Fb, hFb, hsub, hi, hl, hd, hBw⟩⟩
    · have hput : ∀ (G : Nat → Prop) o, ¬ G (N + 1) → But (fun k => ¬ G k ∧ N ≤ k) W (W.putObj (N + 1) o) := fun G o hG => (But.refl _ W).putObj (l := N + 1) (fun _ => ⟨hG, by omega⟩) o
      have n1 : ¬ Fb (N + 1) := fun h => (hsub _ h).elim (fun h => by have := f0 _ h; omega) (fun h => by omega)
      have n0 : ¬ Fb N := fun h => (hsub _ h).elim (fun h => by have := f0 _ h; omega) (fun h => by omega)
      have hen2 := run_endLoop (P := P) hl (by rw [hrec]; simp)
      rw [show (rec .ready none).pending = none by rw [hrec]] at hen2
      refine ⟨none, _, hen2, ?_⟩
      have := hBw.size
      refine hdone N Fb _ (Nat.le_refl _) n0 (hI _ _ _ _ hi (hput Fb _ n1)) (hBw.putObj (fun h => by omega) _) (fun k hk => (hsub k hk).imp id (fun h => by omega)) ?_
      exact (World.putObj_heap_other (by omega)).trans hd
    · have hput : ∀ (G : Nat → Prop) o, ¬ G (N + 1) → But (fun k => ¬ G k ∧ N ≤ k) W (W.putObj (N + 1) o) := fun G o hG => (But.refl _ W).putObj (l := N + 1) (fun _ => ⟨hG, by omega⟩) o
      have n1 : ¬ Fb (N + 1) := fun h => (hsub _ h).elim (fun h => by have := f0 _ h; omega) (fun h => by omega)
      have n0 : ¬ Fb N := fun h => (hsub _ h).elim (fun h => by have := f0 _ h; omega) (fun h => by omega)
      have hen2 := run_endLoop (P := P) hl (by rw [hrec]; simp)
      rw [show (rec .done (some c)).pending = some c by rw [hrec]] at hen2
      refine ⟨some c, _, hen2, ?_⟩
      have := hBw.size
      refine hstop N c Fb pre rest _ (Nat.le_refl _) n0 hx (hIx c _ _ _ _ hi (hput Fb _ n1)) (hBw.putObj (fun h => by omega) _) (fun k hk => (hsub k hk).imp id (fun h => by omega)) ?_
      exact (World.putObj_heap_other (by omega)).trans hd
  · rintro F pre x rest W hx ⟨Fb, hFb, hsub, hi, hl, hd, hBw⟩ hW hFs
    have n1 : ¬ Fb (N + 1) := fun h => (hsub _ h).elim (fun h => by have := f0 _ h; omega) (fun h => by omega)
    have n0 : ¬ Fb N := fun h => (hsub _ h).elim (fun h => by have := f0 _ h; omega) (fun h => by omega)
    have hy := run_yield (P := P) (args := encs x) hl (by rw [hrec]; exact hps x)
    rw [hrec] at hy
    refine ⟨fn, _, assign, body, hy, roundIn_of_wpIn hfn (wpIn_mono (hround (N + 1) Fb pre x rest W hx hi (by omega) (fun k hk => (hsub k hk).imp id (fun h => by omega)) n1 (by omega) (by omega) hBw) ?_)⟩
    rintro e a₁ W₁ hp
    cases e with
    | normal =>
      obtain ⟨hb1, hbody⟩ := hp
      have hl1 := (hb1.block (N + 1) (by omega)).trans hl
      have hd1 := (hb1.block N (by omega)).trans hd
      have hrb := run_beginRound (P := P) hl1 (by rw [hrec])
      refine ⟨_, hrb, ?_⟩
      obtain ⟨W2, hW2⟩ : ∃ W2, W₁.putObj (N + 1) (.loop { rec .ready none with state := .busy }) = W2 := ⟨_, rfl⟩
      have l1 := (Array.getElem?_eq_some_iff.1 hl1).1
      have b12 : But (fun k => k = N + 1) W₁ W2 := by rw [← hW2]; exact (But.refl (fun k => k = N + 1) _).putObj (fun _ => rfl) _
      have hl2 : W2.heap[N + 1]? = some (.loop { rec .ready none with state := .busy }) := by rw [← hW2]; exact World.putObj_heap_same l1
      have hd2 : W2.heap[N]? = some (.deferred (some [])) := b12.same hd1 (by omega)
      have s12 := b12.size
      have sb1 := hb1.size
      rw [hW2]
      refine wpIn_mono (hbody W2 b12) ?_
      have fin : ∀ (jump : Option Code) (W3 : World) (G : Nat → Prop), But Fb W2 W3 → (∀ k, G k → Fb k ∨ W2.heap.size ≤ k) →
          ∃ W4, (Instr.endRound (N + 1) jump).run P W3 = .ok (.bool jump.isNone) W4 ∧ But (fun k => ¬ G k ∧ N ≤ k) W3 W4 ∧ But F W W4 ∧ But F0 w W4 ∧
          W4.heap[N + 1]? = some (.loop (rec (if jump.isNone then .ready else .done) jump)) ∧ W4.heap[N]? = some (.deferred (some [])) ∧
          (∀ k, (G k ∨ k = N ∨ k = N + 1) → F k ∨ W.heap.size ≤ k) ∧ (∀ k, G k → F0 k ∨ N + 2 ≤ k) := fun jump W3 G h23 hG => by
        have hl3 := h23.same hl2 n1
        have l3 := (Array.getElem?_eq_some_iff.1 hl3).1
        have hr := run_endRound (P := P) jump hl3
        have e1 : ({ ({ rec .ready none with state := .busy } : Loop) with state := if jump.isNone then .ready else .done, pending := jump } : Loop) = rec (if jump.isNone then .ready else .done) jump := by rw [hrec]
        rw [e1] at hr
        have g1 : ¬ G (N + 1) := fun h => (hG _ h).elim n1 (fun h => by omega)
        have bF : But F W W3 := ((But.ofBelow (S := F) hb1).trans b12 (fun x _ h => (hFb x).2 (.inr (.inr h)))).trans h23 (fun x _ h => (hFb x).2 (.inl h))
        refine ⟨_, hr, (But.refl _ _).putObj (fun _ => ⟨g1, by omega⟩) _, bF.putObj (fun _ => (hFb _).2 (.inr (.inr rfl))) _, ?_, World.putObj_heap_same l3, (World.putObj_heap_other (by omega)).trans (h23.same hd2 n0), ?_, ?_⟩
        · exact (hBw.trans (bF.putObj (fun _ => (hFb _).2 (.inr (.inr rfl))) _) (fun k hk h => by
            rcases (hFb k).1 h with h | rfl | rfl
            · exact (hsub k h).elim id (fun h => by omega)
            · omega
            · omega))
        · rintro k (h | rfl | rfl)
          · exact (hG k h).elim (fun h => .inl ((hFb k).2 (.inl h))) (fun h => .inr (by omega))
          · exact .inl ((hFb _).2 (.inr (.inl rfl)))
          · exact .inl ((hFb _).2 (.inr (.inr rfl)))
        · intro k h
          exact (hG k h).elim (hsub k) (fun h => .inr (by omega))
      rintro e a3 W3 hp
      cases e with
      | normal =>
        obtain ⟨G, hk3, hG, hi3⟩ := hp
        obtain ⟨W4, hr, h34, hF4, h4, hl4, hd4, s4, s5⟩ := fin none W3 G hk3 hG
        exact ⟨_, _, hr, fun k => G k ∨ k = N ∨ k = N + 1, hF4, s4, .inl ⟨rfl, G, fun k => Iff.rfl, s5, hI _ _ _ _ hi3 h34, hl4, hd4, h4⟩⟩
      | ret =>
        obtain ⟨G, hk3, hG, hi3⟩ := hp
        obtain ⟨W4, hr, h34, hF4, h4, hl4, hd4, s4, s5⟩ := fin (some .ret) W3 G hk3 hG
        exact ⟨_, _, hr, fun k => G k ∨ k = N ∨ k = N + 1, hF4, s4, .inr ⟨rfl, .ret, G, fun k => Iff.rfl, s5, hIx _ _ _ _ _ hi3 h34, hl4, hd4, h4⟩⟩
      | exit id =>
        obtain ⟨G, hk3, hG, hi3⟩ := hp
        obtain ⟨W4, hr, h34, hF4, h4, hl4, hd4, s4, s5⟩ := fin (some (.exit id)) W3 G hk3 hG
        exact ⟨_, _, hr, fun k => G k ∨ k = N ∨ k = N + 1, hF4, s4, .inr ⟨rfl, .exit id, G, fun k => Iff.rfl, s5, hIx _ _ _ _ _ hi3 h34, hl4, hd4, h4⟩⟩
      | goto t =>
        obtain ⟨G, hk3, hG, hi3⟩ := hp
        obtain ⟨W4, hr, h34, hF4, h4, hl4, hd4, s4, s5⟩ := fin (some (.goto t)) W3 G hk3 hG
        exact ⟨_, _, hr, fun k => G k ∨ k = N ∨ k = N + 1, hF4, s4, .inr ⟨rfl, .goto t, G, fun k => Iff.rfl, s5, hIx _ _ _ _ _ hi3 h34, hl4, hd4, h4⟩⟩
      | panic ch => exact hp.elim
      | outgrown => exact hp.elim
    | ret => exact hp.elim
    | exit id => exact hp.elim
    | goto t => exact hp.elim
    | panic ch => exact hp.elim
    | outgrown => exact hp.elim

/-! ### the walk over a set's numbers -/
def low : List Rn → Int
  | [] => 0
  | r :: _ => r.1
def enI (x : Int) : Array Value := #[.int .i64 x]
theorem cnt_pos {r : Rn} (h : r.1 ≤ r.2) : 0 < cnt r := by unfold cnt; omega
set_option maxHeartbeats 2000000 in
set_option maxRecDepth 10000 in
theorem eachOfF (l n : Nat) (F0 : Nat → Prop) (J Jx : (Nat → Prop) → List Int → World → Prop) (V : World) (pre : List Int) (r : Rn) (hr : r.1 ≤ r.2) (h1 : Nm r.1) (h2 : Nm r.2) (aJ : AbidF n J) (sJ : SizF J)
    (hY : ∀ (F : Nat → Prop) (j : Nat) (W1 : World), j < cnt r → J F (pre ++ rnum r.1 j) W1 → V.heap.size ≤ W1.heap.size → (∀ k, F k → F0 k ∨ V.heap.size ≤ k) → YieldAt Fence.wide 0 Tryz.prog l (enI (r.1 + j)) W1 (YesF F J Jx (pre ++ rnum r.1 (j + 1)) W1))
    (h0 : J F0 pre V) :
    CallsIn Fence.wide 0 Tryz.prog 76 #[.agg (rcs r), .func (.yield l) #[] #[]] V fun e V' => ∃ F' : Nat → Prop, But F0 V V' ∧ (∀ k, F' k → F0 k ∨ V.heap.size ≤ k) ∧ ((e = .returned (.bool true) ∧ J F' (pre ++ rnum r.1 (cnt r)) V') ∨ (e = .returned (.bool false) ∧ ∃ j, j ≤ cnt r ∧ Jx F' (pre ++ rnum r.1 j) V')) := by
  have Y := hide hY
  clear hY
  have f0 := hide (sJ _ _ _ h0)
  obtain ⟨x0, y0⟩ := r
  simp only at hr h1 h2 Y
  have hc0 : ((cnt (x0, y0) : Nat) : Int) = y0 - x0 + 1 := by show (((y0 - x0 + 1).toNat : Nat) : Int) = _; omega
  obtain ⟨c, hc⟩ : ∃ c : Nat, c = cnt (x0, y0) := ⟨_, rfl⟩
  rw [← hc] at hc0 Y ⊢
  have HC := hide hc0
  obtain ⟨h11, h12⟩ := h1
  obtain ⟨h21, h22⟩ := h2
  clear hc
  unfold rcs
  refine callsIn_of_wp Tryz.func76 rfl trivial ?_ rfl
  simp only [Tryz.ntmps76, List.size_toArray, List.length_cons, List.length_nil, Nat.reduceAdd, Nat.reduceSub, Array.replicate_succ, Array.replicate_zero, List.push_toArray, List.append_toArray, List.nil_append, List.cons_append]
  gi_wp2
  have aV := al V (.cells #[.int .i64 x0, .int .i64 y0] 92)
  have sV := size_alloc V (.cells #[.int .i64 x0, .int .i64 y0] 92)
  have yV : (V.alloc (.cells #[.int .i64 x0, .int .i64 y0] 92)).cell? ⟨V.heap.size, 1, none⟩ = some (.int .i64 y0) := by
    rw [cell_of_row _ _ _ _ _ _ (World.alloc_heap_new V _)]
    rfl
  have J1 := hide (aJ _ _ _ _ h0 (But.ofBelow aV))
  have AV := hide (show But F0 V (V.alloc (.cells #[.int .i64 x0, .int .i64 y0] 92)) from But.ofBelow aV)
  generalize hV1 : V.alloc (.cells #[.int .i64 x0, .int .i64 y0] 92) = V1 at *
  clear aV hV1 hc0
  gi_loopw [5] (fun i wr => ∃ j : Nat, ∃ F : Nat → Prop, j < c ∧ i = .int .i64 (x0 + j) ∧ J F (pre ++ rnum x0 j) wr ∧ But F0 V1 wr ∧ (∀ k, F k → F0 k ∨ V1.heap.size ≤ k)) (fun i _ => c - (intOf i - x0).toNat)
  case atStart => exact ⟨0, F0, by have := HC.out; omega, by simp, by simpa [rnum] using J1.out, But.refl _ _, fun k hk => .inl hk⟩
  case round =>
    obtain ⟨j, F, hj, rfl, hJ, hB, hFs⟩ := hrel
    have hs2 := hB.size
    obtain ⟨fn, tmps, assign, body, hy, hR⟩ := Y.out F j wr hj hJ (by omega) (fun k hk => (hFs k hk).imp id (fun h => by omega))
    simp only [enI] at hy
    have HBB := hide hB
    have HFs := hide hFs
    clear hJ hB hFs
    gi_wp2
    refine ⟨rfl, hR.mono ?_⟩
    rintro e W3 ⟨G, h3, hG, ⟨rfl, hJ3⟩ | ⟨rfl, hJ3⟩⟩
    · have hB3 : But F0 V1 W3 := HBB.out.trans h3 (fun k hk h => (HFs.out k h).elim id (fun h => by omega))
      have G3 := hide (show ∀ k, G k → F0 k ∨ V1.heap.size ≤ k from fun k hk => (hG k hk).elim (HFs.out k) (fun h => .inr (by omega)))
      have y3 : W3.cell? ⟨V.heap.size, 1, none⟩ = some (.int .i64 y0) := (hB3.cell (p := ⟨V.heap.size, 1, none⟩) (by show V.heap.size < V1.heap.size; omega) (fun h => by have := f0.out _ h; have e : ({ block := V.heap.size, off := 1, spot := none } : Addr).block = V.heap.size := rfl; omega)).trans yV
      have B3 := hide hB3
      have J3 := hide hJ3
      clear hB3 hJ3 h3 hR hy hG
      by_cases hend : x0 + (j : Int) = y0
      · have e1 : (x0 + (j : Int) == y0) = true := by simp [hend]
        have e2 : decide (x0 + (j : Int) = y0) = true := by simp [hend]
        have hj1 := hide (show j + 1 = c by have := HC.out; omega)
        clear hend
        gi_wp2
        refine bodyPost_ret (results_tmp rfl _ _ _) rfl ?_
        exact ⟨G, AV.out.trans B3.out (fun _ _ h => h), fun k hk => (G3.out k hk).imp id (fun h => by omega), .inl ⟨rfl, by rw [← hj1.out]; exact J3.out⟩⟩
      · have e1 : (x0 + (j : Int) == y0) = false := by simp [hend]
        have e2 : decide (x0 + (j : Int) = y0) = false := by simp [hend]
        have hj1 := hide (show j + 1 < c by have := HC.out; omega)
        have hw : IntKind.i64.wrap (x0 + (j : Int) + 1) = x0 + (j : Int) + 1 := wrapK (by omega) (by have := HC.out; omega)
        gi_wp2
        go_roundw
        case rel => exact ⟨j + 1, G, hj1.out, by simp; omega, J3.out, B3.out, G3.out⟩
        case measure => simp [intOf]; omega
    · have B3 := hide (show But F0 V1 W3 from HBB.out.trans h3 (fun k hk h => (HFs.out k h).elim id (fun h => by omega)))
      have G3 := hide (show ∀ k, G k → F0 k ∨ V1.heap.size ≤ k from fun k hk => (hG k hk).elim (HFs.out k) (fun h => .inr (by omega)))
      have J3 := hide hJ3
      clear hJ3 h3 hR hy hG
      gi_wp2
      refine bodyPost_ret (results_tmp rfl _ _ _) rfl ?_
      exact ⟨G, AV.out.trans B3.out (fun _ _ h => h), fun k hk => (G3.out k hk).imp id (fun h => by omega), .inr ⟨rfl, j + 1, by omega, J3.out⟩⟩
theorem nums_split {L : List Rn} {k : Nat} (hk : k < L.length) (j : Nat) (hj : j ≤ cnt (L.getD k Rn.zero)) : ∃ rest, nums L = (nums (L.take k) ++ rnum (L.getD k Rn.zero).1 j) ++ rest := by
  have e := take_split L Rn.zero hk
  have h1 := nums_snoc hk
  refine ⟨(rnum (L.getD k Rn.zero).1 (cnt (L.getD k Rn.zero))).drop j ++ nums (L.drop (k + 1)), ?_⟩
  have h2 : nums L = nums (L.take (k + 1)) ++ nums (L.drop (k + 1)) := by
    conv => lhs; rw [← List.take_append_drop (k + 1) L]
    unfold nums
    rw [List.map_append, List.flatten_append]
  rw [h2, h1, ← rnum_take _ _ _ hj]
  rw [List.append_assoc, List.append_assoc, ← List.append_assoc (List.take j _), List.take_append_drop]
theorem rnum_split (x : Int) {c j : Nat} (h : j < c) : ∃ rest, rnum x c = rnum x j ++ (x + j) :: rest := by
  refine ⟨(rnum x c).drop (j + 1), ?_⟩
  have e := (List.take_append_drop (j + 1) (rnum x c)).symm
  rw [rnum_take x c (j + 1) h, rnum_succ] at e
  exact e.trans (by rw [List.append_assoc]; rfl)
set_option maxHeartbeats 4000000 in
set_option maxRecDepth 10000 in
theorem all_seqF (w : World) (E : Nat) (a : Option Addr) (cap : Nat) (L : List Rn) (hc : w.cell? ⟨E, 0, none⟩ = some (.slice a L.length cap)) (hV : Vs w a L) (hlen : L.length ≤ 11000000000000) (hL : ∀ r ∈ L, r.1 ≤ r.2 ∧ Nm r.1 ∧ Nm r.2) :
    SeqF Tryz.prog 75 #[.pointer (some ⟨E, 0, none⟩)] enI (nums L) w (fun k => k = E ∨ ∃ x, a = some x ∧ x.block = k) := by
  intro l J Jx W F0 hW hS aJ sJ hY h0
  have hcW : W.cell? ⟨E, 0, none⟩ = some (.slice a L.length cap) := (hW.cell (p := ⟨E, 0, none⟩) (block_lt_of_cell hc) (fun h => h (.inl rfl))).trans hc
  have hVW : Vs W a L := hV.but hW (fun x hx h => h (.inr ⟨x, hx, rfl⟩))
  clear hc hV
  have Y := hide hY
  have HL := hide hL
  have AJ := hide aJ
  have SJ := hide sJ
  clear hY hL
  obtain ⟨n, hn⟩ : ∃ n : Nat, n = L.length := ⟨_, rfl⟩
  have hn' := hide hn
  rw [← hn] at hcW hlen
  clear hn
  refine callsIn_of_wp Tryz.func75 rfl trivial ?_ rfl
  simp only [Tryz.ntmps75, List.size_toArray, List.length_cons, List.length_nil, Nat.reduceAdd, Nat.reduceSub, Array.replicate_succ, Array.replicate_zero, List.push_toArray, List.append_toArray, List.nil_append, List.cons_append]
  gi_wp2
  gi_loopw [7] (fun i wr => ∃ k : Nat, ∃ F : Nat → Prop, k ≤ n ∧ i = .int .i64 k ∧ J F (nums (L.take k)) wr ∧ But F0 W wr ∧ (∀ q, F q → F0 q ∨ W.heap.size ≤ q))
    (fun i _ => n - (intOf i).toNat)
  case atStart => exact ⟨0, F0, Nat.zero_le _, rfl, h0, But.refl _ _, fun q hq => .inl hq⟩
  case round =>
    obtain ⟨k, F, hk, rfl, hJ, hB, hFs⟩ := hrel
    by_cases hlt : k < n
    · have hkL : k < L.length := by rw [← hn'.out]; exact hlt
      have hVr : Vs wr a L := hVW.but hB (fun x hx h => hS _ h (.inr ⟨x, hx, rfl⟩))
      obtain ⟨bb, o, rfl, d1, d2⟩ := hVr.at hkL
      have NS := hide (nums_snoc hkL)
      have SP := hide fun (j : Nat) (hj : j ≤ cnt (L.getD k Rn.zero)) => nums_split hkL j hj
      obtain ⟨r1, r2, r3⟩ := HL.out _ (getD_mem hkL)
      generalize hr : L.getD k Rn.zero = r at *
      have hsz := hB.size
      have aw := al wr (.cells #[.int .i64 r.1, .int .i64 r.2] 92)
      have sw := size_alloc wr (.cells #[.int .i64 r.1, .int .i64 r.2] 92)
      have HFs := hide hFs
      have C := hide (eachOfF l W.heap.size F J Jx (wr.alloc (.cells #[.int .i64 r.1, .int .i64 r.2] 92)) (nums (L.take k)) r r1 r2 r3 AJ.out SJ.out (fun G j W1 hj hJ1 hs1 hG => by
        obtain ⟨rest, hrest⟩ := rnum_split r.1 hj
        obtain ⟨rest2, hr2⟩ := SP.out (cnt r) (Nat.le_refl _)
        have e : nums L = (nums (L.take k) ++ rnum r.1 j) ++ (r.1 + j) :: (rest ++ rest2) := by
          rw [hr2, hrest]
          simp
        have y := Y.out G (nums (L.take k) ++ rnum r.1 j) (r.1 + j) (rest ++ rest2) W1 e hJ1 (by omega) (fun q hq => (hG q hq).elim (HFs.out q) (fun h => .inr (by omega)))
        rw [List.append_assoc, ← rnum_succ] at y
        exact y) (AJ.out _ _ _ _ hJ (But.ofBelow aw)))
      have BA := hide (show But F0 W (wr.alloc (.cells #[.int .i64 r.1, .int .i64 r.2] 92)) from hB.andBelow aw)
      unfold rcs at C
      clear hJ hVr aw hr r2 r3 hFs
      gi_wp2_with fail
      refine ⟨trivial, rfl, ?_⟩
      refine C.out.mono ?_
      rintro e W3 ⟨G, h3, hG, ⟨rfl, hJ3⟩ | ⟨rfl, j, hj, hJ3⟩⟩
      · have J3 := hide hJ3
        have B3 := hide (BA.out.trans h3 (fun q hq h => (HFs.out q h).elim id (fun h => by omega)))
        have G3 := hide (show ∀ q, G q → F0 q ∨ W.heap.size ≤ q from fun q hq => (hG q hq).elim (HFs.out q) (fun h => .inr (by omega)))
        clear hJ3 h3 hG
        gi_wp2
        go_roundw
        case rel => exact ⟨k + 1, G, by omega, by simp, by rw [NS.out]; exact J3.out, B3.out, G3.out⟩
        case measure => simp [intOf]; omega
      · have J3 := hide hJ3
        have B3 := hide (BA.out.trans h3 (fun q hq h => (HFs.out q h).elim id (fun h => by omega)))
        have G3 := hide (show ∀ q, G q → F0 q ∨ W.heap.size ≤ q from fun q hq => (hG q hq).elim (HFs.out q) (fun h => .inr (by omega)))
        have Q3 := hide (SP.out j hj)
        clear hJ3 h3 hG
        gi_wp2
        refine bodyPost_ret (results_none rfl _ _ _) rfl ?_
        obtain ⟨rest, hrest⟩ := Q3.out
        exact ⟨G, ⟨_, rfl⟩, B3.out, G3.out, .inr ⟨_, rest, hrest, J3.out⟩⟩
    · obtain rfl : k = n := by omega
      have HJ := hide hJ
      have HFs := hide hFs
      clear hJ hFs
      gi_wp2
      go_end0
      exact ⟨F, ⟨_, rfl⟩, hB, HFs.out, .inl (by have t := HJ.out; rw [hn'.out, List.take_length] at t; exact t)⟩
set_option maxHeartbeats 1000000 in
theorem All_any (w : World) (b : Nat) (a : Option Addr) (cap : Nat) (L : List Rn) (hS : St w b a cap L) :
    Calls Tryz.prog 64 #[.pointer (some ⟨b, 0, none⟩)] w fun e w' => ∃ E g, e = .returned (.func (.func 75) #[] #[.pointer (some ⟨E, 0, none⟩)]) ∧ w.heap.size ≤ E ∧ w.heap.size ≤ g ∧ w'.cell? ⟨E, 0, none⟩ = some (.slice (some ⟨g, 0, none⟩) L.length L.length) ∧ Vs w' (some ⟨g, 0, none⟩) L ∧ g < w'.heap.size ∧ Below w.heap.size w w' := by
  have C := hide (Runs_any w b a cap L hS)
  clear hS
  obtain ⟨n, hn⟩ : ∃ n : Nat, n = L.length := ⟨_, rfl⟩
  rw [← hn] at C ⊢
  clear hn
  go_enter Tryz.func64, Tryz.ntmps64
  go_wp2_with fail
  refine C.out.mono ?_
  rintro e w1 ⟨rfl, hV, hb⟩
  have V := hide hV.vs
  have GL := hide (hV.lt rfl)
  have B := hide hb
  clear hV hb
  go_wp2
  go_ret
  have aw := al w1 (.cells #[.slice (some ⟨w.heap.size, 0, none⟩) n n] 88)
  exact ⟨_, _, rfl, B.out.size, Nat.le_refl _, cell_alloc_new w1 _ _, V.out.keep aw, Nat.lt_of_lt_of_le GL.out aw.size, bt B.out aw⟩
set_option maxHeartbeats 1000000 in
theorem Lowest_any (w : World) (b : Nat) (a : Option Addr) (cap : Nat) (L : List Rn) (hS : St w b a cap L) :
    Calls Tryz.prog 47 #[.pointer (some ⟨b, 0, none⟩)] w fun e w' => e = .returned (.tuple #[.int .i64 (low L), .bool (!L.isEmpty)]) ∧ w' = w := by
  have hc := hS.cell
  cases L with
  | nil =>
    rw [List.length_nil] at hc
    clear hS
    go_enter Tryz.func47, Tryz.ntmps47
    go_wp2
    go_ret2
    exact ⟨rfl, rfl⟩
  | cons r L =>
    obtain ⟨b1, o1, rfl, d1, d2⟩ := hS.row.vs.at (i := 0) (by simp)
    rw [Nat.zero_mul, Nat.add_zero] at d1
    change w.cell? ⟨b1, o1, none⟩ = some (.int .i64 r.1) at d1
    rw [List.length_cons] at hc
    obtain ⟨n, hn⟩ : ∃ n : Nat, n = L.length + 1 := ⟨_, rfl⟩
    have n0 : 0 < n := by omega
    have nl := hS.len
    rw [List.length_cons, ← hn] at nl
    rw [← hn] at hc
    clear hS hn d2
    show Calls Tryz.prog 47 #[.pointer (some ⟨b, 0, none⟩)] w fun e w' => e = .returned (.tuple #[.int .i64 r.1, .bool true]) ∧ w' = w
    go_enter Tryz.func47, Tryz.ntmps47
    go_wp2
    go_ret2
    exact ⟨rfl, rfl⟩
theorem nums_nm {L : List Rn} (h : ∀ r ∈ L, r.1 ≤ r.2 ∧ Nm r.1 ∧ Nm r.2) : ∀ x ∈ nums L, Nm x := by
  intro x hx
  unfold nums at hx
  obtain ⟨l, hl, h1⟩ := List.mem_flatten.1 hx
  obtain ⟨r, hr, rfl⟩ := List.mem_map.1 hl
  obtain ⟨i, hi, rfl⟩ := List.mem_map.1 h1
  have hi' := List.mem_range.1 hi
  obtain ⟨a1, a2, a3⟩ := h r hr
  unfold cnt at hi'
  unfold Nm at *
  omega
end Go.Proofs.YtceeeofkigkpkaaGreat
