import Derived.Test.YtceeeofkigkpkaaGreatWA
import Derived.RangeFuncNested
import Derived.RangeFuncBound
import Derived.RangeFuncCalls
import Derived.RangeFuncLeaves
import Derived.Shelf.Abstract
import Derived.Shelf.RegionOpen
import Derived.OwnWalkIn
import Derived.TacticsInMore
import Derived.LoopNIn
import Derived.LoopIn
namespace Go.Proofs.YtceeeofkigkpkaaGreat
open Go.RowKit Go.Shelf

/-! ### a range over a function, the memory told by blocks -/
theorem But.putObj {S : Nat → Prop} {a w : World} (h : But S a w) {l : Nat} (hl : l < a.heap.size → S l) (o : Obj) : But S a (w.putObj l o) :=
  h.trans (T := fun k => k = l) ⟨rfl, rfl, rfl, by simp, fun k _ hn => World.putObj_heap_other (fun e => hn e)⟩ (fun x hx e => by subst e; exact hl hx)
theorem But.same {S : Nat → Prop} {a w : World} (h : But S a w) {k : Nat} {o : Obj} (ho : a.heap[k]? = some o) (hn : ¬ S k) : w.heap[k]? = some o :=
  (h.block k (Array.getElem?_eq_some_iff.1 ho).1 hn).trans ho
/-- what is said of memory below n abides changes at n and above -/
def Abid {β : Type} (n : Nat) (J : β → World → Prop) : Prop := ∀ s A B, J s A → n ≤ A.heap.size → But (fun k => n ≤ k) A B → J s B
theorem Abid.and {β : Type} {n : Nat} {J K : β → World → Prop} (h : Abid n J) (k : Abid n K) : Abid n (fun s W => J s W ∧ K s W) := fun s A B hs hn hb => ⟨h s A B hs.1 hn hb, k s A B hs.2 hn hb⟩
theorem Abid.mono {β : Type} {n m : Nat} {J : β → World → Prop} (h : Abid n J) (hm : n ≤ m) : Abid m J := fun s A B hs hn hb => h s A B hs (by omega) (hb.mono fun x _ hx => by omega)
theorem abid_pure {β : Type} (n : Nat) (p : β → Prop) : Abid n (fun s (_ : World) => p s) := fun _ _ _ hs _ _ => hs
theorem abid_but {β : Type} {n : Nat} {S : Nat → Prop} {w : World} (hw : w.heap.size ≤ n) : Abid n (fun (_ : β) W => But S w W) := fun _ _ _ hs _ hb => hs.trans hb (fun x hx h => by omega)

/-- how a call of yield may end: on, or no more -/
def Yes {α : Type} (S : Nat → Prop) (J Jx : List α → World → Prop) (pre : List α) (W : World) (e : Ending) (W' : World) : Prop :=
  But S W W' ∧ ((e = .returned (.bool true) ∧ J pre W') ∨ (e = .returned (.bool false) ∧ Jx pre W'))
/-- an iterator that reads no block but those of X: it hands xs on, one behind the other, or a beginning of them -/
def Seqs {α : Type} (P : Program) (g : Nat) (lb : Array Value) (encs : α → Array Value) (xs : List α) (w : World) (X : Nat → Prop) : Prop :=
  ∀ (l : Nat) (S : Nat → Prop) (J Jx : List α → World → Prop) (W : World), But (fun k => ¬ X k) w W → (∀ k, S k → ¬ X k ∧ k < W.heap.size) → Abid W.heap.size J → Abid W.heap.size Jx →
    (∀ pre x rest W1, xs = pre ++ x :: rest → J pre W1 → W.heap.size ≤ W1.heap.size → YieldAt Fence.wide 0 P l (encs x) W1 (Yes S J Jx (pre ++ [x]) W1)) →
    J [] W → CallsIn Fence.wide 0 P g (#[.func (.yield l) #[] #[]] ++ lb) W fun e W' => (∃ v, e = .returned v) ∧ But S W W' ∧ (J xs W' ∨ ∃ pre rest, xs = pre ++ rest ∧ Jx pre W')

/-- how a round's body may be left -/
def roundEnd {α : Type} (S : Nat → Prop) (I : List α → World → Prop) (Ix : Code → List α → World → Prop) (pre : List α) (W : World) : Exit → Act → World → Prop
  | .normal, _, W' => But S W W' ∧ I pre W'
  | .ret, _, W' => But S W W' ∧ Ix .ret pre W'
  | .exit id, _, W' => But S W W' ∧ Ix (.exit id) pre W'
  | .goto t, _, W' => But S W W' ∧ Ix (.goto t) pre W'
  | .panic _, _, _ => False
  | .outgrown, _, _ => False

theorem wp_range {P : Program} {α : Type} {g : Operand} {ps : Array Tmp} {assign body : Code} {Q : Exit → Act → World → Prop} {a : Act} {w : World}
    {gf : Nat} {lb : Array Value} (hg : a.eval g = .func (.func gf) #[] lb) (eg : ∀ args w, (callFunc gf args).run P w = .ok (.enter gf args) w)
    {encs : α → Array Value} {xs : List α} {w0 : World} {X : Nat → Prop} (hseq : Seqs P gf lb encs xs w0 X) (h0X : But (fun k => ¬ X k) w0 w) (hXw : ∀ k, X k → k < w.heap.size ∧ k < w0.heap.size) (hps : ∀ x, (encs x).size = ps.size)
    (S : Nat → Prop) (hS : ∀ k, S k → ¬ X k ∧ k < w.heap.size) (I : List α → World → Prop) (Ix : Code → List α → World → Prop) (hI : Abid w.heap.size I) (hIx : ∀ c, Abid w.heap.size (Ix c)) (h0 : I [] w)
    (hround : ∀ (l : Nat) (pre : List α) (x : α) (rest : List α) (W : World), xs = pre ++ x :: rest → I pre W → w.heap.size ≤ l → l < W.heap.size →
      assign.wpIn (Fence.wide.inRound l) 0 P (Exit.then (fun a₁ W₁ => Below W.heap.size W W₁ ∧ ∀ W₂, But (fun k => k = l) W₁ W₂ → body.wpIn (Fence.wide.inRound l) 0 P (roundEnd S I Ix (pre ++ [x]) W₂) a₁ W₂) (fun _ _ _ => False))
        { tmps := (ps.zip (encs x)).foldl (fun t (p, v) => t.setIfInBounds p v) a.tmps, defers := [] } W)
    (hdone : ∀ (D : Nat) (W : World), w.heap.size ≤ D → I xs W → But S w W → W.heap[D]? = some (.deferred (some [])) → Q .normal { a with defers := { target := .collected D, args := #[] } :: a.defers } W)
    (hstop : ∀ (D : Nat) (c : Code) (pre rest : List α) (W : World), w.heap.size ≤ D → xs = pre ++ rest → Ix c pre W → But S w W → W.heap[D]? = some (.deferred (some [])) → c.wpIn Fence.wide 0 P Q { a with defers := { target := .collected D, args := #[] } :: a.defers } W) :
    (Code.rangeFunc g ps assign body).wpIn Fence.wide 0 P Q a w := by
  refine wpIn_rangeFunc fun fn hfn => ?_
  obtain ⟨rec, hrec⟩ : ∃ rec : LoopState → Option Code → Loop, rec = fun st pe => { state := st, pending := pe, fn, tmps := a.tmps, params := ps, assign, body, defers := w.heap.size } := ⟨_, rfl⟩
  have hen := run_enterLoop_outer (P := P) (w := w) fn a.tmps ps assign body
  obtain ⟨V, hV⟩ : ∃ V, (w.alloc (.deferred (some []))).alloc (.loop (rec .ready none)) = V := ⟨_, rfl⟩
  have sV : V.heap.size = w.heap.size + 2 := by rw [← hV, size_alloc, size_alloc]
  have rV : V.heap[w.heap.size + 1]? = some (.loop (rec .ready none)) := by
    rw [← hV]; have := World.alloc_heap_new (w.alloc (.deferred (some []))) (.loop (rec .ready none)); rwa [World.size_alloc] at this
  have dV : V.heap[w.heap.size]? = some (.deferred (some [])) := by
    rw [← hV]; exact (Below.heap_alloc _ _ _ (by simp)).trans (World.alloc_heap_new w _)
  have bV : Below w.heap.size w V := by rw [← hV]; exact bt ((Below.refl _ _).alloc (Nat.le_refl _) _) ((Below.refl _ _).alloc (Nat.le_refl _) _)
  have IV : I [] V := hI _ _ _ h0 (Nat.le_refl _) (But.ofBelow bV)
  refine ⟨w.heap.size + 1, [{ target := .collected w.heap.size, args := #[] }], V, { target := .fn (.func gf) lb, args := #[.func (.yield (w.heap.size + 1)) #[] #[]] }, V, gf, #[.func (.yield (w.heap.size + 1)) #[] #[]] ++ lb, V, ?_, ?_, ?_, ?_, ?_, ?_⟩
  · rw [← hV, hrec]; exact hen
  · simp only [resolve, hg]
    simp [go_sem]
  · intro f' _; trivial
  · simp [invoke, go_sem, eg]
  · intro h; cases h
  have step := hseq (w.heap.size + 1) (fun k => S k ∨ k = w.heap.size + 1)
    (fun pre W => I pre W ∧ W.heap[w.heap.size + 1]? = some (.loop (rec .ready none)) ∧ W.heap[w.heap.size]? = some (.deferred (some [])))
    (fun pre W => ∃ c, Ix c pre W ∧ W.heap[w.heap.size + 1]? = some (.loop (rec .done (some c))) ∧ W.heap[w.heap.size]? = some (.deferred (some [])))
    V (h0X.andBelow bV)
    (fun k hk => by
      rcases hk with hk | rfl
      · exact ⟨(hS k hk).1, by have := (hS k hk).2; omega⟩
      · exact ⟨fun hx => by have := (hXw _ hx).1; omega, by omega⟩)
    (fun s A B hs hn hb => ⟨hI s A B hs.1 (by omega) (hb.mono fun x _ hx => by omega), hb.same hs.2.1 (by omega), hb.same hs.2.2 (by omega)⟩)
    (fun s A B hs hn hb => by
      obtain ⟨c, hc, h1, h2⟩ := hs
      exact ⟨c, hIx c s A B hc (by omega) (hb.mono fun x _ hx => by omega), hb.same h1 (by omega), hb.same h2 (by omega)⟩)
    ?_ ⟨IV, rV, dV⟩
  · refine CallsIn.mono step ?_
    rintro e W ⟨⟨v, rfl⟩, hB, ⟨hi, hl, hd⟩ | ⟨pre, rest, hx, c, hi, hl, hd⟩⟩
    · have hBw : But S w W := ((But.ofBelow (S := S) bV).trans hB (fun x hx h => h.elim id (fun e => by omega)))
      have hput := fun o => (But.refl (fun k => w.heap.size ≤ k) W).putObj (l := w.heap.size + 1) (fun _ => by omega) o
      have hen2 := run_endLoop (P := P) hl (by rw [hrec]; simp)
      rw [show (rec .ready none).pending = none by rw [hrec]] at hen2
      refine ⟨none, _, hen2, ?_⟩
      have := hBw.size
      refine hdone w.heap.size _ (Nat.le_refl _) (hI _ _ _ hi this (hput _)) (hBw.putObj (fun h => by omega) _) ?_
      exact (World.putObj_heap_other (by omega)).trans hd
    · have hBw : But S w W := ((But.ofBelow (S := S) bV).trans hB (fun x hx h => h.elim id (fun e => by omega)))
      have hput := fun o => (But.refl (fun k => w.heap.size ≤ k) W).putObj (l := w.heap.size + 1) (fun _ => by omega) o
      have hen2 := run_endLoop (P := P) hl (by rw [hrec]; simp)
      rw [show (rec .done (some c)).pending = some c by rw [hrec]] at hen2
      refine ⟨some c, _, hen2, ?_⟩
      have := hBw.size
      refine hstop w.heap.size c pre rest _ (Nat.le_refl _) hx (hIx c _ _ _ hi this (hput _)) (hBw.putObj (fun h => by omega) _) ?_
      exact (World.putObj_heap_other (by omega)).trans hd
  · rintro pre x rest W hx ⟨hi, hl, hd⟩ hW
    have hy := run_yield (P := P) (args := encs x) hl (by rw [hrec]; exact hps x)
    rw [hrec] at hy
    refine ⟨fn, _, assign, body, hy, roundIn_of_wpIn hfn (wpIn_mono (hround _ pre x rest W hx hi (by omega) (by omega)) ?_)⟩
    rintro e a₁ W₁ hp
    cases e with
    | normal =>
      obtain ⟨hb1, hbody⟩ := hp
      have hl1 := (hb1.block (w.heap.size + 1) (by omega)).trans hl
      have hd1 := (hb1.block w.heap.size (by omega)).trans hd
      refine ⟨_, run_beginRound hl1 (by rw [hrec]), ?_⟩
      obtain ⟨W2, hW2⟩ : ∃ W2, W₁.putObj (w.heap.size + 1) (.loop { rec .ready none with state := .busy }) = W2 := ⟨_, rfl⟩
      have l1 := (Array.getElem?_eq_some_iff.1 hl1).1
      have b12 : But (fun k => k = w.heap.size + 1) W₁ W2 := by rw [← hW2]; exact (But.refl (fun k => k = w.heap.size + 1) _).putObj (fun _ => rfl) _
      have hl2 : W2.heap[w.heap.size + 1]? = some (.loop { rec .ready none with state := .busy }) := by rw [← hW2]; exact World.putObj_heap_same l1
      have hd2 : W2.heap[w.heap.size]? = some (.deferred (some [])) := b12.same hd1 (by omega)
      rw [hW2]
      refine wpIn_mono (hbody W2 b12) ?_
      have fin : ∀ (jump : Option Code) (W3 : World), But S W2 W3 →
          ∃ W4, (Instr.endRound (w.heap.size + 1) jump).run P W3 = .ok (.bool jump.isNone) W4 ∧ But (fun k => k = w.heap.size + 1) W3 W4 ∧ But (fun k => S k ∨ k = w.heap.size + 1) W W4 ∧
          W4.heap[w.heap.size + 1]? = some (.loop (rec (if jump.isNone then .ready else .done) jump)) ∧ W4.heap[w.heap.size]? = some (.deferred (some [])) := fun jump W3 h23 => by
        have nl : ¬ S (w.heap.size + 1) := fun h => by have := (hS _ h).2; omega
        have nd : ¬ S w.heap.size := fun h => by have := (hS _ h).2; omega
        have hl3 := h23.same hl2 nl
        have l3 := (Array.getElem?_eq_some_iff.1 hl3).1
        have hr := run_endRound (P := P) jump hl3
        have e1 : ({ ({ rec .ready none with state := .busy } : Loop) with state := if jump.isNone then .ready else .done, pending := jump } : Loop) = rec (if jump.isNone then .ready else .done) jump := by rw [hrec]
        rw [e1] at hr
        refine ⟨_, hr, (But.refl (fun k => k = w.heap.size + 1) _).putObj (fun _ => rfl) _, ?_, World.putObj_heap_same l3, (World.putObj_heap_other (by omega)).trans (h23.same hd2 nd)⟩
        refine But.putObj ?_ (fun _ => .inr rfl) _
        refine (((But.ofBelow (S := fun k => S k ∨ k = w.heap.size + 1) hb1).trans b12 (fun x _ h => .inr h)).trans h23 (fun x _ h => .inl h))
      have up : ∀ {W3 W4 : World}, But S W2 W3 → But (fun k => k = w.heap.size + 1) W3 W4 → w.heap.size ≤ W3.heap.size ∧ But (fun k => w.heap.size ≤ k) W3 W4 := fun {W3 W4} h23 h34 => by
        refine ⟨?_, h34.mono fun x _ hx => by omega⟩
        have h1 := h23.size
        have h2 := (Array.getElem?_eq_some_iff.1 hl2).1
        omega
      rintro e a3 W3 hp
      cases e with
      | normal =>
        obtain ⟨hk3, hi3⟩ := hp
        obtain ⟨W4, hr, h34, h4, hl4, hd4⟩ := fin none W3 hk3
        obtain ⟨u1, u2⟩ := up hk3 h34
        exact ⟨_, _, hr, h4, .inl ⟨rfl, hI _ _ _ hi3 u1 u2, hl4, hd4⟩⟩
      | ret =>
        obtain ⟨hk3, hi3⟩ := hp
        obtain ⟨W4, hr, h34, h4, hl4, hd4⟩ := fin (some .ret) W3 hk3
        obtain ⟨u1, u2⟩ := up hk3 h34
        exact ⟨_, _, hr, h4, .inr ⟨rfl, .ret, hIx _ _ _ _ hi3 u1 u2, hl4, hd4⟩⟩
      | exit id =>
        obtain ⟨hk3, hi3⟩ := hp
        obtain ⟨W4, hr, h34, h4, hl4, hd4⟩ := fin (some (.exit id)) W3 hk3
        obtain ⟨u1, u2⟩ := up hk3 h34
        exact ⟨_, _, hr, h4, .inr ⟨rfl, .exit id, hIx _ _ _ _ hi3 u1 u2, hl4, hd4⟩⟩
      | goto t =>
        obtain ⟨hk3, hi3⟩ := hp
        obtain ⟨W4, hr, h34, h4, hl4, hd4⟩ := fin (some (.goto t)) W3 hk3
        obtain ⟨u1, u2⟩ := up hk3 h34
        exact ⟨_, _, hr, h4, .inr ⟨rfl, .goto t, hIx _ _ _ _ hi3 u1 u2, hl4, hd4⟩⟩
      | panic ch => exact hp.elim
      | outgrown => exact hp.elim
    | ret => exact hp.elim
    | exit id => exact hp.elim
    | goto t => exact hp.elim
    | panic ch => exact hp.elim
    | outgrown => exact hp.elim
end Go.Proofs.YtceeeofkigkpkaaGreat
