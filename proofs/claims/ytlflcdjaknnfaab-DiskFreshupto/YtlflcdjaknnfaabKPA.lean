import Derived.Test.YtlflcdjaknnfaabKHF
namespace Go.Proofs.Ytlflcdjaknnfaab
open Go.RowKit

/-- without power there is no alarm -/
def Sd.fit (S : Sd) : Prop := S.pow = false → S.alm = -1
theorem Sd.fit.off (S : Sd) : S.off.fit := fun _ => rfl
theorem Sd.fit.act {S : Sd} (h : S.fit) : S.act.fit := by
  unfold Sd.act
  split
  · exact Sd.fit.off S
  · split
    · exact h
    · rename_i h0 h1
      intro hp
      exact absurd (h hp) h1
theorem Sd.fit.write {S : Sd} (h : S.fit) (i : Int) (b : List Nat) : (S.write i b).fit := by
  unfold Sd.write
  split
  · exact h
  · split
    · exact h
    · split
      · exact h
      · split
        · exact h.act
        · exact fun hp => h.act hp
theorem Sd.fit.sync {S : Sd} (h : S.fit) : S.sync.fit := by
  unfold Sd.sync
  split
  · exact h
  · split
    · exact h.act
    · exact fun hp => h.act hp
theorem Sd.fit.arm {S : Sd} (h : S.fit) (a : Int) : (S.arm a).fit := by
  unfold Sd.arm
  split
  · exact h
  · rename_i hp
    intro hq
    exact absurd hq hp
theorem Sd.fit.on {S : Sd} (h : S.fit) (K : List Bool) : (S.on K).fit := by
  unfold Sd.on
  split
  · exact h
  · intro hq; cases hq
theorem Sd.fit.layd {S : Sd} (h : S.fit) (i : Int) (b : List Nat) : (S.layd i b).fit := by
  unfold Sd.layd
  split
  · exact fun hp => h hp
  · exact h
theorem Sd.fit.step {S : Sd} (h : S.fit) (o : Ov) : (S.step o).fit := by
  unfold Sd.step
  repeat' split
  · exact h.write _ _
  · exact h.sync
  · exact h.arm _
  · exact Sd.fit.off S
  · exact h.on _
  · exact h.layd _ _
  · exact h
theorem st_fit (nb : Int) (l : List Nat) : (stS nb l).fit := fun _ => (st_new nb l).2.2.1
theorem below_by {F : Nat → Prop} {w0 w wx : World} (hb0 : Below w0.heap.size w0 w) (h : But F w wx) (hF : ∀ k, F k → w0.heap.size ≤ k) : Below w0.heap.size w0 wx :=
  ⟨h.os.trans hb0.os, h.tape.trans hb0.tape, h.output.trans hb0.output, Nat.le_trans hb0.size h.size, fun k hk => (h.block k (Nat.lt_of_lt_of_le hk hb0.size) (fun hf => by have := hF k hf; omega)).trans (hb0.block k hk)⟩
/-- the program's disk and the document's -/
structure Bt (w V : World) (F G : Nat → Prop) (p q : Nat) (S T : Sd) : Prop where
  d : Dk F V p S
  m : Hk G V q T
  f : ∀ k, F k → w.heap.size ≤ k
  g : ∀ k, G k → w.heap.size ≤ k
  fg : ∀ k, F k → ¬ G k
  b : Below w.heap.size w V
section
variable {w V V' : World} {F G : Nat → Prop} {p q : Nat} {S T S' T' : Sd}
theorem Both.bt (h : Both w V F G p q S) : Bt w V F G p q S S := ⟨h.d, h.m, h.f, h.g, h.fg, h.b⟩
theorem Bt.keep (h : Bt w V F G p q S T) (hb : Below V.heap.size V V') : Bt w V' F G p q S T := ⟨h.d.keep hb, h.m.keep hb, h.f, h.g, h.fg, Go.Proofs.Ytlflcdjaknnfaab.bt h.b hb⟩
theorem Bt.do1 (h : Bt w V F G p q S T) (h1 : Dk (ext F V V') V' p S') (hb : But F V V') : Bt w V' (ext F V V') G p q S' T := by
  have hs := h.b.size
  refine ⟨h1, h.m.but hb (fun k hk hf => h.fg k hf hk), fun k hk => ?_, h.g, fun k hk hg => ?_, below_by h.b hb h.f⟩
  · rcases hk with hk | hk
    · exact h.f k hk
    · omega
  · rcases hk with hk | hk
    · exact h.fg k hk hg
    · have := h.m.lt k hg; omega
theorem Bt.do2 (h : Bt w V F G p q S T) (h1 : Hk (ext G V V') V' q T') (hb : But G V V') : Bt w V' F (ext G V V') p q S T' := by
  have hs := h.b.size
  refine ⟨h.d.but hb (fun k hk hf => h.fg k hk hf), h1, h.f, fun k hk => ?_, fun k hk hg => ?_, below_by h.b hb h.g⟩
  · rcases hk with hk | hk
    · exact h.g k hk
    · omega
  · rcases hg with hg | hg
    · exact h.fg k hk hg
    · have := h.d.lt k hk; omega
end
theorem box_cells {V w2 : World} {k i : Int} {aB aK : Option Addr} {nB cB nK cK : Nat} (hb : Below (V.alloc (.cells #[.int .i64 k, .int .i64 i, .slice aB nB cB, .slice aK nK cK] 34)).heap.size (V.alloc (.cells #[.int .i64 k, .int .i64 i, .slice aB nB cB, .slice aK nK cK] 34)) w2) :
    w2.cell? ⟨V.heap.size, 0, none⟩ = some (.int .i64 k) ∧ w2.cell? ⟨V.heap.size, 1, none⟩ = some (.int .i64 i) ∧ w2.cell? ⟨V.heap.size, 2, none⟩ = some (.slice aB nB cB) ∧ w2.cell? ⟨V.heap.size, 3, none⟩ = some (.slice aK nK cK) := by
  have hl : V.heap.size < (V.alloc (.cells #[.int .i64 k, .int .i64 i, .slice aB nB cB, .slice aK nK cK] 34)).heap.size := by rw [size_alloc]; omega
  have e : ∀ n, w2.cell? ⟨V.heap.size, n, none⟩ = (#[.int .i64 k, .int .i64 i, .slice aB nB cB, .slice aK nK cK] : Array Value)[n]? := fun n => by
    rw [hb.cell (p := ⟨V.heap.size, n, none⟩) hl, cell_of_row _ _ _ _ _ _ (heap_alloc_last V _)]
  exact ⟨by rw [e]; rfl, by rw [e]; rfl, by rw [e]; rfl, by rw [e]; rfl⟩
set_option maxHeartbeats 1000000 in
theorem eqBools_same (w : World) (aa ab : Option Addr) (n m ca cb : Nat) (l : List Bool) (hA : Kb w aa l) (hB : Kb w ab l) (hn : n = l.length) (hm : m = l.length) (hb : l.length ≤ 268435456) :
    Calls Try.prog 37 #[.slice aa n ca, .slice ab m cb] w fun e w' => e = .returned (.bool true) ∧ Below w.heap.size w w' := by
  subst hn
  subst hm
  have HA := hide hA
  have HB := hide hB
  clear hA hB
  go_enter Try.func37, Try.ntmps37
  go_wp2
  go_loopw [5] (fun i wx => ∃ j : Nat, j ≤ l.length ∧ i = .int .i64 j ∧ (Below w.heap.size w wx)) (fun i _ => l.length - (intOf i).toNat)
  case atStart => exact ⟨0, Nat.zero_le _, rfl, Below.refl _ _⟩
  case round =>
    obtain ⟨j, hj, rfl, hG⟩ := hrel
    have HG := hide hG
    clear hG
    by_cases hlt : j < l.length
    · have hi : (j : Int) < (l.length : Int) := by omega
      obtain ⟨b1, o1, rfl, cA⟩ := (HA.out.keep HG.out).at hlt
      obtain ⟨b2, o2, rfl, cB⟩ := (HB.out.keep HG.out).at hlt
      generalize l.getD j false = x at *
      cases x with
      | true =>
        go_wp2
        go_quiet (fail)
        go_wp2
        go_roundw
        case rel => exact ⟨j + 1, by omega, by go_num, bt HG.out (drN _ _)⟩
        case measure => simp [intOf]; omega
      | false =>
        go_wp2
        go_quiet (fail)
        go_wp2
        go_roundw
        case rel => exact ⟨j + 1, by omega, by go_num, bt HG.out (drN _ _)⟩
        case measure => simp [intOf]; omega
    · obtain rfl : j = l.length := by omega
      go_wp2
      go_ret
      exact ⟨rfl, HG.out⟩
end Go.Proofs.Ytlflcdjaknnfaab
