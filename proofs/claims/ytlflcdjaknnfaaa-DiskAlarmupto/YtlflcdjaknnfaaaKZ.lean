import Derived.Test.YtlflcdjaknnfaaaKX
namespace Go.Proofs.Ytlflcdjaknnfaaa
open Go.RowKit

/-- so many acts were done -/
structure Al (acts : Int) (S : Sd) (D : Nat) : Prop where
  cnt : S.wr + S.sy = D
  st : (acts < 0 ∧ S.pow = true ∧ S.alm = -1) ∨ (0 ≤ acts ∧ S.pow = true ∧ S.alm = acts - D ∧ (D : Int) ≤ acts) ∨ (0 ≤ acts ∧ S.pow = false ∧ (D : Int) = acts)
/-- how an act ends -/
def Out (acts : Int) (e : Nat) (S : Sd) (D : Nat) : Prop :=
  (e = 0 ∧ Al acts S (D + 1) ∧ S.pow = true) ∨ (e = 17 ∧ Al acts S D ∧ S.pow = false ∧ (D : Int) = acts ∧ 0 ≤ acts) ∨ (e ≠ 0 ∧ e ≠ 17 ∧ Al acts S D ∧ S.pow = true)
theorem Al.start {acts : Int} {S : Sd} (hp : S.pow = true) (hw : S.wr = 0) (hs : S.sy = 0) : Al acts (S.arm acts) 0 := by
  have e : S.arm acts = { S with alm := max acts (-1) } := by unfold Sd.arm; rw [if_neg (by rw [hp]; decide)]
  rw [e]
  refine ⟨by show S.wr + S.sy = 0; omega, ?_⟩
  by_cases h : acts < 0
  · exact .inl ⟨h, hp, by show max acts (-1) = -1; omega⟩
  · exact .inr (.inl ⟨by omega, hp, by show max acts (-1) = acts - 0; omega, by omega⟩)
theorem Al.down {acts : Int} {S : Sd} {D : Nat} (h : Al acts S D) (hp : S.pow = true) (ha : S.acts = false) : Al acts S.act D ∧ S.act.pow = false ∧ (D : Int) = acts ∧ 0 ≤ acts := by
  have h0 : S.alm = 0 := by unfold Sd.acts at ha; simpa using ha
  have e : S.act = S.off := by unfold Sd.act; rw [if_pos h0]
  rw [e]
  rcases h.st with ⟨_, _, h3⟩ | ⟨h1, _, h3, h4⟩ | ⟨_, h2, _⟩
  · omega
  · exact ⟨⟨h.cnt, .inr (.inr ⟨h1, rfl, by omega⟩)⟩, rfl, by omega, h1⟩
  · rw [hp] at h2; cases h2
theorem Al.up {acts : Int} {S S' : Sd} {D : Nat} (h : Al acts S D) (hp : S.pow = true) (ha : S.acts = true) (h1 : S'.pow = S.act.pow) (h2 : S'.alm = S.act.alm) (h3 : S'.wr + S'.sy = D + 1) : Al acts S' (D + 1) ∧ S'.pow = true := by
  have h0 : S.alm ≠ 0 := by unfold Sd.acts at ha; simpa using ha
  have hpw : S'.pow = true := by rw [h1, Sd.act_pow S ha, hp]
  refine ⟨⟨h3, ?_⟩, hpw⟩
  rw [h2]
  rcases h.st with ⟨q1, _, q3⟩ | ⟨q1, _, q3, q4⟩ | ⟨_, q2, _⟩
  · exact .inl ⟨q1, hpw, by unfold Sd.act; rw [if_neg h0, if_pos q3]; exact q3⟩
  · have : S.act.alm = S.alm - 1 := by unfold Sd.act; rw [if_neg h0, if_neg (by omega)]
    exact .inr (.inl ⟨q1, hpw, by rw [this]; omega, by omega⟩)
  · rw [hp] at q2; cases q2
theorem Al.write {acts : Int} {S : Sd} {D : Nat} (h : Al acts S D) (i : Int) (b : List Nat) : Out acts (S.writeE i b) (S.write i b) D := by
  unfold Sd.writeE Sd.write
  cases hp : S.pow with
  | false =>
    rw [if_pos rfl, if_pos rfl]
    refine .inr (.inl ⟨rfl, h, hp, ?_⟩)
    rcases h.st with ⟨_, q, _⟩ | ⟨_, q, _⟩ | ⟨q1, _, q3⟩
    · rw [hp] at q; cases q
    · rw [hp] at q; cases q
    · exact ⟨q3, q1⟩
  | true =>
    rw [if_neg (show ¬ (true = false) by decide), if_neg (show ¬ (true = false) by decide)]
    by_cases hh : S.has i = false
    · rw [if_pos hh, if_pos hh]
      exact .inr (.inr ⟨by decide, by decide, h, hp⟩)
    · rw [if_neg hh, if_neg hh]
      by_cases hl : b.length ≠ 512
      · rw [if_pos hl, if_pos hl]
        exact .inr (.inr ⟨by decide, by decide, h, hp⟩)
      · rw [if_neg hl, if_neg hl]
        by_cases ha : S.acts = false
        · rw [if_pos ha, if_pos ha]
          exact .inr (.inl ⟨rfl, h.down hp ha⟩)
        · rw [if_neg ha, if_neg ha]
          exact .inl ⟨rfl, h.up hp (by simpa using ha) rfl rfl (by show S.act.wr + 1 + S.act.sy = D + 1; rw [Sd.act_wr, Sd.act_sy]; have := h.cnt; omega)⟩
theorem Al.sync {acts : Int} {S : Sd} {D : Nat} (h : Al acts S D) : Out acts S.syncE S.sync D := by
  unfold Sd.syncE Sd.sync
  cases hp : S.pow with
  | false =>
    rw [if_pos rfl, if_pos rfl]
    refine .inr (.inl ⟨rfl, h, hp, ?_⟩)
    rcases h.st with ⟨_, q, _⟩ | ⟨_, q, _⟩ | ⟨q1, _, q3⟩
    · rw [hp] at q; cases q
    · rw [hp] at q; cases q
    · exact ⟨q3, q1⟩
  | true =>
    rw [if_neg (show ¬ (true = false) by decide), if_neg (show ¬ (true = false) by decide)]
    by_cases ha : S.acts = false
    · rw [if_pos ha, if_pos ha]
      exact .inr (.inl ⟨rfl, h.down hp ha⟩)
    · rw [if_neg ha, if_neg ha]
      exact .inl ⟨rfl, h.up hp (by simpa using ha) rfl rfl (by show S.act.wr + (S.act.sy + 1) = D + 1; rw [Sd.act_wr, Sd.act_sy]; have := h.cnt; omega)⟩
theorem Al.le {acts : Int} {S : Sd} {D : Nat} (h : Al acts S D) (ha : 0 ≤ acts) : (D : Int) ≤ acts := by
  rcases h.st with ⟨q, _⟩ | ⟨_, _, _, q⟩ | ⟨_, _, q⟩ <;> omega
theorem Ds.go {w0 V V' : World} {p : Nat} {S S' : Sd} (h : Ds w0 V p S) (hc : ∀ F, Dk F V p S → (∀ k, F k → w0.heap.size ≤ k) → Dk (ext F V V') V' p S' ∧ But F V V') : Ds w0 V' p S' := by
  obtain ⟨F, h1, h3, h4⟩ := h
  obtain ⟨q1, q2⟩ := hc F h1 h3
  have := h4.size
  refine ⟨_, q1, fun k hk => ?_, below_of h4 q2 h3⟩
  rcases hk with hk | hk
  · exact h3 k hk
  · omega
theorem Ds.sync {w0 V : World} {p : Nat} {S : Sd} (h : Ds w0 V p S) (hs : S.sy + 1 ≤ 4611686018427387904) : Calls Try.prog 24 #[.pointer (some ⟨p, 0, none⟩)] V fun e V' => e = .returned (.int .i64 (S.syncE : Int)) ∧ Ds w0 V' p S.sync := by
  obtain ⟨F, h1, h3, h4⟩ := h
  refine (kSync h1 hs).mono fun e V' ⟨e1, q1, q2⟩ => ⟨e1, _, q1, fun k hk => ?_, below_of h4 q2 h3⟩
  have := h4.size
  rcases hk with hk | hk
  · exact h3 k hk
  · omega
theorem Ds.arm {w0 V : World} {p : Nat} {S : Sd} (h : Ds w0 V p S) (a : Int) (ha : a ≤ 9223372036854775807) : Calls Try.prog 23 #[.pointer (some ⟨p, 0, none⟩), .int .i64 a] V fun e V' => e = .returned (.tuple #[]) ∧ Ds w0 V' p (S.arm a) := by
  obtain ⟨F, h1, h3, h4⟩ := h
  refine (kArm h1 a ha).mono fun e V' ⟨e1, q1, q2⟩ => ⟨e1, _, q1, fun k hk => ?_, below_of h4 q2 h3⟩
  have := h4.size
  rcases hk with hk | hk
  · exact h3 k hk
  · omega
theorem Ds.off {w0 V : World} {p : Nat} {S : Sd} (h : Ds w0 V p S) : Calls Try.prog 28 #[.pointer (some ⟨p, 0, none⟩)] V fun e V' => e = .returned (.tuple #[]) ∧ Ds w0 V' p S.off := by
  obtain ⟨F, h1, h3, h4⟩ := h
  refine (kOff h1).mono fun e V' ⟨e1, q1, q2⟩ => ⟨e1, _, q1, fun k hk => ?_, below_of h4 q2 h3⟩
  have := h4.size
  rcases hk with hk | hk
  · exact h3 k hk
  · omega
theorem Ds.on {w0 V V2 : World} {p : Nat} {S : Sd} (h : Ds w0 V p S) (hb : Below V.heap.size V V2) (ka : Option Addr) (kc : Nat) (K : List Bool) (hK : Kb V2 ka K) (hA : ∀ x, ka = some x → V.heap.size ≤ x.block) : Calls Try.prog 27 #[.pointer (some ⟨p, 0, none⟩), .slice ka K.length kc] V2 fun e V' => e = .returned (.tuple #[]) ∧ Ds w0 V' p (S.on K) := by
  obtain ⟨F, h1, h3, h4⟩ := h
  refine (kOn (h1.keep hb) ka K.length kc K hK rfl (fun x hx hf => by have := hA x hx; have := h1.lt _ hf; omega)).mono fun e V' ⟨e1, q1, q2⟩ => ⟨e1, _, q1, fun k hk => ?_, below_of (bt h4 hb) q2 h3⟩
  have := h4.size
  have := hb.size
  rcases hk with hk | hk
  · exact h3 k hk
  · omega
/-- a write of a copy -/
theorem Ds.write {w0 V V2 : World} {p : Nat} {S : Sd} (h : Ds w0 V p S) (hb : Below V.heap.size V V2) (i : Int) (a : Option Addr) (c : Nat) (b : List Nat) (hB : Bs V2 a b) (hA : New V none a) (hU : S.uns.length + 1 ≤ 268435456) (hW : S.wr + 1 ≤ 4611686018427387904) :
    Calls Try.prog 25 #[.pointer (some ⟨p, 0, none⟩), .int .i64 i, .slice a b.length c] V2 fun e V' => e = .returned (.int .i64 (S.writeE i b : Int)) ∧ Ds w0 V' p (S.write i b) ∧ ∃ F, (∀ k, F k → k < V.heap.size) ∧ But F V2 V' := by
  obtain ⟨F, h1, h3, h4⟩ := h
  refine (kWrite (h1.keep hb) i a b.length c b hB rfl (fun x hx hf => ?_) hU hW).mono fun e V' ⟨e1, q1, q2⟩ => ⟨e1, ⟨_, q1, fun k hk => ?_, below_of (bt h4 hb) q2 h3⟩, F, h1.lt, q2⟩
  · rcases hA x hx with ⟨y, hy, _⟩ | hn
    · cases hy
    · have := h1.lt _ hf; omega
  · have := h4.size
    have := hb.size
    rcases hk with hk | hk
    · exact h3 k hk
    · omega
theorem Ds.d {w0 V : World} {p : Nat} {S : Sd} (h : Ds w0 V p S) : ∃ F, Dk F V p S := by obtain ⟨F, h, _⟩ := h; exact ⟨F, h⟩
theorem Ds.b {w0 V : World} {p : Nat} {S : Sd} (h : Ds w0 V p S) : Below w0.heap.size w0 V := by obtain ⟨F, _, _, h⟩ := h; exact h
theorem Ds.ok {w0 V : World} {p : Nat} {S : Sd} (h : Ds w0 V p S) : S.ok := by obtain ⟨F, h, _⟩ := h; exact h.ok
theorem kActs' {w : World} {p : Nat} {S : Sd} (h : ∃ F, Dk F w p S) : Calls Try.prog 17 #[.pointer (some ⟨p, 0, none⟩)] w fun e w' => e = .returned (.tuple #[.int .i64 (S.wr : Int), .int .i64 (S.sy : Int)]) ∧ Below w.heap.size w w' := by
  obtain ⟨F, h⟩ := h; exact kActs h
end Go.Proofs.Ytlflcdjaknnfaaa
