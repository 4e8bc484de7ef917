import Derived.Test.YtlflcdjaknnfaaaKZ
import Derived.Great.BuildSlice
namespace Go.Proofs.Ytlflcdjaknnfaaa
open Go.RowKit

/-! ### DiskKeeps: what the law gathers -/
/-- without power there is no alarm -/
def Sd.fit (S : Sd) : Prop := S.pow = false → S.alm = -1
theorem Sd.fit.off (S : Sd) : S.off.fit := fun _ => rfl
theorem Sd.fit.act {S : Sd} (h : S.fit) : S.act.fit := by
  unfold Sd.act
  split
  · exact Sd.fit.off S
  · split
    · exact h
    · rename_i h0 h1
      intro hp
      exact absurd (h hp) h1
theorem Sd.fit.write {S : Sd} (h : S.fit) (i : Int) (b : List Nat) : (S.write i b).fit := by
  unfold Sd.write
  split
  · exact h
  · split
    · exact h
    · split
      · exact h
      · split
        · exact h.act
        · exact fun hp => h.act hp
theorem Sd.fit.sync {S : Sd} (h : S.fit) : S.sync.fit := by
  unfold Sd.sync
  split
  · exact h
  · split
    · exact h.act
    · exact fun hp => h.act hp
theorem Sd.fit.arm {S : Sd} (h : S.fit) (a : Int) : (S.arm a).fit := by
  unfold Sd.arm
  split
  · exact h
  · rename_i hp
    intro hq
    exact absurd hq hp
theorem Sd.fit.on {S : Sd} (h : S.fit) (K : List Bool) : (S.on K).fit := by
  unfold Sd.on
  split
  · exact h
  · intro hq; cases hq
theorem Sd.fit.layd {S : Sd} (h : S.fit) (i : Int) (b : List Nat) : (S.layd i b).fit := by
  unfold Sd.layd
  split
  · exact fun hp => h hp
  · exact h
theorem Sd.fit.step {S : Sd} (h : S.fit) (o : Ov) : (S.step o).fit := by
  unfold Sd.step
  repeat' split
  · exact h.write _ _
  · exact h.sync
  · exact h.arm _
  · exact Sd.fit.off S
  · exact h.on _
  · exact h.layd _ _
  · exact h
theorem Sd.fit.run {S : Sd} (h : S.fit) (L : List Ov) : (S.run L).fit := by
  unfold Sd.run
  induction L generalizing S with
  | nil => exact h
  | cons o L ih => exact ih (h.step o)
theorem st_fit (nb : Int) (l : List Nat) : (stS nb l).fit := fun _ => (st_new nb l).2.2.1
/-- is this call a write that is done? -/
def tk (n : Nat) (o : Ov) : Bool := decide (o.k = 1) && (decide (0 ≤ o.i) && decide (o.i < n)) && decide (o.B.length = 512)
def uO (O : List Ov) : Uns := O.map fun o => (o.i.toNat, o.B)
/-- with these writes more -/
def Sd.many (S : Sd) (O : List Ov) : Sd := { S with uns := uO O, wr := S.wr + O.length }
theorem Sd.many_nil {S : Sd} (h : S.uns = []) : S.many [] = S := by
  unfold Sd.many uO
  cases S
  simp only at h
  subst h
  rfl
theorem Sd.many_snoc (S : Sd) (O : List Ov) (o : Ov) : (S.many O).wrote o.i.toNat o.B = S.many (O ++ [o]) := by
  unfold Sd.many Sd.wrote uO
  simp only [List.map_append, List.map_cons, List.map_nil, List.length_append, List.length_singleton]
  rfl
theorem write_tk {S : Sd} (hp : S.pow = true) (ha : S.alm = -1) (o : Ov) (hk : o.k = 1) :
    (tk S.n o = true ∧ S.writeE o.i o.B = 0 ∧ S.write o.i o.B = S.wrote o.i.toNat o.B) ∨ (tk S.n o = false ∧ S.writeE o.i o.B ≠ 0 ∧ S.write o.i o.B = S) := by
  have h1 : S.acts = true := by unfold Sd.acts; rw [ha]; decide
  have h2 : S.act = S := by unfold Sd.act; rw [if_neg (by rw [ha]; decide), if_pos ha]
  have hT : ¬ (S.pow = false) := by rw [hp]; decide
  have hA : ¬ (S.acts = false) := by rw [h1]; decide
  have e : tk S.n o = (S.has o.i && decide (o.B.length = 512)) := by unfold tk Sd.has; rw [decide_eq_true hk, Bool.true_and]
  unfold Sd.writeE Sd.write
  rw [if_neg hT, if_neg hT, e]
  by_cases hh : S.has o.i = false
  · rw [if_pos hh, if_pos hh, hh]
    exact .inr ⟨rfl, by decide, rfl⟩
  · have hh' : S.has o.i = true := by simpa using hh
    rw [if_neg hh, if_neg hh, hh']
    by_cases hl : o.B.length = 512
    · have hl' : ¬ (o.B.length ≠ 512) := fun h => h hl
      rw [if_neg hl', if_neg hl', if_neg hA, if_neg hA, h2, decide_eq_true hl]
      exact .inl ⟨rfl, rfl, rfl⟩
    · rw [if_pos hl, if_pos hl, decide_eq_false hl]
      exact .inr ⟨rfl, by decide, rfl⟩
theorem tk_has {n : Nat} {o : Ov} (h : tk n o = true) : o.k = 1 ∧ 0 ≤ o.i ∧ o.i < n ∧ o.B.length = 512 := by
  unfold tk at h
  simp only [Bool.and_eq_true, decide_eq_true_eq] at h
  exact ⟨h.1.1, h.1.2.1, h.1.2.2, h.2⟩
/-- the writes that are done, of the first so many calls -/
def dn (n : Nat) (L : List Ov) (j : Nat) : List Ov := (L.take j).filter (tk n)
theorem dn_succ (n : Nat) (L : List Ov) {j : Nat} (hj : j < L.length) : dn n L (j + 1) = if tk n (L.getD j Ov.zero) then dn n L j ++ [L.getD j Ov.zero] else dn n L j := by
  unfold dn
  have e : L.getD j Ov.zero = L[j] := by simp [hj]
  rw [List.take_succ_eq_append_getElem hj, List.filter_append, e]
  by_cases h : tk n L[j] = true
  · rw [if_pos h]; simp [h]
  · rw [if_neg h]; simp [h]
theorem dn_len (n : Nat) (L : List Ov) (j : Nat) : (dn n L j).length ≤ j := by
  unfold dn
  exact Nat.le_trans (List.length_filter_le _ _) (by rw [List.length_take]; omega)
theorem dn_mem {n : Nat} {L : List Ov} {j : Nat} {o : Ov} (h : o ∈ dn n L j) : o ∈ L ∧ tk n o = true := by
  unfold dn at h
  obtain ⟨h1, h2⟩ := List.mem_filter.1 h
  exact ⟨List.mem_of_mem_take h1, h2⟩
/-- the cells of calls -/
def vO (O : List Ov) : List Value := O.flatMap Ov.cs
theorem vO_snoc (O : List Ov) (o : Ov) : vO (O ++ [o]) = vO O ++ o.cs := by
  unfold vO
  rw [List.flatMap_append]
  simp
theorem vO_len (O : List Ov) : (vO O).length = O.length * 4 := by
  induction O with
  | nil => rfl
  | cons o O ih =>
    have e : vO (o :: O) = o.cs ++ vO O := rfl
    rw [e, List.length_append, ih, List.length_cons]
    show 4 + O.length * 4 = _
    omega
theorem vO_at {O : List Ov} {j : Nat} {o : Ov} (hj : O[j]? = some o) : ((vO O).drop (j * 4)).take 4 = o.cs := by
  have e : O = O.take j ++ ([o] ++ O.drop (j + 1)) := by
    obtain ⟨h1, h2⟩ := List.getElem?_eq_some_iff.1 hj
    rw [← h2, List.singleton_append, List.getElem_cons_drop, List.take_append_drop]
  have hlt := (List.getElem?_eq_some_iff.1 hj).1
  have e2 : vO O = vO (O.take j) ++ (o.cs ++ vO (O.drop (j + 1))) := by
    conv => lhs; rw [e]
    unfold vO
    rw [List.flatMap_append, List.flatMap_append]
    simp
  have l1 : (vO (O.take j)).length = j * 4 := by
    rw [vO_len, List.length_take]
    congr 1
    omega
  rw [e2, ← l1, List.drop_left]
  exact List.take_left' (show o.cs.length = 4 from rfl)
theorem infoOp3 : (Try.prog.info? 54).map (fun i => (i.zero, i.size, i.bytes)) = some (some (.agg #[.int .i64 0, .int .i64 0, .slice none 0 0, .slice none 0 0]), 4, 64) := by kernel_rfl
/-- a row of calls of the law's own -/
def Ow (w : World) (a : Option Addr) (c : Nat) (O : List Ov) : Prop := w.ownsRow 0 54 4 (.slice a O.length c) O.length (vO O)
theorem Ow.nil (w : World) : Ow w none 0 [] := World.ownsRow_nil _ _ _ _
theorem Ow.but {T : Nat → Prop} {w w' : World} {a : Option Addr} {c : Nat} {O : List Ov} (h : Ow w a c O) (hb : But T w w') (hn : ∀ x, a = some x → ¬ T x.block) : Ow w' a c O := own_but h hb hn
theorem Ow.keep {w w' : World} {a : Option Addr} {c : Nat} {O : List Ov} (h : Ow w a c O) (hb : Below w.heap.size w w') : Ow w' a c O := h.but (T := fun _ => False) (But.ofBelow hb) fun _ _ h => h
theorem Ow.lt {w : World} {a : Option Addr} {c : Nat} {O : List Ov} (h : Ow w a c O) {x : Addr} (hx : a = some x) : x.block < w.heap.size := by
  obtain ⟨_, h2⟩ := h
  rcases h2 with ⟨hv, _⟩ | ⟨g, cap', cur, hv, _, hg, _⟩
  · simp only [Value.slice.injEq] at hv
    rw [hx] at hv; cases hv.1
  · simp only [Value.slice.injEq] at hv
    rw [hx] at hv
    simp only [Option.some.injEq] at hv
    rw [hv.1]
    exact (Array.getElem?_eq_some_iff.1 hg).1
theorem Ow.at {w : World} {a : Option Addr} {c : Nat} {O : List Ov} (h : Ow w a c O) {j : Nat} {o : Ov} (hj : O[j]? = some o) : ∃ g, a = some ⟨g, 0, none⟩ ∧ w.rangeAt g (j * 4) o.cs := by
  have hlt := (List.getElem?_eq_some_iff.1 hj).1
  obtain ⟨_, h2⟩ := h
  rcases h2 with ⟨hv, h0⟩ | ⟨g, cap', cur, hv, h3, hg, hn, hm, hs, ht⟩
  · omega
  · simp only [Value.slice.injEq] at hv
    obtain ⟨e1, _, rfl⟩ := hv
    refine ⟨g, e1, fun m v hv => ?_⟩
    have hml : m < 4 := (List.getElem?_eq_some_iff.1 hv).1
    rw [cell_of_row _ _ _ _ _ _ hg, ← hv, ← vO_at hj, ← ht, List.getElem?_take, if_pos hml, List.getElem?_drop, List.getElem?_take, if_pos (by
      have : (j + 1) * 4 ≤ O.length * 4 := Nat.mul_le_mul_right _ hlt
      omega)]
    simp
/-- a call is appended -/
theorem run_apO (w : World) (a : Option Addr) (cap : Nat) (O : List Ov) (hR : Ow w a cap O) (ad : Addr) (c : Nat) (o : Ov) (hc : ∀ m v, o.cs[m]? = some v → w.cell? (ad.add m) = some v) (hlen : O.length + 1 ≤ 2097152) (ty : TypeId) :
    ∃ g cap' w', (Builtin.append_ #[49, 49] ty #[.slice a O.length cap, .slice (some ad) 1 c]).run Try.prog w = .ok (.slice (some ⟨g, 0, none⟩) (O.length + 1) cap') w' ∧
      Ow w' (some ⟨g, 0, none⟩) cap' (O ++ [o]) ∧ w.grownBy w' (a.map Addr.block) ∧ (a.map Addr.block = some g ∨ g = w.heap.size) := by
  obtain ⟨i0, hi, hz0, hz1, hz2⟩ := info_parts infoOp3
  obtain ⟨g, cap', w', hr, h1, h2, h3, h4⟩ := run_append_lies (P := Try.prog) w 49 ty 0 54 i0 _ 4 64 Try.underlying49 hi hz0 hz1 hz2 rfl (by decide) (.slice a O.length cap) O.length (vO O) hR ad 1 c o.cs rfl hc (by
    intro u hu
    simp only [Ov.cs, List.mem_cons, List.not_mem_nil, or_false] at hu
    rcases hu with rfl | rfl | rfl | rfl <;> rfl) (by decide) (by unfold maxLen; omega) (by omega) (Nat.zero_le _) w.heap.size rfl
  rw [ob_eq] at h2 h3
  refine ⟨g, cap', w', hr, ?_, h2, h3⟩
  unfold Ow
  rw [vO_snoc, List.length_append, List.length_singleton]
  exact h1
end Go.Proofs.Ytlflcdjaknnfaaa
