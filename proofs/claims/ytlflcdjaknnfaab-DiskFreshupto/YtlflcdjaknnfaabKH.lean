import Derived.Test.YtlflcdjaknnfaabKG
import Derived.Maps.RangeWalk
namespace Go.Proofs.Ytlflcdjaknnfaab
open Go.RowKit
open Go.ChangeMaps (setBlock)

/-- the image under way -/
structure Im (w wx : World) (S : Sd) (bl g r : Nat) (seen : Int → Prop) (L : List Nat) : Prop where
  it : Itr wx bl r (mpL S.n S.last) seen
  sm : ∀ k, seen k → (mpL S.n S.last k).isSome = true
  row : wx.heap[g]? = some (.cells (vb L).toArray 5 (0, 0))
  len : L.length = S.n * 512
  here : ∀ k m, k < S.n → m < 512 → seen (k : Int) → L.getD (k * 512 + m) 0 = (S.last k).getD m 0
  gone : ∀ k m, k < S.n → m < 512 → ¬ seen (k : Int) → L.getD (k * 512 + m) 0 = 0
  lt : ∀ x ∈ L, x < 256
  b : Below w.heap.size w wx
theorem mpL_some {n : Nat} {L : Nat → List Nat} {k : Int} {v : Value} (h : mpL n L k = some v) : 0 ≤ k ∧ k < (n : Int) ∧ v = .agg (vb (L k.toNat)).toArray := by
  unfold mpL at h
  split at h
  · rename_i hc
    exact ⟨hc.1, hc.2.1, (Option.some.inj h).symm⟩
  · cases h
theorem mpL_none {n : Nat} {L : Nat → List Nat} {k : Nat} (hk : k < n) (h : mpL n L (k : Int) = none) : L k = zb := by
  unfold mpL at h
  split at h
  · cases h
  · rename_i hc
    by_cases e : L k = zb
    · exact e
    · exact absurd ⟨by omega, by omega, by simpa using e⟩ hc
theorem zb_get (m : Nat) : zb.getD m 0 = 0 := by
  unfold zb
  rw [List.getD_eq_getElem?_getD, List.getElem?_replicate]
  split <;> rfl
theorem Im.done {w wx : World} {S : Sd} {bl g r : Nat} {seen : Int → Prop} {L : List Nat} (h : Im w wx S bl g r seen L) (hok : S.ok) (hall : ∀ k v, mpL S.n S.last k = some v → seen k) : L = S.img := by
  refine img_ext (fun i _ => (hok.last i).1) h.len fun k m hk hm => ?_
  by_cases hs : seen (k : Int)
  · exact h.here k m hk hm hs
  · rw [h.gone k m hk hm hs]
    cases hv : mpL S.n S.last (k : Int) with
    | none => rw [mpL_none hk hv, zb_get]
    | some v => exact absurd (hall _ v hv) hs
/-- a block is laid into the image -/
def lays (L : List Nat) (o : Nat) (b : List Nat) : List Nat := L.take o ++ (b ++ L.drop (o + b.length))
theorem lays_len {L b : List Nat} {o : Nat} (h : o + b.length ≤ L.length) : (lays L o b).length = L.length := by
  unfold lays
  simp only [List.length_append, List.length_take, List.length_drop]
  omega
theorem lays_get {L b : List Nat} {o i : Nat} (h : o + b.length ≤ L.length) : (lays L o b).getD i 0 = if o ≤ i ∧ i < o + b.length then b.getD (i - o) 0 else L.getD i 0 := by
  unfold lays
  simp only [List.getD_eq_getElem?_getD]
  have ht : (L.take o).length = o := by rw [List.length_take]; omega
  by_cases h1 : i < o
  · rw [if_neg (by omega), List.getElem?_append_left (by omega), List.getElem?_take, if_pos h1]
  · rw [List.getElem?_append_right (by omega), ht]
    by_cases h2 : i < o + b.length
    · rw [if_pos ⟨by omega, h2⟩, List.getElem?_append_left (by omega)]
    · rw [if_neg (by omega), List.getElem?_append_right (by omega), List.getElem?_drop]
      congr 2
      omega
theorem lays_mem {L b : List Nat} {o : Nat} (hL : ∀ x ∈ L, x < 256) (hb : ∀ x ∈ b, x < 256) : ∀ x ∈ lays L o b, x < 256 := by
  intro x hx
  unfold lays at hx
  simp only [List.mem_append] at hx
  rcases hx with h | h | h
  · exact hL x (List.mem_of_mem_take h)
  · exact hb x h
  · exact hL x (List.mem_of_mem_drop h)
theorem vb_take (L : List Nat) (n : Nat) : (vb L).take n = vb (L.take n) := by unfold vb; rw [List.map_take]
theorem vb_drop (L : List Nat) (n : Nat) : (vb L).drop n = vb (L.drop n) := by unfold vb; rw [List.map_drop]
theorem vb_splice (L b : List Nat) (o : Nat) : splice (vb L) o (vb b) = vb (lays L o b) := by
  unfold splice lays
  rw [vb_length, vb_take, vb_drop, vb_append, vb_append]
/-- the next entry has come, and is laid down -/
theorem Im.step {w wx w1 w2 : World} {S : Sd} {bl g r : Nat} {seen : Int → Prop} {L : List Nat} (h : Im w wx S bl g r seen L) (hok : S.ok) {k : Nat} {v : Value} (hk : k < S.n) (hv : mpL S.n S.last (k : Int) = some v)
    (hi : Itr w1 bl r (mpL S.n S.last) (fun x => x = (k : Int) ∨ seen x)) (hb : Below w.heap.size w w2) (hbut : But (· = g) w1 w2) (hbl : bl ≠ g) (hr : r ≠ g) (hrow : w2.heap[g]? = some (.cells (vb (lays L (k * 512) (S.last k))).toArray 5 (0, 0))) :
    Im w w2 S bl g r (fun x => x = (k : Int) ∨ seen x) (lays L (k * 512) (S.last k)) ∧ left w2 bl r = left w1 bl r := by
  have hlk := (hok.last k).1
  have hkn : (k + 1) * 512 ≤ S.n * 512 := Nat.mul_le_mul_right _ hk
  have hfit : k * 512 + (S.last k).length ≤ L.length := by rw [h.len, hlk]; omega
  have hit := hi.but hbut hbl hr
  refine ⟨⟨hit.1, fun x hx => ?_, hrow, by rw [lays_len hfit, h.len], fun x m hx hm hs => ?_, fun x m hx hm hs => ?_, lays_mem h.lt (hok.last k).2, hb⟩, hit.2⟩
  · rcases hx with rfl | hx
    · rw [hv]; rfl
    · exact h.sm x hx
  · rw [lays_get hfit, hlk]
    by_cases e : x = k
    · subst e
      have hx2 : x * 512 ≤ x * 512 + m ∧ x * 512 + m < x * 512 + 512 := ⟨Nat.le_add_right _ _, Nat.add_lt_add_left hm _⟩
      rw [if_pos hx2, Nat.add_sub_cancel_left]
    · rw [if_neg (by omega)]
      rcases hs with hs | hs
      · omega
      · exact h.here x m hx hm hs
  · have e : x ≠ k := fun e => hs (.inl (by rw [e]))
    rw [lays_get hfit, hlk, if_neg (by omega)]
    exact h.gone x m hx hm fun h => hs (.inr h)

section
variable {F : Nat → Prop} {w : World} {p bl bn : Nat} {ua : Option Addr} {uc : Nat} {S : Sd}
theorem vb_zeros (n : Nat) : (vb (List.replicate n 0)).toArray = madeCells #[.int .u8 0] n := by
  apply Array.ext_getElem?
  intro i
  by_cases h : i < n
  · simp [madeCells, vb, h, Nat.mod_one]
  · simp [madeCells, vb, h]
theorem step_copyX {w w' : World} {ops : Array Oper} {o : Oper} {a : Act} {K : Act → World → Prop} {Q : Exit → Act → World → Prop} {E : Prop} (hgd : o.guard = none) (d s : Operand)
    (ho : o.op = .call { callee := .builtin .copy, args := #[d, s], argTypes := #[22, 22] }) (u v r : Value) (hs : a.eval d = u) (hx : a.eval s = v) (hr : ∀ ty, (Builtin.copy_ #[22, 22] ty #[u, v]).run Try.prog w = .ok r w')
    (h : K (a.put o.dst r) w') : if Region.wanted o (yielded ops a.tmps) = true then Oper.wp Try.prog o a w K Q else E := by
  have hw : Region.wanted o (yielded ops a.tmps) = true := by simp [Region.wanted, hgd]
  rw [if_pos hw]
  unfold Oper.wp execOp
  simp only [ho, resolve, invoke, builtin, Sem.run_bind, Sem.run_pure, Result.andThen_ok, List.map_toArray, List.map_cons, List.map_nil, hs, hx, hr]
  exact h
/-- a block is copied into the image -/
theorem cp_blk (w : World) (g q o N : Nat) (L b : List Nat) (hg : w.heap[g]? = some (.cells (vb L).toArray 5 (0, 0))) (hq : w.heap[q]? = some (.cells (vb b).toArray 72 (0, 0))) (hb : Blk b) (hL : L.length = N) (ho : o + 512 ≤ N) (ty : TypeId) :
    (Builtin.copy_ #[22, 22] ty #[.slice (some ⟨g, o, none⟩) (N - o) (N - o), .slice (some ⟨q, 0, none⟩) 512 512]).run Try.prog w = .ok (.int .i64 512) (w.setRow g (vb (lays L o b)).toArray) := by
  have hl : (vb b).length = 512 := by rw [vb_length]; exact hb.1
  have := run_copy_row (P := Try.prog) w 22 22 ty 5 g o (N - o) (N - o) ⟨q, 0, none⟩ 512 512 (vb L).toArray 5 (vb b) Try.underlying22 sizeU8 hg
    (by rw [hl]; exact (Nat.min_eq_left (by omega)).symm) (by
      intro j v hj
      rw [Addr.add_mid, cell_of_row _ q (0 + j) (vb b).toArray 72 (0, 0) hq]
      simpa using hj) (by rw [hl, List.size_toArray, vb_length]; omega) (vb_one _)
  rw [this, hl]
  congr 1
  rw [List.append_assoc]
  show w.setRow g ((vb L).take o ++ (vb b ++ (vb L).drop (o + 512))).toArray = _
  unfold lays
  rw [vb_take, vb_drop, vb_append, vb_append, hb.1]
set_option maxHeartbeats 2000000 in
theorem dImage_any (h : DkAt F w p bl bn ua uc S) :
    Calls Try.prog 17 #[.pointer (some ⟨p, 0, none⟩)] w fun e w' => e = .returned (.slice (some ⟨w.heap.size, 0, none⟩) S.img.length S.img.length) ∧ Rw w' (some ⟨w.heap.size, 0, none⟩) S.img.length S.img ∧ Below w.heap.size w w' := by
  have hN : S.n * 512 ≤ 33554432 := by have := h.ok.n1; omega
  have hn1 := h.ok.n1
  have c0 : w.cell? ⟨p, 0, none⟩ = some (.int .i64 (S.n : Int)) := h.cell 0
  have hil : S.img.length = S.n * 512 := imgF_len fun i _ => (h.ok.last i).1
  obtain ⟨W1, hW1⟩ : ∃ W1, W1 = w.alloc (.cells (vb (List.replicate (S.n * 512) 0)).toArray 5) := ⟨_, rfl⟩
  have hb1 : Below w.heap.size w W1 := by rw [hW1]; exact al _ _
  have hs1 : W1.heap.size = w.heap.size + 1 := by rw [hW1, size_alloc]
  have h1 := h.keep hb1
  have c1 : W1.cell? ⟨p, 1, none⟩ = some (.map (some bl)) := h1.cell 1
  obtain ⟨o, hrg, hit⟩ := h1.l.range (P := Try.prog) (T := 65) (K := 3) (E := 72) Try.underlying65
  have hmk : ∀ w : World, (Instr.makeSlice 22 (.int .i64 ((S.n * 512 : Nat) : Int)) (.int .i64 ((S.n * 512 : Nat) : Int))).run Try.prog w = .ok (.slice (some ⟨w.heap.size, 0, none⟩) (S.n * 512) (S.n * 512)) (w.alloc (.cells (vb (List.replicate (S.n * 512) 0)).toArray 5)) := fun w => by
    rw [vb_zeros]; exact make_u8 (S.n * 512) (S.n * 512) (Nat.le_refl _) (by omega) w
  have hmul : IntKind.i64.wrap ((S.n : Int) * 512) = ((S.n * 512 : Nat) : Int) := by rw [wrapI (by omega) (by omega)]; omega
  have hIm : Im w (W1.alloc o) S bl w.heap.size (w.heap.size + 1) (fun _ => False) (List.replicate (S.n * 512) 0) := by
    rw [hs1] at hit
    refine ⟨hit, fun _ h => h.elim, ?_, by simp, fun _ _ _ _ h => h.elim, fun k m hk hm _ => ?_, fun x hx => by rw [(List.mem_replicate.1 hx).2]; decide, bt hb1 (al _ _)⟩
    · rw [(al W1 o).block w.heap.size (by omega), hW1]
      exact heap_alloc_last _ _
    · rw [List.getD_eq_getElem?_getD, List.getElem?_replicate]
      split <;> rfl
  rw [hW1] at hrg c1 hIm
  rw [← hW1, hs1] at hrg
  rw [hW1] at hrg
  have HI := hide hIm
  have hbl : bl ≠ w.heap.size := by have := h.lt _ h.fl; omega
  have hok := hide h.ok
  have hz := zeroBlk
  clear hIm hit h1 hb1 hs1 hW1 h
  generalize hNN : S.n * 512 = N at *
  have HNN := hide hNN
  clear hNN
  go_enter Try.func17, Try.ntmps17
  go_wp2
  go_loopw [4] (fun _ wx => ∃ seen L, Im w wx S bl w.heap.size (w.heap.size + 1) seen L) (fun _ wx => left wx bl (w.heap.size + 1))
  case atStart => exact ⟨_, _, HI.out⟩
  case round =>
    obtain ⟨seen, L, hG⟩ := hrel
    clear HI hrg c1 hmk hmul
    have HL : Hid (L.length = N) := hG.len.trans HNN.out
    rcases hG.it.next (P := Try.prog) with ⟨hall, hrun⟩ | ⟨k, v, w1, hv, hns, hrun, hit, hent, hbut, hlf, hsz⟩
    · have HE := hide (hG.done hok.out hall)
      have HG := hide hG
      clear hG hall
      go_wp2
      go_ret
      have e := HE.out
      subst e
      have hlen : (S.img).length = N := HL.out
      refine ⟨by rw [hlen]; rfl, Rw.mk (cur := (vb S.img).toArray) HG.out.row (Nat.le_refl _) (by rw [hlen]; unfold maxLen; omega) (by rw [List.size_toArray, vb_length]) (by simp [← vb_length S.img]), HG.out.b⟩
    · obtain ⟨hk0, hkn, rfl⟩ := mpL_some hv
      obtain ⟨k, rfl⟩ : ∃ j : Nat, k = (j : Int) := ⟨k.toNat, by omega⟩
      simp only [Int.toNat_natCast] at hrun hent
      have hkl : k < S.n := by omega
      have hkb := hok.out.last k
      have hk5 : k * 512 + 512 ≤ N := by rw [← HNN.out]; have : (k + 1) * 512 ≤ S.n * 512 := Nat.mul_le_mul_right _ hkl; omega
      have hrow1 : w1.heap[w.heap.size]? = some (.cells (vb L).toArray 5 (0, 0)) := (hbut.block _ (Array.getElem?_eq_some_iff.1 hG.row).1 (by omega)).trans hG.row
      obtain ⟨W2, hW2⟩ : ∃ W2, W2 = (w1.alloc (.cells (vb (S.last k)).toArray 72)).drew := ⟨_, rfl⟩
      have hb2 : Below w1.heap.size w1 W2 := by rw [hW2]; exact bt (al _ _) (drw _)
      have hlt1 := (Array.getElem?_eq_some_iff.1 hrow1).1
      have hcp := fun ty => cp_blk W2 w.heap.size w1.heap.size (k * 512) N L (S.last k) ((hb2.block _ hlt1).trans hrow1) (by rw [hW2]; exact heap_alloc_last _ _) hkb HL.out hk5 ty
      have hbut2 : But (· = w.heap.size) W2 (W2.setRow w.heap.size (vb (lays L (k * 512) (S.last k))).toArray) := ⟨rfl, rfl, rfl, by rw [setRow_size]; exact Nat.le_refl _, fun x _ hx => setRow_other W2 w.heap.size x _ hx⟩
      have hB2 : But (· = w.heap.size) w1 (W2.setRow w.heap.size (vb (lays L (k * 512) (S.last k))).toArray) := ((But.ofBelow hb2 : But (· = w.heap.size) w1 W2)).trans hbut2 (fun _ _ h => h)
      have hw1 : Below w.heap.size w w1 := ⟨hbut.os.trans hG.b.os, hbut.tape.trans hG.b.tape, hbut.output.trans hG.b.output, Nat.le_trans hG.b.size hbut.size, fun x hx => (hbut.block x (Nat.lt_of_lt_of_le hx hG.b.size) (by omega)).trans (hG.b.block x hx)⟩
      have hst := hG.step hok.out hkl hv hit (w2 := W2.setRow w.heap.size (vb (lays L (k * 512) (S.last k))).toArray) (below_setRow (bt hw1 hb2) (Nat.le_refl _) _) hB2 hbl (by omega) (setRow_heap _ _ _ _ _ _ ((hb2.block _ hlt1).trans hrow1))
      have HST := hide (And.intro hst hlf)
      rw [hW2] at hcp HST
      have hmul2 : IntKind.i64.wrap ((k : Int) * 512) = ((k * 512 : Nat) : Int) := by rw [wrapI (by omega) (by omega)]; omega
      clear hst hlf hB2 hbut2 hw1 hb2 hW2 hrow1 hbut hit hns hv hG hsz
      generalize S.last k = bb at *
      obtain ⟨oo, hoo⟩ : ∃ oo, oo = k * 512 := ⟨_, rfl⟩
      rw [← hoo] at hcp HST hmul2 hk5
      have HOO := hide hoo
      clear hoo
      have q1 : (oo : Int) ≤ (N : Int) := by omega
      have q2 : (0 : Int) ≤ (oo : Int) := by omega
      have q3 : oo ≠ N := by omega
      have q4 : ¬ N = oo := by omega
      go_wp2_with (refine wpList_store_row rfl 72 _ _ rfl w1.heap.size _ rfl rfl 72 zc (heap_alloc_last _ _) (sizeBlk (vb_size hkb.1)) (by rw [zc_size, vb_size hkb.1]) (vb_all _) ?_; rw [World.setRow_alloc_new])
      go_region_law (refine step_copyX rfl _ _ rfl (.slice (some ⟨w.heap.size, oo, none⟩) (N - oo) (N - oo)) (.slice (some ⟨w1.heap.size, 0, none⟩) 512 512) _ (by simp [Act.eval, Act.put]) (by simp [Act.eval, Act.put]) hcp ?_)
      go_wp2
      go_roundw
      case rel => exact ⟨_, _, HST.out.1.1⟩
      case measure => rw [HST.out.1.2]; exact HST.out.2
end
end Go.Proofs.Ytlflcdjaknnfaab
