import Derived.Test.YtifhkfghjifecaaIN
import Derived.DeepKeys
namespace Go.Proofs.Ytifhkfghjifecaa
open Go.RowKit

/-! ### parts, compared -/
theorem keyInt (d : Nat) (t : TypeId) (q : IntKind) (n : Int) (hu : Try.prog.underlying t = some (.int q)) (hw : (Lit.int q n).wf = true) : Try.prog.keyLits (d + 1) t [.int q n] = some [.int q n] := by simp [Program.keyLits, hu, hw]
theorem wf32 {n : Nat} (h : n < 4294967296) : (Lit.int .u32 (n : Int)).wf = true := by
  have h1 : IntKind.u32.min = 0 := rfl
  have h2 : IntKind.u32.max = 4294967295 := rfl
  simp [Lit.wf, h1, h2]
  omega
theorem wf8 {n : Nat} (h : n < 256) : (Lit.int .u8 (n : Int)).wf = true := by
  have h1 : IntKind.u8.min = 0 := rfl
  have h2 : IntKind.u8.max = 255 := rfl
  simp [Lit.wf, h1, h2]
  omega
theorem wf64 {n : Nat} (h : n < 18446744073709551616) : (Lit.int .u64 (n : Int)).wf = true := by
  have h1 : IntKind.u64.min = 0 := rfl
  have h2 : IntKind.u64.max = 18446744073709551615 := rfl
  simp [Lit.wf, h1, h2]
  omega
theorem cellsU32 : Try.prog.cellsOf 40 = 1 := by kernel_rfl
theorem cellsU8' : Try.prog.cellsOf 5 = 1 := by kernel_rfl
theorem cellsU64 : Try.prog.cellsOf 41 = 1 := by kernel_rfl
theorem cellsProw : Try.prog.cellsOf 45 = 4 := by kernel_rfl
theorem cellsPcfg : Try.prog.cellsOf 43 = 3 := by kernel_rfl
theorem cellsArr : Try.prog.cellsOf 46 = 64 := by kernel_rfl
theorem cellsParts : Try.prog.cellsOf 48 = 71 := by kernel_rfl
def Pr.ok (r : Pr) : Prop := r.id < 4294967296 ∧ r.r < 4294967296 ∧ r.h < 256 ∧ r.n < 4294967296
theorem keyRow (d : Nat) (r : Pr) (h : r.ok) : Try.prog.keyLits (d + 2) 45 r.c = some [.int .u32 (r.id : Int), .int .u32 (r.r : Int), .int .u8 (r.h : Int), .int .u32 (r.n : Int)] := by
  obtain ⟨h1, h2, h3, h4⟩ := h
  have k1 := keyInt d 40 .u32 (r.id : Int) Try.underlying40 (wf32 h1)
  have k2 := keyInt d 40 .u32 (r.r : Int) Try.underlying40 (wf32 h2)
  have k3 := keyInt d 5 .u8 (r.h : Int) Try.underlying5 (wf8 h3)
  have k4 := keyInt d 40 .u32 (r.n : Int) Try.underlying40 (wf32 h4)
  unfold Program.keyLits Pr.c
  simp [Try.underlying45, cellsProw, cellsU32, cellsU8', k1, k2, k3, k4]
theorem mapM_has {α β : Type} (f : α → Option β) : ∀ l : List α, (∀ x ∈ l, ∃ y, f x = some y) → ∃ ys, l.mapM f = some ys
  | [], _ => ⟨[], rfl⟩
  | x :: l, h => by
    obtain ⟨y, hy⟩ := h x (by simp)
    obtain ⟨ys, hys⟩ := mapM_has f l fun z hz => h z (by simp [hz])
    exact ⟨y :: ys, by simp [List.mapM_cons, hy, hys]⟩
theorem keyArr (d : Nat) (F : List Pr) (hl : F.length = 16) (h : ∀ r ∈ F, r.ok) : ∃ Lx, Try.prog.keyLits (d + 3) 46 (pvs F) = some Lx := by
  have hm : ∃ ys, (List.range 16).mapM (fun i => Try.prog.keyLits (d + 2) 45 (((pvs F).drop (i * 4)).take 4)) = some ys := by
    refine mapM_has _ _ fun i hi => ?_
    have hi' : i < 16 := List.mem_range.1 hi
    have e : ((pvs F).drop (i * 4)).take 4 = (F.getD i pr0).c := by
      apply List.ext_getElem?
      intro k
      by_cases hk : k < 4
      · rw [List.getElem?_take, if_pos hk, List.getElem?_drop, pvs_get F i k (by omega) hk]
      · rw [List.getElem?_take, if_neg hk, List.getElem?_eq_none (by show 4 ≤ k; omega)]
    rw [e]
    exact ⟨_, keyRow d _ (h _ (getD_memP (by omega)))⟩
  obtain ⟨ys, hys⟩ := hm
  refine ⟨ys.flatten, ?_⟩
  unfold Program.keyLits
  simp only [Try.underlying46, cellsArr, cellsProw]
  rw [if_pos (by rw [pvs_length, hl]), hys]
  rfl
theorem keyCfg (d b c f : Nat) (h1 : b < 4294967296) (h2 : c < 256) (h3 : f < 4294967296) : Try.prog.keyLits (d + 2) 43 [.int .u32 (b : Int), .int .u8 (c : Int), .int .u32 (f : Int)] = some [.int .u32 (b : Int), .int .u8 (c : Int), .int .u32 (f : Int)] := by
  have k1 := keyInt d 40 .u32 (b : Int) Try.underlying40 (wf32 h1)
  have k2 := keyInt d 5 .u8 (c : Int) Try.underlying5 (wf8 h2)
  have k3 := keyInt d 40 .u32 (f : Int) Try.underlying40 (wf32 h3)
  unfold Program.keyLits
  simp [Try.underlying43, cellsPcfg, cellsU32, cellsU8', k1, k2, k3]
def hdL (p : Pt) : List Lit := [.int .u32 (p.mq : Int), .int .u64 (p.gn : Int), .int .u32 (p.bl : Int), .int .u8 (p.cl : Int), .int .u32 (p.rf : Int), .int .u32 (p.nx : Int), .int .u8 (p.mn : Int)]
structure Pt.hd (p : Pt) : Prop where
  mq : p.mq < 4294967296
  gn : p.gn < 18446744073709551616
  bl : p.bl < 4294967296
  cl : p.cl < 256
  rf : p.rf < 4294967296
  nx : p.nx < 4294967296
  mn : p.mn < 256
theorem keyParts (d : Nat) (p : Pt) (h : p.hd) (hl : p.rw.length ≤ 16) (Lx : List Lit) (hx : Try.prog.keyLits (d + 3) 46 (pvs (pfl p.rw)) = some Lx) : Try.prog.keyLits (d + 4) 48 (pc p).toList = some (hdL p ++ Lx) := by
  have k0 := keyInt (d + 2) 40 .u32 (p.mq : Int) Try.underlying40 (wf32 h.mq)
  have k1 := keyInt (d + 2) 41 .u64 (p.gn : Int) Try.underlying41 (wf64 h.gn)
  have k2 := keyCfg (d + 1) p.bl p.cl p.rf h.bl h.cl h.rf
  have k3 := keyInt (d + 2) 40 .u32 (p.nx : Int) Try.underlying40 (wf32 h.nx)
  have k4 := keyInt (d + 2) 5 .u8 (p.mn : Int) Try.underlying5 (wf8 h.mn)
  have hlen : (pvs (pfl p.rw)).length = 64 := by rw [pvs_length, pfl_length hl]
  have ht : (pvs (pfl p.rw)).take 64 = pvs (pfl p.rw) := List.take_of_length_le (by omega)
  unfold pc ph
  generalize pvs (pfl p.rw) = X at *
  unfold Program.keyLits hdL
  simp [Try.underlying48, cellsParts, cellsArr, cellsPcfg, cellsU32, cellsU8', cellsU64, hlen, ht, k0, k1, k2, k3, k4, hx]
theorem hdL_iff {p q : Pt} : hdL p = hdL q ↔ p.mq = q.mq ∧ p.gn = q.gn ∧ p.bl = q.bl ∧ p.cl = q.cl ∧ p.rf = q.rf ∧ p.nx = q.nx ∧ p.mn = q.mn := by
  unfold hdL
  simp only [List.cons.injEq, Lit.int.injEq, true_and, and_true]
  omega
theorem keyPartsT : Try.prog.keyTypeAt 5 48 = true := by kernel_rfl
theorem pfl_ok {R : List Pr} (h : ∀ r ∈ R, r.ok) : ∀ r ∈ pfl R, r.ok := by
  intro r hr
  rcases List.mem_append.1 hr with h1 | h1
  · exact h r h1
  · rw [(List.mem_replicate.1 h1).2]
    unfold Pr.ok pr0
    decide
/-- parts with the same rows -/
theorem ne_parts (p q : Pt) (hp : p.hd) (hq : q.hd) (hr : p.rw = q.rw) (hl : q.rw.length ≤ 16) (ho : ∀ r ∈ q.rw, r.ok) (w : World) :
    ∃ r : Bool, (binOp .neq 48 (.agg (pc p)) (.agg (pc q))).run Try.prog w = .ok (.bool (!r)) w ∧ (r = true ↔ p.mq = q.mq ∧ p.gn = q.gn ∧ p.bl = q.bl ∧ p.cl = q.cl ∧ p.rf = q.rf ∧ p.nx = q.nx ∧ p.mn = q.mn) := by
  obtain ⟨Lx, hx⟩ := keyArr 0 (pfl q.rw) (pfl_length hl) (pfl_ok ho)
  have kp := keyParts 0 p hp (by rw [hr]; exact hl) Lx (by rw [hr]; exact hx)
  have kq := keyParts 0 q hq hl Lx hx
  have fm : ∀ xs : Array Value, xs.size = 71 → (Value.agg xs).formed Try.prog 48 = true := fun xs hs => by simp [Value.formed, Try.underlying48, cellsParts, hs]
  obtain ⟨r, hrun, hiff⟩ := run_equalIn_deep (P := Try.prog) 9995 5 48 keyPartsT w 4 4 (.agg (pc p)) (.agg (pc q)) _ _ (fm _ (pc_size (by rw [hr]; exact hl))) (fm _ (pc_size hl)) kp kq
  refine ⟨r, ?_, ?_⟩
  · rw [run_neq_struct]
    show ((Op.equalIn (9995 + 5) 48 (.agg (pc p)) (.agg (pc q))).run Try.prog w).andThen _ = _
    rw [hrun]
    rfl
  · rw [hiff, List.append_left_inj, hdL_iff]
end Go.Proofs.Ytifhkfghjifecaa
