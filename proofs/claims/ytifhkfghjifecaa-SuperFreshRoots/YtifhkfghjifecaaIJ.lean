import Derived.Test.YtifhkfghjifecaaIH
namespace Go.Proofs.Ytifhkfghjifecaa
open Go.RowKit

/-! ### all that a block says, in one struct -/
structure Pr where
  id : Nat
  r : Nat
  h : Nat
  n : Nat
structure Pt where
  mq : Nat
  gn : Nat
  bl : Nat
  cl : Nat
  rf : Nat
  nx : Nat
  mn : Nat
  rw : List Pr
def pr0 : Pr := ⟨0, 0, 0, 0⟩
def pt0 : Pt := ⟨0, 0, 0, 0, 0, 0, 0, []⟩
def Pr.c (r : Pr) : List Value := [.int .u32 (r.id : Int), .int .u32 (r.r : Int), .int .u8 (r.h : Int), .int .u32 (r.n : Int)]
def ph (p : Pt) : List Value := [.int .u32 (p.mq : Int), .int .u64 (p.gn : Int), .int .u32 (p.bl : Int), .int .u8 (p.cl : Int), .int .u32 (p.rf : Int), .int .u32 (p.nx : Int), .int .u8 (p.mn : Int)]
def pvs (R : List Pr) : List Value := R.flatMap Pr.c
def pfl (R : List Pr) : List Pr := R ++ List.replicate (16 - R.length) pr0
def pc (p : Pt) : Array Value := (ph p ++ pvs (pfl p.rw)).toArray
theorem pvs_append (a b : List Pr) : pvs (a ++ b) = pvs a ++ pvs b := by unfold pvs; rw [List.flatMap_append]
theorem pvs_cons (x : Pr) (r : List Pr) : pvs (x :: r) = x.c ++ pvs r := by unfold pvs; rw [List.flatMap_cons]
theorem pvs_length (R : List Pr) : (pvs R).length = 4 * R.length := by
  induction R with
  | nil => rfl
  | cons x r ih => rw [pvs_cons, List.length_append, ih, List.length_cons]; show 4 + _ = _; omega
theorem pfl_length {R : List Pr} (h : R.length ≤ 16) : (pfl R).length = 16 := by unfold pfl; rw [List.length_append, List.length_replicate]; omega
theorem pc_size {p : Pt} (h : p.rw.length ≤ 16) : (pc p).size = 71 := by
  unfold pc
  rw [List.size_toArray, List.length_append, pvs_length, pfl_length h]
  rfl
theorem pc_all (p : Pt) : (pc p).all (·.oneCell') = true := by
  refine all_oneCell_toArray fun v hv => ?_
  rcases List.mem_append.1 hv with h | h
  · unfold ph at h
    simp only [List.mem_cons, List.not_mem_nil, or_false] at h
    rcases h with rfl | rfl | rfl | rfl | rfl | rfl | rfl <;> rfl
  · obtain ⟨r, _, hr⟩ := List.mem_flatMap.1 h
    unfold Pr.c at hr
    simp only [List.mem_cons, List.not_mem_nil, or_false] at hr
    rcases hr with rfl | rfl | rfl | rfl <;> rfl
theorem infoParts : (Try.prog.info? 48).map (fun i => (i.zero, i.size)) = some (some (.agg (pc pt0)), 71) := by kernel_rfl
theorem zeroParts (w : World) : (zeroValue 48).run Try.prog w = .ok (.agg (pc pt0)) w := (zero_of_info infoParts).1 w
theorem sizeParts {p : Pt} (h : p.rw.length ≤ 16) : (Try.prog.info? 48).map (·.size) = some (pc p).size := by rw [pc_size h]; exact (zero_of_info infoParts).2
theorem sizeProw : (Try.prog.info? 45).map (·.size) = some 4 := by kernel_rfl
theorem pvs_get (R : List Pr) : ∀ (j i : Nat), j < R.length → i < 4 → (pvs R)[j * 4 + i]? = (R.getD j pr0).c[i]? := by
  induction R with
  | nil => intro j i hj; simp at hj
  | cons x r ih =>
    intro j i hj hi
    have hx : x.c.length = 4 := rfl
    rw [pvs_cons]
    cases j with
    | zero => rw [Nat.zero_mul, Nat.zero_add, List.getElem?_append_left (by omega)]; simp
    | succ j =>
      rw [List.getElem?_append_right (by omega), hx, show (j + 1) * 4 + i - 4 = j * 4 + i by omega, ih j i (by simpa using hj) hi]
      simp
theorem pfl_get {R : List Pr} {j : Nat} (h : j < R.length) : (pfl R).getD j pr0 = R.getD j pr0 := by
  unfold pfl
  simp [List.getElem?_append_left h]
/-- the cells of a row -/
theorem pc_range {w : World} {t : TypeId} {g : Nat} {p : Pt} (h : Bx w t g (pc p)) (hl : p.rw.length ≤ 16) {j : Nat} (hj : j < p.rw.length) : w.rangeAt g (7 + j * 4) (p.rw.getD j pr0).c := by
  intro i v hv
  have hi : i < 4 := (List.getElem?_eq_some_iff.1 hv).1
  rw [cell_of_row _ _ _ _ _ _ h]
  unfold pc
  rw [List.getElem?_toArray, List.getElem?_append_right (by show 7 ≤ _; omega)]
  show (pvs (pfl p.rw))[7 + j * 4 + i - 7]? = some v
  rw [show 7 + j * 4 + i - 7 = j * 4 + i by omega, pvs_get _ j i (by rw [pfl_length hl]; omega) hi, pfl_get hj]
  exact hv
theorem pc_there {w : World} {t : TypeId} {g : Nat} {p : Pt} (h : Bx w t g (pc p)) (hl : p.rw.length ≤ 16) {j : Nat} (hj : j < 16) : w.there g (7 + j * 4) 4 := by
  intro i hi
  have hs := pc_size hl
  constructor
  · rw [cell_of_row _ _ _ _ _ _ h]
    simp [show 7 + j * 4 + i < (pc p).size by omega]
  · exact frozen_of_row _ _ _ _ _ h
theorem set4 (D : List Value) (x0 x1 x2 x3 v0 v1 v2 v3 : Value) (T : List Value) {k : Nat} (hk : k = D.length) :
    (((((D ++ x0 :: x1 :: x2 :: x3 :: T).toArray.setIfInBounds k v0).setIfInBounds (k + 1) v1).setIfInBounds (k + 2) v2).setIfInBounds (k + 3) v3) = (D ++ v0 :: v1 :: v2 :: v3 :: T).toArray := by
  subst hk
  have e : ∀ (i : Nat) (v : Value) (X : List Value), (D ++ X).toArray.setIfInBounds (D.length + i) v = (D ++ X.set i v).toArray := fun i v X => by
    rw [List.setIfInBounds_toArray, List.set_append_right _ _ (by omega), Nat.add_sub_cancel_left]
  have e0 := e 0 v0 (x0 :: x1 :: x2 :: x3 :: T)
  rw [Nat.add_zero] at e0
  rw [e0, e, e, e]
  rfl
/-- one row more is filled -/
theorem pc_set {p : Pt} {j : Nat} (hj : p.rw.length = j) (h16 : j < 16) (r : Pr) : ((((((pc p).setIfInBounds (7 + j * 4) (.int .u32 (r.id : Int))).setIfInBounds (7 + j * 4 + 1) (.int .u32 (r.r : Int))).setIfInBounds (7 + j * 4 + 2) (.int .u8 (r.h : Int)))).setIfInBounds (7 + j * 4 + 3) (.int .u32 (r.n : Int))) = pc ⟨p.mq, p.gn, p.bl, p.cl, p.rf, p.nx, p.mn, p.rw ++ [r]⟩ := by
  subst hj
  have e : pc p = ((ph p ++ pvs p.rw) ++ (.int .u32 0 :: .int .u32 0 :: .int .u8 0 :: .int .u32 0 :: pvs (List.replicate (16 - (p.rw.length + 1)) pr0))).toArray := by
    unfold pc pfl
    rw [pvs_append, show 16 - p.rw.length = (16 - (p.rw.length + 1)) + 1 by omega, List.replicate_succ, pvs_cons, List.append_assoc]
    rfl
  rw [e, set4 _ _ _ _ _ _ _ _ _ _ (by rw [List.length_append, pvs_length]; show _ = 7 + _; omega)]
  unfold pc pfl
  rw [pvs_append, pvs_append, List.length_append]
  simp only [List.append_assoc, List.length_singleton]
  rfl
set_option maxHeartbeats 800000 in
theorem has_any (w : World) (p : Pt) (hm : p.mn < 256) : Calls Try.prog 33 #[.agg (pc p)] w fun e w' => e = .returned (.int .i64 ((min p.mn 16 : Nat) : Int)) ∧ Below w.heap.size w w' := by
  have HA := hide (al w (.cells (pc p) 48))
  have c6 := (Bx.new w 48 (pc p)).cell 6 (v := .int .u8 (p.mn : Int)) rfl
  have HM : Hid (((min p.mn 16 : Nat) : Int) = min ((p.mn : Nat) : Int) 16) := by show _ = _; omega
  generalize ((min p.mn 16 : Nat) : Int) = M at *
  generalize p.mn = m at *
  generalize pc p = C at *
  go_enter Try.func33, Try.ntmps33
  go_wp2
  · go_ret
    exact ⟨by rw [HM.out]; first | (rw [Int.min_eq_right (by omega)]; rfl) | (rw [Int.min_eq_left (by omega)]; rfl), HA.out⟩
  · go_ret
    exact ⟨by rw [HM.out]; first | (rw [Int.min_eq_right (by omega)]; rfl) | (rw [Int.min_eq_left (by omega)]; rfl), HA.out⟩
theorem buildParts (g b c f x n : Nat) (w : World) : (Instr.build 48 #[(0, .int .u32 827346755), (1, .int .u64 (g : Int)), (2, .agg #[.int .u32 (b : Int), .int .u8 (c : Int), .int .u32 (f : Int)]), (3, .int .u32 (x : Int)), (4, .int .u8 (n : Int))]).run Try.prog w = .ok (.agg (pc ⟨827346755, g, b, c, f, x, n, []⟩)) w := run_build w 48 _ _ (by kernel_rfl)
end Go.Proofs.Ytifhkfghjifecaa
