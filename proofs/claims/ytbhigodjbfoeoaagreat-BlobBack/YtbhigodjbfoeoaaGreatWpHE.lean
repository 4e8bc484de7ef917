import Derived.Test.YtbhigodjbfoeoaaGreatWpHXA
import Derived.Test.YtbhigodjbfoeoaaGreatWpEXB
import Derived.Lib.SlBytesConst
namespace Go.Proofs.YtbhigodjbfoeoaaGreat
set_option linter.unusedVariables false
set_option linter.unusedSimpArgs false
open Go.RowKit
/-! ### a vault of three pages -/
def P3 : Q.Po := Q.Po.start 2 [0, 0, 0]
def S3 : Vs := Vs.start P3
theorem p3a : P3.alloc.1 = (1, 0) := by decide
theorem p3b : P3.alloc.2.alloc.1 = (2, 0) := by decide
theorem make_s {S : Vs} {p : Pg} {q : Pv} {n : Int} (hc : p.check = 0) (ha : S.X.P.alloc.1 = (n, 0)) : S.makeR p = (n, 0) ∧ S.makeS p q = ⟨S.X.allocd.lay n q, S.al ++ [(S.X.P.mark, S.X.ch.length)], S.fl⟩ := by
  constructor
  · unfold Vs.makeR
    rw [if_pos hc, ha]
  · unfold Vs.makeS
    rw [if_pos hc, ha]
    unfold Vs.done
    simp
theorem spr_two {l : List Nat} (h1 : 480 < l.length) (h2 : l.length ≤ 960) {S' : Vs} {nx : Int} (h : Spr l 2 S3 2 S' nx) : nx = 2 ∧ Chn S' l 2 2 2 ∧ S'.X.P = P3.alloc.2.alloc.2 := by
  obtain ⟨S1, n1, q1, ⟨S0, n0, q0, ⟨rfl, rfl⟩, g0, e0, rfl⟩, g1, e1, rfl⟩ := h
  obtain ⟨r0, s0⟩ := make_s (S := S3) (q := q0) (mkp_check (l := l) (i := 1) (nx := 0) (by omega) (by omega) (by omega)) p3a
  rw [show 2 - 1 - 0 = 1 from rfl] at e0 g0 ⊢
  rw [r0] at e0
  subst e0
  rw [show 2 - 1 - 1 = 0 from rfl] at e1 g1 ⊢
  have hp1 : (S3.makeS (mkp l 1 0) q0).X.P = P3.alloc.2 := by rw [s0]; rfl
  obtain ⟨r1, s1⟩ := make_s (S := S3.makeS (mkp l 1 0) q0) (q := q1) (mkp_check (l := l) (i := 0) (nx := 1) (by omega) (by omega) (by omega)) (by rw [hp1]; exact p3b)
  rw [r1] at e1
  subst e1
  have k0 : q0.kind = 3 := congrArg Pg.kind g0
  have k1 : q1.kind = 3 := congrArg Pg.kind g1
  have hP : ((S3.makeS (mkp l 1 0) q0).makeS (mkp l 0 1) q1).X.P = P3.alloc.2.alloc.2 := by
    rw [s1]
    show (S3.makeS (mkp l 1 0) q0).X.P.alloc.2 = _
    rw [hp1]
  have hF : ((S3.makeS (mkp l 1 0) q0).makeS (mkp l 0 1) q1).X.f = fput (fput (fun _ => none) 1 q0) 2 q1 := by
    rw [s1, s0]
    rfl
  have o2 : ((S3.makeS (mkp l 1 0) q0).makeS (mkp l 0 1) q1).X.on 2 = q1 := by
    unfold Vm.on
    rw [hF]
    simp [fput, k1]
  have o1 : ((S3.makeS (mkp l 1 0) q0).makeS (mkp l 0 1) q1).X.on 1 = q0 := by
    unfold Vm.on
    rw [hF]
    simp [fput, k0]
  have c2 : 0 < P3.alloc.2.alloc.2.count 2 := by decide
  have c1 : 0 < P3.alloc.2.alloc.2.count 1 := by decide
  refine ⟨rfl, ⟨by rw [hP]; exact c2, 1, by rw [o2]; exact g1, by simp, ⟨by rw [hP]; exact c1, 0, by rw [o1]; exact g0, by simp, rfl⟩⟩, hP⟩
theorem ok_two {l : List Nat} (h1 : 480 < l.length) (h2 : l.length ≤ 960) : ∀ m S1 n1, m < 2 → Spr l 2 S3 m S1 n1 → (S1.makeR (mkp l (2 - 1 - m) n1)).2 = 0 ∧ N64 n1 ∧ S1.X.P.mark + 1 ≤ 17592186044416 ∧ S1.X.ch.length + 1 ≤ 1759218604441 ∧ S1.al.length + 1 ≤ 8796093022208 := by
  intro m S1 n1 hm h
  cases m with
  | zero =>
    obtain ⟨rfl, rfl⟩ := h
    rw [show 2 - 1 - 0 = 1 from rfl, (make_s (S := S3) (q := Pv.zero) (mkp_check (l := l) (i := 1) (nx := 0) (by omega) (by omega) (by omega)) p3a).1]
    exact ⟨rfl, by simp [N64], by decide, by decide, by decide⟩
  | succ m =>
    cases m with
    | zero =>
      obtain ⟨S0, n0, q0, ⟨rfl, rfl⟩, g0, e0, rfl⟩ := h
      obtain ⟨r0, s0⟩ := make_s (S := S3) (q := q0) (mkp_check (l := l) (i := 1) (nx := 0) (by omega) (by omega) (by omega)) p3a
      rw [show 2 - 1 - 0 = 1 from rfl] at e0 ⊢
      rw [r0] at e0
      subst e0
      have hp1 : (S3.makeS (mkp l 1 0) q0).X.P = P3.alloc.2 := by rw [s0]; rfl
      rw [show 2 - 1 - (0 + 1) = 0 from rfl, (make_s (S := S3.makeS (mkp l 1 0) q0) (q := Pv.zero) (mkp_check (l := l) (i := 0) (nx := 1) (by omega) (by omega) (by omega)) (by rw [hp1]; exact p3b)).1]
      rw [hp1]
      refine ⟨rfl, by simp [N64], by decide, ?_, ?_⟩
      · rw [s0]; show (([] : List (Int × Pv)) ++ [_]).length + 1 ≤ _; simp
      · rw [s0]; show (([] : List (Nat × Nat)) ++ [_]).length + 1 ≤ _; simp
    | succ m => omega
def l500 : List Nat := List.replicate 499 0 ++ [7]
theorem l500_len : l500.length = 500 := by rw [l500, List.length_append, List.length_replicate]; rfl
theorem l500_b8 : B8 l500 := fun x hx => by
  unfold l500 at hx
  rcases List.mem_append.1 hx with h | h
  · have := List.eq_of_mem_replicate h; omega
  · have := List.mem_singleton.1 h; omega
theorem made_at : (madeCells #[.int .u8 0] 500)[499]? = some (.int .u8 0) := by kernel_rfl
theorem l500_at : l500.getD 499 0 = 7 := by kernel_rfl
theorem l500_vb : ((madeCells #[.int .u8 0] 500).setIfInBounds 499 (.int .u8 7)).toList.take 500 = vb l500 := by kernel_rfl
theorem l500_row {w : World} {g : Nat} (h : w.heap[g]? = some (.cells ((madeCells #[.int .u8 0] 500).setIfInBounds 499 (.int .u8 7)) 5 (0, 0))) : Rw w (some ⟨g, 0, none⟩) 500 l500 := by
  refine Rw.mk h (by rw [l500_len]; omega) (by decide) (by rw [Array.size_setIfInBounds, size_madeCells]) ?_
  rw [l500_len]
  exact l500_vb
end Go.Proofs.YtbhigodjbfoeoaaGreat
