import Derived.Test.YtifhkfghjifecaaIJX
namespace Go.Proofs.Ytifhkfghjifecaa
open Go.RowKit

/-! ### the block -/
def prB (r : Pr) : List Nat := numB r.id 4 ++ (numB r.r 4 ++ (numB r.h 1 ++ numB r.n 4))
def prsB (R : List Pr) : List Nat := R.flatMap prB
theorem prB_length (r : Pr) : (prB r).length = 13 := by unfold prB; simp [numB_length]
theorem prsB_append (a b : List Pr) : prsB (a ++ b) = prsB a ++ prsB b := by unfold prsB; rw [List.flatMap_append]
theorem prsB_one (x : Pr) : prsB [x] = prB x := by unfold prsB; simp
theorem prsB_length (R : List Pr) : (prsB R).length = 13 * R.length := by
  induction R with
  | nil => rfl
  | cons x r ih =>
    have e : prsB (x :: r) = prB x ++ prsB r := by unfold prsB; rw [List.flatMap_cons]
    rw [e, List.length_append, ih, prB_length, List.length_cons]; omega
structure Pt.fit (p : Pt) : Prop where
  mq : p.mq < 4294967296
  gn : p.gn < 18446744073709551616
  bl : p.bl < 4294967296
  cl : p.cl < 256
  rf : p.rf < 4294967296
  nx : p.nx < 4294967296
  mn : p.mn = p.rw.length
  l : p.rw.length ≤ 16
  r : ∀ r ∈ p.rw, r.id < 4294967296 ∧ r.r < 4294967296 ∧ r.h < 256 ∧ r.n < 4294967296
def pH (p : Pt) : List Nat := [] ++ numB p.mq 4 ++ numB p.gn 8 ++ numB p.bl 4 ++ numB p.cl 1 ++ numB p.rf 4 ++ numB p.nx 4 ++ numB p.mn 1
theorem pH_length (p : Pt) : (pH p).length = 26 := by unfold pH; simp [numB_length]
def prU (R : List Pr) (k : Nat) : List Nat := prsB (R.take k)
theorem prU_zero (R : List Pr) : prU R 0 = [] := rfl
theorem prU_all (R : List Pr) : prU R R.length = prsB R := by unfold prU; rw [List.take_length]
theorem prU_length {R : List Pr} {k : Nat} (h : k ≤ R.length) : (prU R k).length = 13 * k := by unfold prU; rw [prsB_length, List.length_take]; omega
theorem prU_succ {R : List Pr} {k : Nat} (h : k < R.length) (l : List Nat) : l ++ prU R (k + 1) = l ++ prU R k ++ numB (R.getD k pr0).id 4 ++ numB (R.getD k pr0).r 4 ++ numB (R.getD k pr0).h 1 ++ numB (R.getD k pr0).n 4 := by
  unfold prU
  rw [List.take_succ_eq_append_getElem h, prsB_append, prsB_one]
  have e : R.getD k pr0 = R[k] := by simp [h]
  rw [e]
  unfold prB
  simp only [List.append_assoc]
theorem getD_memP {R : List Pr} {j : Nat} (h : j < R.length) : R.getD j pr0 ∈ R := by simp [h]
theorem Prow.box (w : World) (r : Pr) : Bx (w.alloc (.cells r.c.toArray 45)) 45 w.heap.size r.c.toArray := Bx.new w 45 r.c.toArray
theorem sliceRows (g n : Nat) (hn : n ≤ 16) (w : World) : (Instr.sliceAt 46 (.pointer (some ⟨g, 7, none⟩)) none (some (.int .i64 (n : Int))) none).run Try.prog w = .ok (.slice (some ⟨g, 7, none⟩) n 16) w := by
  have hu : Try.prog.underlying 46 = some (.array (Try.prog.arrayLen 46) (Try.prog.elem 46)) := by kernel_rfl
  have hl : Try.prog.arrayLen 46 = 16 := by kernel_rfl
  have he : Try.prog.elem 46 = 45 := by kernel_rfl
  rw [run_sliceAt_array_h w 46 ⟨g, 7, none⟩ hu .i64 (n : Int) (by omega) (by rw [hl]; omega), hl, he, Try.sizeOf45]
  simp [slicedAt, Addr.add_mid]
set_option maxRecDepth 8000 in
set_option maxHeartbeats 6400000 in
theorem Pblock_any (w : World) (p : Pt) (hf : p.fit) :
    Calls Try.prog 48 #[.agg (pc p)] w fun y w' => ∃ a c, y = .returned (.slice a 512 c) ∧ Own w w' a c (summed (pH p ++ prsB p.rw)) := by
  have HA := hide (al w (.cells (pc p) 48))
  have HB := hide (Bx.new w 48 (pc p))
  have HSP := hide (sizeParts hf.l)
  have hsl := sliceRows w.heap.size p.rw.length hf.l
  have HS := hide fun w1 => has_any w1 p (by have := hf.mn; have := hf.l; omega)
  have hmin : min p.mn 16 = p.rw.length := by have := hf.mn; have := hf.l; omega
  rw [hmin] at HS
  have HF := hide hf
  have HPH : Hid (pH p = [] ++ numB p.mq 4 ++ numB p.gn 8 ++ numB p.bl 4 ++ numB p.cl 1 ++ numB p.rf 4 ++ numB p.nx 4 ++ numB p.mn 1) := rfl
  have hl16 := hf.l
  have f_mq := hf.mq
  have f_gn := hf.gn
  have f_bl := hf.bl
  have f_cl := hf.cl
  have f_rf := hf.rf
  have f_nx := hf.nx
  have f_mn : p.mn < 256 := by have := hf.mn; omega
  clear hf hmin
  have HRG := hide fun (w1 : World) (hb : Below (w.alloc (.cells (pc p) 48)).heap.size (w.alloc (.cells (pc p) 48)) w1) (j : Nat) (hj : j < p.rw.length) => pc_range (HB.out.keep hb) hl16 hj
  have HCE := hide fun (w1 : World) (hb : Below (w.alloc (.cells (pc p) 48)).heap.size (w.alloc (.cells (pc p) 48)) w1) => HB.out.keep hb
  go_enter Try.func48, Try.ntmps48
  go_wp2_with fail
  generalize w.alloc (.cells (pc p) 48) = V at *
  refine (wNew V).mono ?_
  rintro y w0 ⟨rfl, hk⟩
  have K := hide hk
  clear hk
  have c0 := (HCE.out _ K.out.1).cell 0 (v := .int .u32 (p.mq : Int)) rfl
  go_wp2_with fail
  refine (wPut32 K.out (fun _ h => h.elim) p.mq f_mq (by simp)).mono ?_
  rintro y w1 ⟨rfl, hd⟩
  have K := hide hd.k
  clear hd c0
  have c1 := (HCE.out _ K.out.1).cell 1 (v := .int .u64 (p.gn : Int)) rfl
  go_wp2_with fail
  refine (wPut64 K.out (fun _ h => h.elim) p.gn f_gn (by simp only [List.length_append, numB_length, List.length_nil]; omega)).mono ?_
  rintro y w2 ⟨rfl, hd⟩
  have K := hide hd.k
  clear hd c1
  have c2 := (HCE.out _ K.out.1).cell 2 (v := .int .u32 (p.bl : Int)) rfl
  go_wp2_with fail
  refine (wPut32 K.out (fun _ h => h.elim) p.bl f_bl (by simp only [List.length_append, numB_length, List.length_nil]; omega)).mono ?_
  rintro y w3 ⟨rfl, hd⟩
  have K := hide hd.k
  clear hd c2
  have c3 := (HCE.out _ K.out.1).cell 3 (v := .int .u8 (p.cl : Int)) rfl
  go_wp2_with fail
  refine (wPut8 K.out (fun _ h => h.elim) p.cl f_cl (by simp only [List.length_append, numB_length, List.length_nil]; omega)).mono ?_
  rintro y w4 ⟨rfl, hd⟩
  have K := hide hd.k
  clear hd c3
  have c4 := (HCE.out _ K.out.1).cell 4 (v := .int .u32 (p.rf : Int)) rfl
  go_wp2_with fail
  refine (wPut32 K.out (fun _ h => h.elim) p.rf f_rf (by simp only [List.length_append, numB_length, List.length_nil]; omega)).mono ?_
  rintro y w5 ⟨rfl, hd⟩
  have K := hide hd.k
  clear hd c4
  have c5 := (HCE.out _ K.out.1).cell 5 (v := .int .u32 (p.nx : Int)) rfl
  go_wp2_with fail
  refine (wPut32 K.out (fun _ h => h.elim) p.nx f_nx (by simp only [List.length_append, numB_length, List.length_nil]; omega)).mono ?_
  rintro y w6 ⟨rfl, hd⟩
  have K := hide hd.k
  clear hd c5
  have c6 := (HCE.out _ K.out.1).cell 6 (v := .int .u8 (p.mn : Int)) rfl
  go_wp2_with fail
  refine (wPut8 K.out (fun _ h => h.elim) p.mn f_mn (by simp only [List.length_append, numB_length, List.length_nil]; omega)).mono ?_
  rintro y w7 ⟨rfl, hd⟩
  have K := hide hd.k
  clear hd c6
  rw [← HPH.out] at K
  have HBX := hide (HCE.out _ K.out.1)
  go_wp2_with (first
    | (refine wpList_load_row rfl 48 _ rfl w.heap.size rfl 48 (pc p) (0, 0) _ HBX.out Try.underlying48 rfl HSP.out ?_)
    | (go_at_call 33; refine (HS.out _).mono ?_; rintro y w8 ⟨rfl, hb⟩; have K := hide (K.out.keep hb); clear hb HBX))
  generalize hn : p.rw.length = n at *
  have HN := hide hn
  have hpr : Hid (∀ j, j < n → (p.rw.getD j pr0).id < 4294967296 ∧ (p.rw.getD j pr0).r < 4294967296 ∧ (p.rw.getD j pr0).h < 256 ∧ (p.rw.getD j pr0).n < 4294967296) := fun j hj => HF.out.r _ (getD_memP (by omega))
  have hni : (n : Int) ≤ 16 := by omega
  clear hn f_mq f_gn f_bl f_cl f_rf f_nx f_mn
  have hlp := pH_length p
  go_loopw [45] (fun q wx => ∃ j : Nat, j ≤ n ∧ q = .int .i64 j ∧ Wk V (fun _ => False) wx V.heap.size (pH p ++ prU p.rw j)) (fun q _ => n - (intOf q).toNat)
  case atStart => exact ⟨0, Nat.zero_le _, rfl, by rw [prU_zero, List.append_nil]; exact K.out⟩
  case round =>
    obtain ⟨j, hj, rfl, hH⟩ := hrel
    have K := hide hH
    clear hH
    by_cases hlt : j < n
    · have hlti : (j : Int) < (n : Int) := by omega
      have HC := hide (HRG.out _ K.out.1 j hlt)
      have SN := hide (prU_succ (R := p.rw) (k := j) (by have := HN.out; omega) (pH p))
      have hlen : (pH p ++ prU p.rw j).length = 26 + 13 * j := by rw [List.length_append, hlp, prU_length (by have := HN.out; omega)]
      obtain ⟨t1, t2, t3, t4⟩ := hpr.out j hlt
      generalize p.rw.getD j pr0 = r at *
      generalize pH p ++ prU p.rw j = l at *
      have KM := hide (K.out.more (al wr (.cells r.c.toArray 45)) (fun k => k = wr.heap.size) (fun k hk => .inr (Nat.le_of_eq hk.symm)))
      have HG0 : Hid (Gl (fun k => k = wr.heap.size) (wr.alloc (.cells r.c.toArray 45))) := by
        intro k hk
        rw [size_alloc, hk]
        omega
      have HBR := hide (Prow.box wr r)
      have HAL := hide (al wr (.cells r.c.toArray 45))
      have HW := hide K.out
      unfold Pr.c at HC KM HG0 HBR HAL
      clear K
      go_wp2_with (refine wpList_load_mid rfl 45 _ rfl w.heap.size (7 + j * 4) (by simp [Act.eval]) _ _ HC.out Try.underlying45 rfl sizeProw ?_)
      generalize wr.alloc (.cells #[.int .u32 (r.id : Int), .int .u32 (r.r : Int), .int .u8 (r.h : Int), .int .u32 (r.n : Int)] 45) = W2 at *
      refine (wPut32 KM.out HG0.out r.id t1 (by omega)).mono ?_
      rintro y x1 ⟨rfl, hd⟩
      have D := hide hd
      have b1 := Bx.cell (t := 45) (D.out.box HBR.out rfl) 1 (v := .int .u32 (r.r : Int)) rfl
      clear hd
      go_wp2_with fail
      refine (wPut32 D.out.k (D.out.gl HG0.out) r.r t2 (by rw [List.length_append, numB_length]; omega)).mono ?_
      rintro y x2 ⟨rfl, hd⟩
      have D := hide (D.out.trans hd)
      have b2 := Bx.cell (t := 45) (D.out.box HBR.out rfl) 2 (v := .int .u8 (r.h : Int)) rfl
      clear hd b1
      go_wp2_with fail
      refine (wPut8 D.out.k (D.out.gl HG0.out) r.h t3 (by rw [List.length_append, List.length_append, numB_length, numB_length]; omega)).mono ?_
      rintro y x3 ⟨rfl, hd⟩
      have D := hide (D.out.trans hd)
      have b3 := Bx.cell (t := 45) (D.out.box HBR.out rfl) 3 (v := .int .u32 (r.n : Int)) rfl
      clear hd b2
      go_wp2_with fail
      refine (wPut32 D.out.k (D.out.gl HG0.out) r.n t4 (by rw [List.length_append, List.length_append, List.length_append, numB_length, numB_length, numB_length]; omega)).mono ?_
      rintro y x4 ⟨rfl, hd⟩
      have D := hide (D.out.trans hd)
      have KF := hide (D.out.back HAL.out (G := fun _ => False) (fun k hk => hk.elim)).k
      clear hd b3
      go_wp2
      go_roundw
      case rel => exact ⟨j + 1, by omega, by go_num, by rw [SN.out]; exact KF.out⟩
      case measure => simp [intOf]; omega
    · obtain rfl : j = n := by omega
      have e : prU p.rw j = prsB p.rw := by rw [← HN.out]; exact prU_all _
      rw [e] at K
      have hlen : (pH p ++ prsB p.rw).length ≤ 508 := by rw [List.length_append, hlp, prsB_length]; have := HN.out; omega
      go_wp2_with fail
      refine (Close_any V _ (fun _ => False) V.heap.size _ K.out (fun _ h => h.elim) hlen).mono ?_
      rintro y x1 ⟨a, c, rfl, hR, hNw, hD⟩
      have HO : Hid (Own w x1 a c (summed (pH p ++ prsB p.rw))) := ⟨hR, hNw.mono (Nat.le_trans HA.out.size K.out.1.size), bt HA.out hD.k.1⟩
      clear hR hNw hD
      go_wp2
      go_ret
      exact ⟨a, c, rfl, HO.out⟩
end Go.Proofs.Ytifhkfghjifecaa
