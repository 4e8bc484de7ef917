import Derived.Test.YtifhkfghjifecaaIP
namespace Go.Proofs.Ytifhkfghjifecaa
open Go.RowKit

/-! ### Encode -/
theorem pH_of (s : Su) : pH (ptOf s) ++ prsB (ptOf s).rw = sB s := by
  unfold pH ptOf sB hB
  have e : prsB (s.rs.map prOf) = rsB s.rs := by
    unfold prsB rsB
    rw [List.flatMap_map]
    rfl
  simp only [e, List.nil_append, List.append_assoc]
theorem ptOf_fit {s : Su} (h : Ok s) : (ptOf s).fit := by
  have hg := h.g
  have hb := h.b
  have hc := h.c
  have hf := h.f
  have hx := h.x
  have hl := h.l
  refine ⟨by show 827346755 < _; decide, by show s.gen.toNat < _; omega, by show s.bl.toNat < _; omega, by show s.cl.toNat < _; omega, by show s.rf.toNat < _; omega, by show s.nx.toNat < _; omega, by show s.rs.length = (s.rs.map prOf).length; rw [List.length_map], by show (s.rs.map prOf).length ≤ 16; rw [List.length_map]; exact hl, ?_⟩
  intro r hr
  obtain ⟨t, ht, rfl⟩ := List.mem_map.1 hr
  have := h.r t ht
  unfold prOf
  dsimp only
  omega
def enB (s : Su) : List Nat := if chE s = 0 then lay s else []
theorem enB_ok {s : Su} (h : chE s = 0) : enB s = lay s := by unfold enB; rw [if_pos h]
theorem enB_no {s : Su} (h : chE s ≠ 0) : enB s = [] := by unfold enB; rw [if_neg h]
theorem enB_b8 (s : Su) : B8 (enB s) := by
  unfold enB
  split
  · exact lay_b8 s
  · exact B8.nil
/-- what Encode answers -/
def EnQ (w : World) (s : Su) (y : Ending) (w' : World) : Prop := ∃ a c, y = .returned (.tuple #[.slice a (enB s).length c, .int .i64 (chE s : Int)]) ∧ Own w w' a c (enB s)
set_option maxRecDepth 8000 in
set_option maxHeartbeats 3200000 in
theorem Encode_any (w : World) (s : Su) (a : Option Addr) (c : Nat) (hI : Js w a s.rs) (hl : s.rs.length ≤ 4398046511000) :
    Calls Try.prog 26 #[suv s a c] w (EnQ w s) := by
  have HA := hide (al w (.cells (suC s a c) 28))
  have HB := hide (Bx.new w 28 (suC s a c))
  have CH := hide fun (w1 : World) (hb : Below w.heap.size w w1) => Check_any w1 s a c (hI.keep hb) hl
  unfold EnQ
  by_cases h0 : chE s = 0
  · have hok := chE_ok h0
    have PO := hide fun (w1 : World) (hb : Below w.heap.size w w1) => partsOf_any w1 s a c (hI.keep hb) hok
    have PB := hide fun (w1 : World) => Pblock_any w1 (ptOf s) (ptOf_fit hok)
    rw [pH_of, show summed (sB s) = lay s from rfl] at PB
    have HLL := hide (lay_length hok.l)
    have HEB := hide (enB_ok h0)
    have HC0 := hide h0
    rw [h0] at CH
    clear h0 hok hI hl
    unfold suv suC at *
    go_enter Try.func26, Try.ntmps26
    go_wp2_with fail
    refine (CH.out _ HA.out).mono ?_
    rintro y w1 ⟨rfl, hb⟩
    have HL := hide (bt HA.out hb)
    have HB := hide (HB.out.keep hb)
    clear hb
    go_wp2_with (refine wpList_load_row rfl 28 _ rfl w.heap.size rfl 28 _ (0, 0) _ HB.out Try.underlying28 rfl sizeSuper ?_)
    refine (PO.out _ HL.out).mono ?_
    rintro y w2 ⟨rfl, hb⟩
    have HL := hide (bt HL.out hb)
    clear hb PO
    go_wp2_with fail
    refine (PB.out _).mono ?_
    rintro y w3 ⟨a3, c3, rfl, hO⟩
    have O3 := hide (Own.pre HL.out hO)
    clear hO PB
    go_wp2
    go_ret2
    refine ⟨a3, c3, ?_, by rw [HEB.out]; exact O3.out⟩
    rw [HEB.out, HC0.out, HLL.out]
    rfl
  · have HEB := hide (enB_no h0)
    have h0' : ((chE s : Int) == 0) = false := by simpa using h0
    have h0'' : ¬ chE s = 0 := h0
    clear h0 hI hl
    generalize chE s = e at *
    unfold suv suC at *
    go_enter Try.func26, Try.ntmps26
    go_wp2_with fail
    refine (CH.out _ HA.out).mono ?_
    rintro y w1 ⟨rfl, hb⟩
    have HL := hide (bt HA.out hb)
    clear hb
    go_wp2
    go_ret2
    refine ⟨none, 0, ?_, by rw [HEB.out]; exact ⟨Rw.nil _, New.none _ _, HL.out⟩⟩
    rw [HEB.out]
    rfl

/-! ### Decode -/
theorem zerosFin (Z : List Nat) : ((⟨Z, 0⟩ : RS).zeros).fin = if Z.all (· == 0) = true then 0 else 5 := by
  unfold RS.zeros RS.zerosE
  dsimp only
  cases h : Z.all (· == 0) <;> simp [RS.fin]
theorem suOf_said (D : List Nat) : suOf (said D) = rS D (min (nv D 25 1) 16) := by
  unfold suOf said rS
  dsimp only
  have e : (rPs D (min (nv D 25 1) 16)).map roOf = rRs D (min (nv D 25 1) 16) := by
    unfold rPs rRs
    rw [List.map_map]
    rfl
  rw [e]
theorem okD_min (D : List Nat) : okD D = true ↔ (D.drop (26 + 13 * min (nv D 25 1) 16)).all (· == 0) = true ∧ chE (rS D (min (nv D 25 1) 16)) = 0 ∧ nv D 0 4 = 827346755 ∧ nv D 25 1 ≤ 16 := by
  rw [okD_iff]
  constructor
  · rintro ⟨h1, h2, h3, h4⟩
    rw [Nat.min_eq_left h1]
    exact ⟨h4, h2, h3, h1⟩
  · rintro ⟨h4, h2, h3, h1⟩
    rw [Nat.min_eq_left h1] at h2 h4
    exact ⟨h1, h2, h3, h4⟩
theorem said_nums {D : List Nat} (h8 : B8 D) : (said D).nums := by
  refine ⟨nv_lt h8 0 4, nv_lt h8 4 8, nv_lt h8 12 4, nv_lt h8 16 1, nv_lt h8 17 4, nv_lt h8 21 4, nv_lt h8 25 1, rPs_length _ _, ?_⟩
  intro r hr
  obtain ⟨j, _, rfl⟩ := List.mem_map.1 hr
  exact ⟨nv_lt h8 _ 4, nv_lt h8 _ 4, nv_lt h8 _ 1, nv_lt h8 _ 4⟩
/-- are the parts of what was read those that were read? -/
theorem ne_said {D : List Nat} (h8 : B8 D) (h0 : chE (suOf (said D)) = 0) (w : World) :
    (binOp .neq 48 (.agg (pc (ptOf (suOf (said D))))) (.agg (pc (said D)))).run Try.prog w = .ok (.bool (!(decide (nv D 0 4 = 827346755) && decide (nv D 25 1 ≤ 16)))) w := by
  have hs := said_nums h8
  have hf := ptOf_fit (chE_ok h0)
  have hgn : nv D 4 8 < 9223372036854775808 := by
    rw [suOf_said] at h0
    exact gen_lt h8 h0
  have e0 : (ptOf (suOf (said D))).gn = (said D).gn := by
    show (i64w (nv D 4 8)).toNat = nv D 4 8
    unfold i64w
    rw [if_pos hgn]
    rfl
  have e1 : (ptOf (suOf (said D))).rw = (said D).rw := by
    show ((said D).rw.map roOf).map prOf = (said D).rw
    rw [List.map_map]
    refine (List.map_congr_left fun r _ => ?_).trans (List.map_id _)
    rfl
  have e2 : (ptOf (suOf (said D))).mn = min (nv D 25 1) 16 := by
    show ((said D).rw.map roOf).length = _
    rw [List.length_map]
    exact rPs_length _ _
  obtain ⟨r, hr, hiff⟩ := ne_parts (ptOf (suOf (said D))) (said D) ⟨hf.mq, hf.gn, hf.bl, hf.cl, hf.rf, hf.nx, by rw [e2]; omega⟩ ⟨hs.mq, hs.gn, hs.bl, hs.cl, hs.rf, hs.nx, hs.mn⟩ e1 (by rw [hs.l]; omega) hs.r w
  rw [hr]
  have : r = (decide (nv D 0 4 = 827346755) && decide (nv D 25 1 ≤ 16)) := by
    rw [Bool.eq_iff_iff, hiff]
    simp only [Bool.and_eq_true, decide_eq_true_eq]
    constructor
    · rintro ⟨h1, _, _, _, _, _, h7⟩
      rw [e2] at h7
      exact ⟨h1.symm, by have : min (nv D 25 1) 16 = nv D 25 1 := h7; omega⟩
    · rintro ⟨h1, h2⟩
      exact ⟨h1.symm, e0, rfl, rfl, rfl, rfl, by rw [e2]; exact Nat.min_eq_left h2⟩
  rw [this]
/-- what Decode answers -/
def DeQ (w : World) (b : List Nat) (y : Ending) (w' : World) : Prop := ∃ a c, y = .returned (.tuple #[suv (deS b) a c, .int .i64 (deE b : Int)]) ∧ JOwn w w' a c (deS b).rs
theorem deQ_err {w w' : World} {b : List Nat} (h : deE b ≠ 0) (hb : Below w.heap.size w w') : DeQ w b (.returned (.tuple #[.agg z6, .int .i64 (deE b : Int)])) w' :=
  ⟨none, 0, by rw [deS_no h]; rfl, by rw [deS_no h]; exact JOwn.nil w hb⟩
set_option maxRecDepth 8000 in
set_option maxHeartbeats 1600000 in
theorem Decode_len (w : World) (a : Option Addr) (n c : Nat) (b : List Nat) (hn : n = b.length) (hl : b.length ≠ 512) : Calls Try.prog 5 #[.slice a n c] w (DeQ w b) := by
  have h1 : deE b = 1 := by unfold deE; rw [if_pos hl]
  have HD := hide (fun w' hb => deQ_err (w := w) (w' := w') (b := b) (by rw [h1]; decide) hb)
  rw [h1] at HD
  have hn5 : (((n : Nat) : Int) == 512) = false := by simp; omega
  have hn6 : ¬ n = 512 := by omega
  have HX := hide (Bx.new w 28 z6)
  have HA := hide (al w (.cells z6 28))
  clear h1 hl hn
  unfold z6 at *
  go_enter Try.func5, Try.ntmps5
  go_wp2_with (refine wpList_store_row rfl 28 _ _ rfl w.heap.size _ rfl rfl 28 _ HX.out sizeSuper rfl (by simp [Value.oneCell']) ?_)
  refine bodyPost_ret (v := .tuple #[.agg _, _]) (results_cell_one Try.results5 _ _ w.heap.size 28 _ (0, 0) _ rfl (setRow_heap _ _ _ _ _ _ HX.out) Try.underlying28 rfl sizeSuper) rfl ?_
  exact HD.out _ (below_setRow HA.out (Nat.le_refl _) _)
set_option maxRecDepth 8000 in
set_option maxHeartbeats 1600000 in
theorem Decode_sum (w : World) (a : Option Addr) (c : Nat) (b : List Nat) (hB : Bs w a b) (hl : b.length = 512) (hc : 512 ≤ c) (hs : numV (b.drop 508) ≠ M.of (b.take 508)) : Calls Try.prog 5 #[.slice a 512 c] w (DeQ w b) := by
  have h1 : deE b = 6 := by unfold deE; rw [if_neg (by rw [hl]; simp), if_pos hs]
  have HD := hide (fun w' hb => deQ_err (w := w) (w' := w') (b := b) (by rw [h1]; decide) hb)
  rw [h1] at HD
  have HX := hide (Bx.new w 28 z6)
  have HA := hide (al w (.cells z6 28))
  have ON := hide (Open_no _ a c b (hB.keep HA.out) hl hc hs)
  clear h1 hl hB hs
  unfold z6 at *
  go_enter Try.func5, Try.ntmps5
  go_wp2_with fail
  refine ON.out.mono ?_
  rintro y w1 ⟨rfl, hb⟩
  have HX := hide (HX.out.keep hb)
  have HA := hide (bt HA.out hb)
  clear hb ON
  go_wp2_with (refine wpList_store_row rfl 28 _ _ rfl w.heap.size _ rfl rfl 28 _ HX.out sizeSuper rfl (by simp [Value.oneCell']) ?_)
  refine bodyPost_ret (v := .tuple #[.agg _, _]) (results_cell_one Try.results5 _ _ w.heap.size 28 _ (0, 0) _ rfl (setRow_heap _ _ _ _ _ _ HX.out) Try.underlying28 rfl sizeSuper) rfl ?_
  exact HD.out _ (below_setRow HA.out (Nat.le_refl _) _)
end Go.Proofs.Ytifhkfghjifecaa
