import Derived.Test.YtifhkfghjifecaaIQ
import Derived.Deep.RegionHeld3
import Derived.Deep.RegionHeldLaw
namespace Go.Proofs.Ytifhkfghjifecaa
open Go.RowKit

theorem Bx.rng {w : World} {t : TypeId} {g : Nat} {cs : Array Value} (h : Bx w t g cs) : w.rangeAt g 0 cs.toList := by
  have := World.rangeAt_of_block h 0 cs.size
  simpa using this
theorem su_six {w : World} {g : Nat} {u : Su} {a : Option Addr} {c : Nat} (h : Bx w 28 g (suC u a c)) : w.cell? ⟨g, 0, none⟩ = some (.int .i64 u.gen) ∧ w.cell? ⟨g, 1, none⟩ = some (.int .i64 u.bl) ∧ w.cell? ⟨g, 2, none⟩ = some (.int .i64 u.cl) ∧ w.cell? ⟨g, 3, none⟩ = some (.int .i64 u.rf) ∧ w.cell? ⟨g, 4, none⟩ = some (.int .i64 u.nx) ∧ w.cell? ⟨g, 5, none⟩ = some (.slice a u.rs.length c) :=
  ⟨h.cell 0 rfl, h.cell 1 rfl, h.cell 2 rfl, h.cell 3 rfl, h.cell 4 rfl, h.cell 5 rfl⟩
theorem yieldsIf_load_arr {ops : Array Oper} {S : World → Prop} {op : Oper} {a : Act} (hw : Region.wanted op (yielded ops a.tmps) = true) (ty : TypeId) (x : Operand) (ho : op.op = .load ty x)
    (b o : Nat) (hx : a.eval x = .pointer (some ⟨b, o, none⟩)) (cs : Array Value) (d : TypeDesc) (hS : ∀ w, S w → w.rangeAt b o cs.toList)
    (hu : Try.prog.underlying ty = some d) (hd : d.isRow = true) (hi : (Try.prog.info? ty).map (·.size) = some cs.toList.length) : YieldsIf Try.prog ops S op (.agg cs) a := by
  have h := yieldsIf_load_mid hw ty x ho b o hx cs.toList d hS hu hd hi
  rwa [Array.toArray_toList] at h
/-- all that the walk holds when the block is read -/
structure Dr (w W : World) (rb gp gs : Nat) (s : RS) (p : Pt) (u : Su) (a : Option Addr) (c : Nat) : Prop where
  o : Bx W 28 w.heap.size z6
  k : ∃ v, Rk v W rb s
  p : Bx W 48 gp (pc p)
  s : Bx W 28 gs (suC u a c)
  r : JOwn w W a c u.rs
theorem Dr.keep {w W W' : World} {rb gp gs : Nat} {s : RS} {p : Pt} {u : Su} {a : Option Addr} {c : Nat} (h : Dr w W rb gp gs s p u a c) (hb : Below W.heap.size W W') : Dr w W' rb gp gs s p u a c :=
  ⟨h.o.keep hb, h.k.imp fun _ k => k.keep hb, h.p.keep hb, h.s.keep hb, h.r.keep hb⟩
theorem JOwn.pre {w w0 wx : World} {a : Option Addr} {cap : Nat} {L : List Ro} (hb : Below w.heap.size w w0) (h : JOwn w0 wx a cap L) : JOwn w wx a cap L := ⟨h.r, h.n.mono hb.size, bt hb h.b⟩
set_option maxRecDepth 8000 in
set_option maxHeartbeats 6400000 in
theorem Decode_zer (w : World) (a : Option Addr) (c : Nat) (b : List Nat) (hB : Bs w a b) (hl : b.length = 512) (hc : 512 ≤ c) (hs : numV (b.drop 508) = M.of (b.take 508)) (hZ : ((b.take 508).drop (26 + 13 * min (nv (b.take 508) 25 1) 16)).all (· == 0) = false) : Calls Try.prog 5 #[.slice a 512 c] w (DeQ w b) := by
  have hD8 : B8 (b.take 508) := B8.take hB.1 508
  have hDl : (b.take 508).length = 508 := by rw [List.length_take]; omega
  have HX := hide (Bx.new w 28 z6)
  have HA := hide (al w (.cells z6 28))
  have OY := hide (Open_yes _ a c b (hB.keep HA.out) hl hc hs)
  have h5 : deE b = 5 := by
    unfold deE
    rw [if_neg (by rw [hl]; simp), if_neg (by rw [hs]; simp), if_pos]
    cases ho : okD (b.take 508) with
    | false => rfl
    | true => rw [((okD_min _).1 ho).1] at hZ; cases hZ
  have HD := hide (fun w' hb => deQ_err (w := w) (w' := w') (b := b) (by rw [h5]; decide) hb)
  rw [h5] at HD
  clear h5
  generalize b.take 508 = D at *
  have hnm := said_nums hD8
  have RP := hide fun (v w1 : World) (rb : Nat) (h : Rk v w1 rb (rsd D 0)) => readParts_any v w1 rb D hDl hD8 h
  have PS := hide fun (w1 : World) => Psuper_any w1 (said D) hnm
  have hpl : (said D).rw.length ≤ 16 := by rw [hnm.l]; omega
  have HSP := hide (sizeParts hpl)
  have HSZ := hide (pc_size hpl)
  have hui := Try.underlying48
  have hii : (Try.prog.info? 48).map (·.size) = some (pc (said D)).toList.length := by rw [Array.length_toList]; exact sizeParts hpl
  have hz := zeroParts
  have hp0 := pc_size (p := pt0) (by simp [pt0])
  have ZF := hide (zerosFin (D.drop (26 + 13 * min (nv D 25 1) 16)))
  rw [show (⟨D.drop (26 + 13 * min (nv D 25 1) 16), 0⟩ : RS) = rsd D (26 + 13 * min (nv D 25 1) 16) from rfl] at ZF
  rw [hZ] at ZF
  have ZF5 : Hid ((((rsd D (26 + 13 * min (nv D 25 1) 16)).zeros.fin : Nat) : Int) = 5) := by show _ = _; rw [ZF.out]; rfl
  clear hZ ZF
  generalize rsd D (26 + 13 * min (nv D 25 1) 16) = R1 at *
  clear hl hB hs hD8 hDl hnm
  unfold z6 at HX HA OY
  go_enter Try.func5, Try.ntmps5
  go_wp2_with fail
  refine OY.out.mono ?_
  rintro y w1 ⟨rb, rfl, hk, hrb, hb⟩
  have HX := hide (HX.out.keep hb)
  have HA := hide (bt HA.out hb)
  have K1 : Hid (Rk w1 w1 rb (rsd D 0)) := hk
  have HRB : Hid (w.heap.size < rb) := by show _ < _; rw [size_alloc] at hrb; omega
  clear hb hk hrb OY
  go_wp2_with fail
  refine (RP.out _ _ _ K1.out).mono ?_
  rintro y w2 ⟨rfl, hk, hb⟩
  have K2 := hide hk
  have HX := hide (HX.out.but hb (by have := HRB.out; omega))
  have HA : Hid (Below w.heap.size w w2) := ((But.ofBelow (S := fun _ => False) HA.out).trans hb fun x hx e => by have := HRB.out; omega).below fun _ _ h => h
  have HZ := hide (Bx.new w2 48 (pc pt0))
  have HP := hide (Bx.new w2 48 (pc (said D)))
  have HX := hide (HX.out.keep (al w2 (.cells (pc (said D)) 48)))
  have HA := hide (bt HA.out (al w2 (.cells (pc (said D)) 48)))
  have K2 := hide (K2.out.keep (al w2 (.cells (pc (said D)) 48)))
  have HGP : Hid (rb < w2.heap.size) := by show _ < _; have := K2.out.blt; have := hk.size; omega
  clear hk hb RP K1
  go_wp2_with (refine wpList_store_row rfl 48 _ _ rfl w2.heap.size _ rfl rfl 48 (pc pt0) HZ.out HSP.out (by rw [hp0, HSZ.out]) (pc_all _) ?_; rw [setRow_alloc])
  generalize w2.alloc (.cells (pc (said D)) 48) = W2 at *
  refine (kZeros K2.out).mono ?_
  rintro y w3 ⟨rfl, hk, hb⟩
  have K3 := hide hk
  have HP := hide (HP.out.but hb (by have := HGP.out; omega))
  have HX := hide (HX.out.but hb (by have := HRB.out; omega))
  have HA : Hid (Below w.heap.size w w3) := ((But.ofBelow (S := fun _ => False) HA.out).trans hb fun x hx e => by have := HRB.out; omega).below fun _ _ h => h
  clear hk hb K2 HZ
  go_wp2_with (refine wpList_load_row rfl 48 _ rfl w2.heap.size rfl 48 (pc (said D)) (0, 0) _ HP.out Try.underlying48 rfl HSP.out ?_)
  refine (PS.out _).mono ?_
  rintro y w4 ⟨a4, c4, rfl, hO⟩
  have DR : Hid (Dr w (w4.alloc (.cells (suC (suOf (said D)) a4 c4) 28)) rb w2.heap.size w4.heap.size R1.zeros (said D) (suOf (said D)) a4 c4) :=
    ⟨(HX.out.keep hO.b).keep (al _ _), ⟨_, (K3.out.keep hO.b).keep (al _ _)⟩, (HP.out.keep hO.b).keep (al _ _), Bx.new w4 28 _, (JOwn.pre HA.out hO).keep (al _ _)⟩
  clear hO HX HA K3 HP PS
  unfold suv suC at *
  generalize hU : suOf (said D) = U at *
  have HU := hide hU
  clear hU
  go_wp2
  generalize w4.alloc (.cells #[.int .i64 U.gen, .int .i64 U.bl, .int .i64 U.cl, .int .i64 U.rf, .int .i64 U.nx, .slice a4 U.rs.length c4] 28) = W4 at *
  have S0 := hide (fun (w' : World) (hb : Below W4.heap.size W4 w') => (show (w'.cell? ⟨w4.heap.size, 0, none⟩ = some (.int .i64 U.gen) ∧ w'.cell? ⟨w4.heap.size, 1, none⟩ = some (.int .i64 U.bl) ∧ w'.cell? ⟨w4.heap.size, 2, none⟩ = some (.int .i64 U.cl) ∧ w'.cell? ⟨w4.heap.size, 3, none⟩ = some (.int .i64 U.rf) ∧ w'.cell? ⟨w4.heap.size, 4, none⟩ = some (.int .i64 U.nx) ∧ w'.cell? ⟨w4.heap.size, 5, none⟩ = some (.slice a4 U.rs.length c4)) ∧ w'.rangeAt w2.heap.size 0 (pc (said D)).toList ∧ Below W4.heap.size W4 w' from ⟨su_six (DR.out.s.keep hb), (DR.out.p.keep hb).rng, hb⟩))
  refine wp_region_held_drew (S := fun w' => (w'.cell? ⟨w4.heap.size, 0, none⟩ = some (.int .i64 U.gen) ∧ w'.cell? ⟨w4.heap.size, 1, none⟩ = some (.int .i64 U.bl) ∧ w'.cell? ⟨w4.heap.size, 2, none⟩ = some (.int .i64 U.cl) ∧ w'.cell? ⟨w4.heap.size, 3, none⟩ = some (.int .i64 U.rf) ∧ w'.cell? ⟨w4.heap.size, 4, none⟩ = some (.int .i64 U.nx) ∧ w'.cell? ⟨w4.heap.size, 5, none⟩ = some (.slice a4 U.rs.length c4)) ∧ w'.rangeAt w2.heap.size 0 (pc (said D)).toList ∧ Below W4.heap.size W4 w') (by kernel_rfl) (S0.out _ (dr2 W4)) (fun hHeld => ?_)
  refine wpAnyH_take (i := 0) (v := ?va0) rfl (by kernel_rfl) (by kernel_rfl) (by kernel_rfl) (fun _ _ _ h => h) (Or.inl ⟨by rfl, ?hy0⟩) (by assumption) ?ra0
  case hy0 => (intro w hSw; (try dsimp only at hSw); go_simp <;> with_reducible rfl)
  try simp only [Act.put, List.getElem_toArray, List.getElem_cons_zero, List.setIfInBounds_toArray, List.set_cons_zero, List.set_cons_succ]
  refine wpAnyH_ready (rs := [1]) (by kernel_rfl) (by simp) ?_
  refine AllReadyH.cons rfl (fun K hK => ?_) AllReadyH.nil
  go_simp
  obtain ⟨v9, k9⟩ := (DR.out.keep (dr2 W4)).k
  refine (kEnd k9).mono ?_
  rintro e9 w9 ⟨rfl, hww⟩
  obtain rfl := hww.symm
  have TB1 := hide (dr2 W4)
  rw [ZF5.out]
  go_wp2_with fail
  refine hK.out _ _ (by assumption) (fun hHeld => ?_)
  clear hK K
  try simp only [Act.put, List.getElem_toArray, List.getElem_cons_zero, List.getElem_cons_succ, List.setIfInBounds_toArray, List.set_cons_zero, List.set_cons_succ]
  refine wpAnyH_take (i := 2) (v := ?va2) rfl (by kernel_rfl) (by kernel_rfl) (by kernel_rfl) (fun _ _ _ h => h) (Or.inl ⟨by rfl, ?hy2⟩) (by assumption) ?ra2
  case hy2 => (intro w hSw; (try dsimp only at hSw); go_simp <;> with_reducible rfl)
  try simp only [Act.put, List.getElem_toArray, List.getElem_cons_zero, List.getElem_cons_succ, List.setIfInBounds_toArray, List.set_cons_zero, List.set_cons_succ]
  refine wpAnyH_take (i := 3) (v := ?va3) rfl (by kernel_rfl) (by kernel_rfl) (by kernel_rfl) (fun _ _ _ h => h) (Or.inl ⟨by rfl, ?hy3⟩) (by assumption) ?ra3
  case hy3 => (intro w hSw; (try dsimp only at hSw); go_simp <;> with_reducible rfl)
  try simp only [Act.put, List.getElem_toArray, List.getElem_cons_zero, List.getElem_cons_succ, List.setIfInBounds_toArray, List.set_cons_zero, List.set_cons_succ]
  refine wpAnyH_take (i := 4) (v := undef) rfl (by kernel_rfl) (by kernel_rfl) (by kernel_rfl) (fun _ _ _ h => h) (Or.inr ⟨by rfl, rfl⟩) (by assumption) ?_
  try simp only [Act.put, List.getElem_toArray, List.getElem_cons_zero, List.getElem_cons_succ, List.setIfInBounds_toArray, List.set_cons_zero, List.set_cons_succ]
  refine wpAnyH_ready (rs := [5]) (by kernel_rfl) (by simp) ?_
  refine AllReadyH.cons rfl (fun K hK => ?_) AllReadyH.nil
  split
  · rename_i h; exact absurd (show false = true from h) (by decide)
  rename_i hno
  clear hno
  refine hK.out _ _ (by assumption) (fun hHeld => ?_)
  clear hK K
  try simp only [Act.put, List.getElem_toArray, List.getElem_cons_zero, List.getElem_cons_succ, List.setIfInBounds_toArray, List.set_cons_zero, List.set_cons_succ]
  refine wpAnyH_take (i := 6) (v := undef) rfl (by kernel_rfl) (by kernel_rfl) (by kernel_rfl) (fun _ _ _ h => h) (Or.inr ⟨by rfl, rfl⟩) (by assumption) ?_
  try simp only [Act.put, List.getElem_toArray, List.getElem_cons_zero, List.getElem_cons_succ, List.setIfInBounds_toArray, List.set_cons_zero, List.set_cons_succ]
  refine wpAnyH_take (i := 7) (v := ?va7) rfl (by kernel_rfl) (by kernel_rfl) (by kernel_rfl) (fun _ _ _ h => h) (Or.inl ⟨by rfl, ?hy7⟩) (by assumption) ?ra7
  case hy7 => (intro w hSw; (try dsimp only at hSw); go_simp <;> with_reducible rfl)
  try simp only [Act.put, List.getElem_toArray, List.getElem_cons_zero, List.getElem_cons_succ, List.setIfInBounds_toArray, List.set_cons_zero, List.set_cons_succ]
  refine wpAnyH_take (i := 8) (v := ?va8) rfl (by kernel_rfl) (by kernel_rfl) (by kernel_rfl) (fun _ _ _ h => h) (Or.inl ⟨by rfl, ?hy8⟩) (by assumption) ?ra8
  case hy8 => (intro w hSw; (try dsimp only at hSw); go_simp <;> with_reducible rfl)
  try simp only [Act.put, List.getElem_toArray, List.getElem_cons_zero, List.getElem_cons_succ, List.setIfInBounds_toArray, List.set_cons_zero, List.set_cons_succ]
  refine wpAnyH_take (i := 9) (v := undef) rfl (by kernel_rfl) (by kernel_rfl) (by kernel_rfl) (fun _ _ _ h => h) (Or.inr ⟨by rfl, rfl⟩) (by assumption) ?_
  try simp only [Act.put, List.getElem_toArray, List.getElem_cons_zero, List.getElem_cons_succ, List.setIfInBounds_toArray, List.set_cons_zero, List.set_cons_succ]
  refine wpAnyH_take (i := 11) (v := undef) rfl (by kernel_rfl) (by kernel_rfl) (by kernel_rfl) (fun _ _ _ h => h) (Or.inr ⟨by rfl, rfl⟩) (by assumption) ?_
  try simp only [Act.put, List.getElem_toArray, List.getElem_cons_zero, List.getElem_cons_succ, List.setIfInBounds_toArray, List.set_cons_zero, List.set_cons_succ]
  refine wpAnyH_ready (rs := [10]) (by kernel_rfl) (by simp) ?_
  refine AllReadyH.cons rfl (fun K hK => ?_) AllReadyH.nil
  split
  · rename_i h; exact absurd (show false = true from h) (by decide)
  rename_i hno
  clear hno
  refine hK.out _ _ (by assumption) (fun hHeld => ?_)
  clear hK K
  try simp only [Act.put, List.getElem_toArray, List.getElem_cons_zero, List.getElem_cons_succ, List.setIfInBounds_toArray, List.set_cons_zero, List.set_cons_succ]
  refine wpAnyH_take (i := 12) (v := undef) rfl (by kernel_rfl) (by kernel_rfl) (by kernel_rfl) (fun _ _ _ h => h) (Or.inr ⟨by rfl, rfl⟩) (by assumption) ?_
  try simp only [Act.put, List.getElem_toArray, List.getElem_cons_zero, List.getElem_cons_succ, List.setIfInBounds_toArray, List.set_cons_zero, List.set_cons_succ]
  refine wpAnyH_take (i := 13) (v := ?va13) rfl (by kernel_rfl) (by kernel_rfl) (by kernel_rfl) (fun _ _ _ h => h) (Or.inl ⟨by rfl, ?hy13⟩) (by assumption) ?ra13
  case hy13 => (intro w hSw; (try dsimp only at hSw); go_simp <;> with_reducible rfl)
  try simp only [Act.put, List.getElem_toArray, List.getElem_cons_zero, List.getElem_cons_succ, List.setIfInBounds_toArray, List.set_cons_zero, List.set_cons_succ]
  refine wpAnyH_done (by kernel_rfl) ?_ _
  have HO := hide (DR.out.keep TB1.out).o
  have HBL := hide (DR.out.keep TB1.out).r.b
  unfold z6 at HO HD
  go_wp2_with (refine wpList_store_row rfl 28 _ _ rfl w.heap.size _ rfl rfl 28 _ HO.out sizeSuper rfl (by simp [Value.oneCell']) ?_)
  refine bodyPost_ret (v := .tuple #[.agg _, _]) (results_cell_one Try.results5 _ _ w.heap.size 28 _ (0, 0) _ rfl (setRow_heap _ _ _ _ _ _ HO.out) Try.underlying28 rfl sizeSuper) rfl ?_
  exact HD.out _ (below_setRow HBL.out (Nat.le_refl _) _)
set_option maxRecDepth 8000 in
set_option maxHeartbeats 6400000 in
theorem Decode_chk (w : World) (a : Option Addr) (c : Nat) (b : List Nat) (hB : Bs w a b) (hl : b.length = 512) (hc : 512 ≤ c) (hs : numV (b.drop 508) = M.of (b.take 508)) (hZ : ((b.take 508).drop (26 + 13 * min (nv (b.take 508) 25 1) 16)).all (· == 0) = true) (hC : chE (suOf (said (b.take 508))) ≠ 0) : Calls Try.prog 5 #[.slice a 512 c] w (DeQ w b) := by
  have hD8 : B8 (b.take 508) := B8.take hB.1 508
  have hDl : (b.take 508).length = 508 := by rw [List.length_take]; omega
  have HX := hide (Bx.new w 28 z6)
  have HA := hide (al w (.cells z6 28))
  have OY := hide (Open_yes _ a c b (hB.keep HA.out) hl hc hs)
  have h5 : deE b = 5 := by
    unfold deE
    rw [if_neg (by rw [hl]; simp), if_neg (by rw [hs]; simp), if_pos]
    cases ho : okD (b.take 508) with
    | false => rfl
    | true => rw [suOf_said] at hC; exact absurd ((okD_min _).1 ho).2.1 hC
  have HD := hide (fun w' hb => deQ_err (w := w) (w' := w') (b := b) (by rw [h5]; decide) hb)
  rw [h5] at HD
  clear h5
  generalize b.take 508 = D at *
  have hnm := said_nums hD8
  have RP := hide fun (v w1 : World) (rb : Nat) (h : Rk v w1 rb (rsd D 0)) => readParts_any v w1 rb D hDl hD8 h
  have PS := hide fun (w1 : World) => Psuper_any w1 (said D) hnm
  have hpl : (said D).rw.length ≤ 16 := by rw [hnm.l]; omega
  have HSP := hide (sizeParts hpl)
  have HSZ := hide (pc_size hpl)
  have hui := Try.underlying48
  have hii : (Try.prog.info? 48).map (·.size) = some (pc (said D)).toList.length := by rw [Array.length_toList]; exact sizeParts hpl
  have hz := zeroParts
  have hp0 := pc_size (p := pt0) (by simp [pt0])
  have ZF := hide (zerosFin (D.drop (26 + 13 * min (nv D 25 1) 16)))
  rw [show (⟨D.drop (26 + 13 * min (nv D 25 1) 16), 0⟩ : RS) = rsd D (26 + 13 * min (nv D 25 1) 16) from rfl] at ZF
  rw [hZ] at ZF
  have ZF5 : Hid ((((rsd D (26 + 13 * min (nv D 25 1) 16)).zeros.fin : Nat) : Int) = 0) := by show _ = _; rw [ZF.out]; rfl
  clear hZ ZF
  have hce : ((chE (suOf (said D)) : Int) == 0) = false := by simpa using hC
  have hcn : ¬ chE (suOf (said D)) = 0 := hC
  have CH := hide fun (w1 : World) (a1 : Option Addr) (c1 : Nat) (h : Js w1 a1 (suOf (said D)).rs) => Check_any w1 (suOf (said D)) a1 c1 h (by show ((said D).rw.map roOf).length ≤ _; rw [List.length_map]; omega)
  clear hC
  generalize rsd D (26 + 13 * min (nv D 25 1) 16) = R1 at *
  clear hl hB hs hD8 hDl hnm
  unfold z6 at HX HA OY
  go_enter Try.func5, Try.ntmps5
  go_wp2_with fail
  refine OY.out.mono ?_
  rintro y w1 ⟨rb, rfl, hk, hrb, hb⟩
  have HX := hide (HX.out.keep hb)
  have HA := hide (bt HA.out hb)
  have K1 : Hid (Rk w1 w1 rb (rsd D 0)) := hk
  have HRB : Hid (w.heap.size < rb) := by show _ < _; rw [size_alloc] at hrb; omega
  clear hb hk hrb OY
  go_wp2_with fail
  refine (RP.out _ _ _ K1.out).mono ?_
  rintro y w2 ⟨rfl, hk, hb⟩
  have K2 := hide hk
  have HX := hide (HX.out.but hb (by have := HRB.out; omega))
  have HA : Hid (Below w.heap.size w w2) := ((But.ofBelow (S := fun _ => False) HA.out).trans hb fun x hx e => by have := HRB.out; omega).below fun _ _ h => h
  have HZ := hide (Bx.new w2 48 (pc pt0))
  have HP := hide (Bx.new w2 48 (pc (said D)))
  have HX := hide (HX.out.keep (al w2 (.cells (pc (said D)) 48)))
  have HA := hide (bt HA.out (al w2 (.cells (pc (said D)) 48)))
  have K2 := hide (K2.out.keep (al w2 (.cells (pc (said D)) 48)))
  have HGP : Hid (rb < w2.heap.size) := by show _ < _; have := K2.out.blt; have := hk.size; omega
  clear hk hb RP K1
  go_wp2_with (refine wpList_store_row rfl 48 _ _ rfl w2.heap.size _ rfl rfl 48 (pc pt0) HZ.out HSP.out (by rw [hp0, HSZ.out]) (pc_all _) ?_; rw [setRow_alloc])
  generalize w2.alloc (.cells (pc (said D)) 48) = W2 at *
  refine (kZeros K2.out).mono ?_
  rintro y w3 ⟨rfl, hk, hb⟩
  have K3 := hide hk
  have HP := hide (HP.out.but hb (by have := HGP.out; omega))
  have HX := hide (HX.out.but hb (by have := HRB.out; omega))
  have HA : Hid (Below w.heap.size w w3) := ((But.ofBelow (S := fun _ => False) HA.out).trans hb fun x hx e => by have := HRB.out; omega).below fun _ _ h => h
  clear hk hb K2 HZ
  go_wp2_with (refine wpList_load_row rfl 48 _ rfl w2.heap.size rfl 48 (pc (said D)) (0, 0) _ HP.out Try.underlying48 rfl HSP.out ?_)
  refine (PS.out _).mono ?_
  rintro y w4 ⟨a4, c4, rfl, hO⟩
  have DR : Hid (Dr w (w4.alloc (.cells (suC (suOf (said D)) a4 c4) 28)) rb w2.heap.size w4.heap.size R1.zeros (said D) (suOf (said D)) a4 c4) :=
    ⟨(HX.out.keep hO.b).keep (al _ _), ⟨_, (K3.out.keep hO.b).keep (al _ _)⟩, (HP.out.keep hO.b).keep (al _ _), Bx.new w4 28 _, (JOwn.pre HA.out hO).keep (al _ _)⟩
  clear hO HX HA K3 HP PS
  unfold suv suC at *
  generalize hU : suOf (said D) = U at *
  have HU := hide hU
  clear hU
  go_wp2
  generalize w4.alloc (.cells #[.int .i64 U.gen, .int .i64 U.bl, .int .i64 U.cl, .int .i64 U.rf, .int .i64 U.nx, .slice a4 U.rs.length c4] 28) = W4 at *
  generalize chE U = e at *
  have hcb : ((e : Int) != 0) = true := by simpa using hcn
  have S0 := hide (fun (w' : World) (hb : Below W4.heap.size W4 w') => (show (w'.cell? ⟨w4.heap.size, 0, none⟩ = some (.int .i64 U.gen) ∧ w'.cell? ⟨w4.heap.size, 1, none⟩ = some (.int .i64 U.bl) ∧ w'.cell? ⟨w4.heap.size, 2, none⟩ = some (.int .i64 U.cl) ∧ w'.cell? ⟨w4.heap.size, 3, none⟩ = some (.int .i64 U.rf) ∧ w'.cell? ⟨w4.heap.size, 4, none⟩ = some (.int .i64 U.nx) ∧ w'.cell? ⟨w4.heap.size, 5, none⟩ = some (.slice a4 U.rs.length c4)) ∧ w'.rangeAt w2.heap.size 0 (pc (said D)).toList ∧ Below W4.heap.size W4 w' from ⟨su_six (DR.out.s.keep hb), (DR.out.p.keep hb).rng, hb⟩))
  refine wp_region_held_drew (S := fun w' => (w'.cell? ⟨w4.heap.size, 0, none⟩ = some (.int .i64 U.gen) ∧ w'.cell? ⟨w4.heap.size, 1, none⟩ = some (.int .i64 U.bl) ∧ w'.cell? ⟨w4.heap.size, 2, none⟩ = some (.int .i64 U.cl) ∧ w'.cell? ⟨w4.heap.size, 3, none⟩ = some (.int .i64 U.rf) ∧ w'.cell? ⟨w4.heap.size, 4, none⟩ = some (.int .i64 U.nx) ∧ w'.cell? ⟨w4.heap.size, 5, none⟩ = some (.slice a4 U.rs.length c4)) ∧ w'.rangeAt w2.heap.size 0 (pc (said D)).toList ∧ Below W4.heap.size W4 w') (by kernel_rfl) (S0.out _ (dr2 W4)) (fun hHeld => ?_)
  refine wpAnyH_take (i := 0) (v := ?va0) rfl (by kernel_rfl) (by kernel_rfl) (by kernel_rfl) (fun _ _ _ h => h) (Or.inl ⟨by rfl, ?hy0⟩) (by assumption) ?ra0
  case hy0 => (intro w hSw; (try dsimp only at hSw); go_simp <;> with_reducible rfl)
  try simp only [Act.put, List.getElem_toArray, List.getElem_cons_zero, List.setIfInBounds_toArray, List.set_cons_zero, List.set_cons_succ]
  refine wpAnyH_ready (rs := [1]) (by kernel_rfl) (by simp) ?_
  refine AllReadyH.cons rfl (fun K hK => ?_) AllReadyH.nil
  go_simp
  obtain ⟨v9, k9⟩ := (DR.out.keep (dr2 W4)).k
  refine (kEnd k9).mono ?_
  rintro e9 w9 ⟨rfl, hww⟩
  obtain rfl := hww.symm
  have TB1 := hide (dr2 W4)
  rw [ZF5.out]
  go_wp2_with fail
  refine hK.out _ _ (by assumption) (fun hHeld => ?_)
  clear hK K
  try simp only [Act.put, List.getElem_toArray, List.getElem_cons_zero, List.getElem_cons_succ, List.setIfInBounds_toArray, List.set_cons_zero, List.set_cons_succ]
  refine wpAnyH_take (i := 2) (v := ?va2) rfl (by kernel_rfl) (by kernel_rfl) (by kernel_rfl) (fun _ _ _ h => h) (Or.inl ⟨by rfl, ?hy2⟩) (by assumption) ?ra2
  case hy2 => (intro w hSw; (try dsimp only at hSw); go_simp <;> with_reducible rfl)
  try simp only [Act.put, List.getElem_toArray, List.getElem_cons_zero, List.getElem_cons_succ, List.setIfInBounds_toArray, List.set_cons_zero, List.set_cons_succ]
  refine wpAnyH_take (i := 3) (v := ?va3) rfl (by kernel_rfl) (by kernel_rfl) (by kernel_rfl) (fun _ _ _ h => h) (Or.inl ⟨by rfl, ?hy3⟩) (by assumption) ?ra3
  case hy3 => (intro w hSw; (try dsimp only at hSw); go_simp <;> with_reducible rfl)
  try simp only [Act.put, List.getElem_toArray, List.getElem_cons_zero, List.getElem_cons_succ, List.setIfInBounds_toArray, List.set_cons_zero, List.set_cons_succ]
  refine wpAnyH_take (i := 4) (v := ?va4) rfl (by kernel_rfl) (by kernel_rfl) (by kernel_rfl) (fun _ _ _ h => h) (Or.inl ⟨by rfl, ?hy4⟩) (by assumption) ?ra4
  case hy4 => (intro w hSw; (try dsimp only at hSw); go_simp <;> with_reducible rfl)
  try simp only [Act.put, List.getElem_toArray, List.getElem_cons_zero, List.getElem_cons_succ, List.setIfInBounds_toArray, List.set_cons_zero, List.set_cons_succ]
  refine wpAnyH_ready (rs := [5]) (by kernel_rfl) (by simp) ?_
  refine AllReadyH.cons rfl (fun K hK => ?_) AllReadyH.nil
  go_simp
  refine (CH.out _ a4 c4 (DR.out.keep TB1.out).r.r.qs).mono ?_
  rintro e9 w8 ⟨rfl, hb⟩
  have TB2 := hide (bt TB1.out hb)
  clear hb
  go_wp2_with fail
  refine hK.out _ _ (S0.out _ TB2.out) (fun hHeld => ?_)
  clear hK K
  try simp only [Act.put, List.getElem_toArray, List.getElem_cons_zero, List.getElem_cons_succ, List.setIfInBounds_toArray, List.set_cons_zero, List.set_cons_succ]
  refine wpAnyH_take (i := 6) (v := ?va6) rfl (by kernel_rfl) (by kernel_rfl) (by kernel_rfl) (fun _ _ _ h => h) (Or.inl ⟨by rfl, ?hy6⟩) (by assumption) ?ra6
  case hy6 => (intro w hSw; (try dsimp only at hSw); go_simp <;> with_reducible rfl)
  try simp only [Act.put, List.getElem_toArray, List.getElem_cons_zero, List.getElem_cons_succ, List.setIfInBounds_toArray, List.set_cons_zero, List.set_cons_succ]
  refine wpAnyH_take (i := 7) (v := ?va7) rfl (by kernel_rfl) (by kernel_rfl) (by kernel_rfl) (fun _ _ _ h => h) (Or.inl ⟨by rfl, ?hy7⟩) (by assumption) ?ra7
  case hy7 => (intro w hSw; (try dsimp only at hSw); go_simp <;> with_reducible rfl)
  try simp only [Act.put, List.getElem_toArray, List.getElem_cons_zero, List.getElem_cons_succ, List.setIfInBounds_toArray, List.set_cons_zero, List.set_cons_succ]
  refine wpAnyH_take (i := 8) (v := ?va8) rfl (by kernel_rfl) (by kernel_rfl) (by kernel_rfl) (fun _ _ _ h => h) (Or.inl ⟨by rfl, ?hy8⟩) (by assumption) ?ra8
  case hy8 => (intro w hSw; (try dsimp only at hSw); go_simp <;> with_reducible rfl)
  try simp only [Act.put, List.getElem_toArray, List.getElem_cons_zero, List.getElem_cons_succ, List.setIfInBounds_toArray, List.set_cons_zero, List.set_cons_succ]
  refine wpAnyH_take (i := 9) (v := undef) rfl (by kernel_rfl) (by kernel_rfl) (by kernel_rfl) (fun _ _ _ h => h) (Or.inr ⟨by rfl, rfl⟩) (by assumption) ?_
  try simp only [Act.put, List.getElem_toArray, List.getElem_cons_zero, List.getElem_cons_succ, List.setIfInBounds_toArray, List.set_cons_zero, List.set_cons_succ]
  refine wpAnyH_take (i := 11) (v := undef) rfl (by kernel_rfl) (by kernel_rfl) (by kernel_rfl) (fun _ _ _ h => h) (Or.inr ⟨by rfl, rfl⟩) (by assumption) ?_
  try simp only [Act.put, List.getElem_toArray, List.getElem_cons_zero, List.getElem_cons_succ, List.setIfInBounds_toArray, List.set_cons_zero, List.set_cons_succ]
  refine wpAnyH_ready (rs := [10]) (by kernel_rfl) (by simp) ?_
  refine AllReadyH.cons rfl (fun K hK => ?_) AllReadyH.nil
  split
  · rename_i h; exact absurd (show false = true from h) (by decide)
  rename_i hno
  clear hno
  refine hK.out _ _ (by assumption) (fun hHeld => ?_)
  clear hK K
  try simp only [Act.put, List.getElem_toArray, List.getElem_cons_zero, List.getElem_cons_succ, List.setIfInBounds_toArray, List.set_cons_zero, List.set_cons_succ]
  refine wpAnyH_take (i := 12) (v := undef) rfl (by kernel_rfl) (by kernel_rfl) (by kernel_rfl) (fun _ _ _ h => h) (Or.inr ⟨by rfl, rfl⟩) (by assumption) ?_
  try simp only [Act.put, List.getElem_toArray, List.getElem_cons_zero, List.getElem_cons_succ, List.setIfInBounds_toArray, List.set_cons_zero, List.set_cons_succ]
  refine wpAnyH_take (i := 13) (v := ?va13) rfl (by kernel_rfl) (by kernel_rfl) (by kernel_rfl) (fun _ _ _ h => h) (Or.inl ⟨by rfl, ?hy13⟩) (by assumption) ?ra13
  case hy13 => (intro w hSw; (try dsimp only at hSw); go_simp <;> with_reducible rfl)
  try simp only [Act.put, List.getElem_toArray, List.getElem_cons_zero, List.getElem_cons_succ, List.setIfInBounds_toArray, List.set_cons_zero, List.set_cons_succ]
  refine wpAnyH_done (by kernel_rfl) ?_ _
  have HO := hide (DR.out.keep TB2.out).o
  have HBL := hide (DR.out.keep TB2.out).r.b
  unfold z6 at HO HD
  go_wp2_with (refine wpList_store_row rfl 28 _ _ rfl w.heap.size _ rfl rfl 28 _ HO.out sizeSuper rfl (by simp [Value.oneCell']) ?_)
  refine bodyPost_ret (v := .tuple #[.agg _, _]) (results_cell_one Try.results5 _ _ w.heap.size 28 _ (0, 0) _ rfl (setRow_heap _ _ _ _ _ _ HO.out) Try.underlying28 rfl sizeSuper) rfl ?_
  exact HD.out _ (below_setRow HBL.out (Nat.le_refl _) _)
set_option maxRecDepth 8000 in
set_option maxHeartbeats 6400000 in
theorem Decode_bad (w : World) (a : Option Addr) (c : Nat) (b : List Nat) (hB : Bs w a b) (hl : b.length = 512) (hc : 512 ≤ c) (hs : numV (b.drop 508) = M.of (b.take 508)) (hZ : ((b.take 508).drop (26 + 13 * min (nv (b.take 508) 25 1) 16)).all (· == 0) = true) (hC : chE (suOf (said (b.take 508))) = 0) (hV : (decide (nv (b.take 508) 0 4 = 827346755) && decide (nv (b.take 508) 25 1 ≤ 16)) = false) : Calls Try.prog 5 #[.slice a 512 c] w (DeQ w b) := by
  have hD8 : B8 (b.take 508) := B8.take hB.1 508
  have hDl : (b.take 508).length = 508 := by rw [List.length_take]; omega
  have HX := hide (Bx.new w 28 z6)
  have HA := hide (al w (.cells z6 28))
  have OY := hide (Open_yes _ a c b (hB.keep HA.out) hl hc hs)
  have h5 : deE b = 5 := by
    unfold deE
    rw [if_neg (by rw [hl]; simp), if_neg (by rw [hs]; simp), if_pos]
    cases ho : okD (b.take 508) with
    | false => rfl
    | true =>
      obtain ⟨_, _, h3, h4⟩ := (okD_min _).1 ho
      rw [decide_eq_true h3, decide_eq_true h4] at hV
      cases hV
  have HD := hide (fun w' hb => deQ_err (w := w) (w' := w') (b := b) (by rw [h5]; decide) hb)
  rw [h5] at HD
  clear h5
  generalize b.take 508 = D at *
  have hnm := said_nums hD8
  have RP := hide fun (v w1 : World) (rb : Nat) (h : Rk v w1 rb (rsd D 0)) => readParts_any v w1 rb D hDl hD8 h
  have PS := hide fun (w1 : World) => Psuper_any w1 (said D) hnm
  have hpl : (said D).rw.length ≤ 16 := by rw [hnm.l]; omega
  have HSP := hide (sizeParts hpl)
  have HSZ := hide (pc_size hpl)
  have hui := Try.underlying48
  have hii : (Try.prog.info? 48).map (·.size) = some (pc (said D)).toList.length := by rw [Array.length_toList]; exact sizeParts hpl
  have hz := zeroParts
  have hp0 := pc_size (p := pt0) (by simp [pt0])
  have ZF := hide (zerosFin (D.drop (26 + 13 * min (nv D 25 1) 16)))
  rw [show (⟨D.drop (26 + 13 * min (nv D 25 1) 16), 0⟩ : RS) = rsd D (26 + 13 * min (nv D 25 1) 16) from rfl] at ZF
  rw [hZ] at ZF
  have ZF5 : Hid ((((rsd D (26 + 13 * min (nv D 25 1) 16)).zeros.fin : Nat) : Int) = 0) := by show _ = _; rw [ZF.out]; rfl
  clear hZ ZF
  have hne := ne_said hD8 hC
  rw [hV] at hne
  have hok := chE_ok hC
  have CH := hide fun (w1 : World) (a1 : Option Addr) (c1 : Nat) (h : Js w1 a1 (suOf (said D)).rs) => Check_any w1 (suOf (said D)) a1 c1 h (by show ((said D).rw.map roOf).length ≤ _; rw [List.length_map]; omega)
  have PO := hide fun (w1 : World) (a1 : Option Addr) (c1 : Nat) (h : Js w1 a1 (suOf (said D)).rs) => partsOf_any w1 (suOf (said D)) a1 c1 h hok
  rw [hC] at CH
  clear hC hV hok
  generalize rsd D (26 + 13 * min (nv D 25 1) 16) = R1 at *
  clear hl hB hs hD8 hDl hnm
  unfold z6 at HX HA OY
  go_enter Try.func5, Try.ntmps5
  go_wp2_with fail
  refine OY.out.mono ?_
  rintro y w1 ⟨rb, rfl, hk, hrb, hb⟩
  have HX := hide (HX.out.keep hb)
  have HA := hide (bt HA.out hb)
  have K1 : Hid (Rk w1 w1 rb (rsd D 0)) := hk
  have HRB : Hid (w.heap.size < rb) := by show _ < _; rw [size_alloc] at hrb; omega
  clear hb hk hrb OY
  go_wp2_with fail
  refine (RP.out _ _ _ K1.out).mono ?_
  rintro y w2 ⟨rfl, hk, hb⟩
  have K2 := hide hk
  have HX := hide (HX.out.but hb (by have := HRB.out; omega))
  have HA : Hid (Below w.heap.size w w2) := ((But.ofBelow (S := fun _ => False) HA.out).trans hb fun x hx e => by have := HRB.out; omega).below fun _ _ h => h
  have HZ := hide (Bx.new w2 48 (pc pt0))
  have HP := hide (Bx.new w2 48 (pc (said D)))
  have HX := hide (HX.out.keep (al w2 (.cells (pc (said D)) 48)))
  have HA := hide (bt HA.out (al w2 (.cells (pc (said D)) 48)))
  have K2 := hide (K2.out.keep (al w2 (.cells (pc (said D)) 48)))
  have HGP : Hid (rb < w2.heap.size) := by show _ < _; have := K2.out.blt; have := hk.size; omega
  clear hk hb RP K1
  go_wp2_with (refine wpList_store_row rfl 48 _ _ rfl w2.heap.size _ rfl rfl 48 (pc pt0) HZ.out HSP.out (by rw [hp0, HSZ.out]) (pc_all _) ?_; rw [setRow_alloc])
  generalize w2.alloc (.cells (pc (said D)) 48) = W2 at *
  refine (kZeros K2.out).mono ?_
  rintro y w3 ⟨rfl, hk, hb⟩
  have K3 := hide hk
  have HP := hide (HP.out.but hb (by have := HGP.out; omega))
  have HX := hide (HX.out.but hb (by have := HRB.out; omega))
  have HA : Hid (Below w.heap.size w w3) := ((But.ofBelow (S := fun _ => False) HA.out).trans hb fun x hx e => by have := HRB.out; omega).below fun _ _ h => h
  clear hk hb K2 HZ
  go_wp2_with (refine wpList_load_row rfl 48 _ rfl w2.heap.size rfl 48 (pc (said D)) (0, 0) _ HP.out Try.underlying48 rfl HSP.out ?_)
  refine (PS.out _).mono ?_
  rintro y w4 ⟨a4, c4, rfl, hO⟩
  have DR : Hid (Dr w (w4.alloc (.cells (suC (suOf (said D)) a4 c4) 28)) rb w2.heap.size w4.heap.size R1.zeros (said D) (suOf (said D)) a4 c4) :=
    ⟨(HX.out.keep hO.b).keep (al _ _), ⟨_, (K3.out.keep hO.b).keep (al _ _)⟩, (HP.out.keep hO.b).keep (al _ _), Bx.new w4 28 _, (JOwn.pre HA.out hO).keep (al _ _)⟩
  clear hO HX HA K3 HP PS
  unfold suv suC at *
  generalize hU : suOf (said D) = U at *
  have HU := hide hU
  clear hU
  go_wp2
  generalize w4.alloc (.cells #[.int .i64 U.gen, .int .i64 U.bl, .int .i64 U.cl, .int .i64 U.rf, .int .i64 U.nx, .slice a4 U.rs.length c4] 28) = W4 at *
  have S0 := hide (fun (w' : World) (hb : Below W4.heap.size W4 w') => (show (w'.cell? ⟨w4.heap.size, 0, none⟩ = some (.int .i64 U.gen) ∧ w'.cell? ⟨w4.heap.size, 1, none⟩ = some (.int .i64 U.bl) ∧ w'.cell? ⟨w4.heap.size, 2, none⟩ = some (.int .i64 U.cl) ∧ w'.cell? ⟨w4.heap.size, 3, none⟩ = some (.int .i64 U.rf) ∧ w'.cell? ⟨w4.heap.size, 4, none⟩ = some (.int .i64 U.nx) ∧ w'.cell? ⟨w4.heap.size, 5, none⟩ = some (.slice a4 U.rs.length c4)) ∧ w'.rangeAt w2.heap.size 0 (pc (said D)).toList ∧ Below W4.heap.size W4 w' from ⟨su_six (DR.out.s.keep hb), (DR.out.p.keep hb).rng, hb⟩))
  refine wp_region_held_drew (S := fun w' => (w'.cell? ⟨w4.heap.size, 0, none⟩ = some (.int .i64 U.gen) ∧ w'.cell? ⟨w4.heap.size, 1, none⟩ = some (.int .i64 U.bl) ∧ w'.cell? ⟨w4.heap.size, 2, none⟩ = some (.int .i64 U.cl) ∧ w'.cell? ⟨w4.heap.size, 3, none⟩ = some (.int .i64 U.rf) ∧ w'.cell? ⟨w4.heap.size, 4, none⟩ = some (.int .i64 U.nx) ∧ w'.cell? ⟨w4.heap.size, 5, none⟩ = some (.slice a4 U.rs.length c4)) ∧ w'.rangeAt w2.heap.size 0 (pc (said D)).toList ∧ Below W4.heap.size W4 w') (by kernel_rfl) (S0.out _ (dr2 W4)) (fun hHeld => ?_)
  refine wpAnyH_take (i := 0) (v := ?va0) rfl (by kernel_rfl) (by kernel_rfl) (by kernel_rfl) (fun _ _ _ h => h) (Or.inl ⟨by rfl, ?hy0⟩) (by assumption) ?ra0
  case hy0 => (intro w hSw; (try dsimp only at hSw); go_simp <;> with_reducible rfl)
  try simp only [Act.put, List.getElem_toArray, List.getElem_cons_zero, List.setIfInBounds_toArray, List.set_cons_zero, List.set_cons_succ]
  refine wpAnyH_ready (rs := [1]) (by kernel_rfl) (by simp) ?_
  refine AllReadyH.cons rfl (fun K hK => ?_) AllReadyH.nil
  go_simp
  obtain ⟨v9, k9⟩ := (DR.out.keep (dr2 W4)).k
  refine (kEnd k9).mono ?_
  rintro e9 w9 ⟨rfl, hww⟩
  obtain rfl := hww.symm
  have TB1 := hide (dr2 W4)
  rw [ZF5.out]
  go_wp2_with fail
  refine hK.out _ _ (by assumption) (fun hHeld => ?_)
  clear hK K
  try simp only [Act.put, List.getElem_toArray, List.getElem_cons_zero, List.getElem_cons_succ, List.setIfInBounds_toArray, List.set_cons_zero, List.set_cons_succ]
  refine wpAnyH_take (i := 2) (v := ?va2) rfl (by kernel_rfl) (by kernel_rfl) (by kernel_rfl) (fun _ _ _ h => h) (Or.inl ⟨by rfl, ?hy2⟩) (by assumption) ?ra2
  case hy2 => (intro w hSw; (try dsimp only at hSw); go_simp <;> with_reducible rfl)
  try simp only [Act.put, List.getElem_toArray, List.getElem_cons_zero, List.getElem_cons_succ, List.setIfInBounds_toArray, List.set_cons_zero, List.set_cons_succ]
  refine wpAnyH_take (i := 3) (v := ?va3) rfl (by kernel_rfl) (by kernel_rfl) (by kernel_rfl) (fun _ _ _ h => h) (Or.inl ⟨by rfl, ?hy3⟩) (by assumption) ?ra3
  case hy3 => (intro w hSw; (try dsimp only at hSw); go_simp <;> with_reducible rfl)
  try simp only [Act.put, List.getElem_toArray, List.getElem_cons_zero, List.getElem_cons_succ, List.setIfInBounds_toArray, List.set_cons_zero, List.set_cons_succ]
  refine wpAnyH_take (i := 4) (v := ?va4) rfl (by kernel_rfl) (by kernel_rfl) (by kernel_rfl) (fun _ _ _ h => h) (Or.inl ⟨by rfl, ?hy4⟩) (by assumption) ?ra4
  case hy4 => (intro w hSw; (try dsimp only at hSw); go_simp <;> with_reducible rfl)
  try simp only [Act.put, List.getElem_toArray, List.getElem_cons_zero, List.getElem_cons_succ, List.setIfInBounds_toArray, List.set_cons_zero, List.set_cons_succ]
  refine wpAnyH_ready (rs := [5]) (by kernel_rfl) (by simp) ?_
  refine AllReadyH.cons rfl (fun K hK => ?_) AllReadyH.nil
  go_simp
  refine (CH.out _ a4 c4 (DR.out.keep TB1.out).r.r.qs).mono ?_
  rintro e9 w8 ⟨rfl, hb⟩
  have TB2 := hide (bt TB1.out hb)
  clear hb
  go_wp2_with fail
  refine hK.out _ _ (S0.out _ TB2.out) (fun hHeld => ?_)
  clear hK K
  try simp only [Act.put, List.getElem_toArray, List.getElem_cons_zero, List.getElem_cons_succ, List.setIfInBounds_toArray, List.set_cons_zero, List.set_cons_succ]
  refine wpAnyH_take (i := 6) (v := ?va6) rfl (by kernel_rfl) (by kernel_rfl) (by kernel_rfl) (fun _ _ _ h => h) (Or.inl ⟨by rfl, ?hy6⟩) (by assumption) ?ra6
  case hy6 => (intro w hSw; (try dsimp only at hSw); go_simp <;> with_reducible rfl)
  try simp only [Act.put, List.getElem_toArray, List.getElem_cons_zero, List.getElem_cons_succ, List.setIfInBounds_toArray, List.set_cons_zero, List.set_cons_succ]
  refine wpAnyH_take (i := 7) (v := ?va7) rfl (by kernel_rfl) (by kernel_rfl) (by kernel_rfl) (fun _ _ _ h => h) (Or.inl ⟨by rfl, ?hy7⟩) (by assumption) ?ra7
  case hy7 => (intro w hSw; (try dsimp only at hSw); go_simp <;> with_reducible rfl)
  try simp only [Act.put, List.getElem_toArray, List.getElem_cons_zero, List.getElem_cons_succ, List.setIfInBounds_toArray, List.set_cons_zero, List.set_cons_succ]
  refine wpAnyH_take (i := 8) (v := ?va8) rfl (by kernel_rfl) (by kernel_rfl) (by kernel_rfl) (fun _ _ _ h => h) (Or.inl ⟨by rfl, ?hy8⟩) (by assumption) ?ra8
  case hy8 => (intro w hSw; (try dsimp only at hSw); go_simp <;> with_reducible rfl)
  try simp only [Act.put, List.getElem_toArray, List.getElem_cons_zero, List.getElem_cons_succ, List.setIfInBounds_toArray, List.set_cons_zero, List.set_cons_succ]
  refine wpAnyH_take (i := 9) (v := ?va9) rfl (by kernel_rfl) (by kernel_rfl) (by kernel_rfl) (fun _ _ _ h => h) (Or.inl ⟨by rfl, ?hy9⟩) (by assumption) ?ra9
  case hy9 => (intro w hSw; (try dsimp only at hSw); go_simp <;> with_reducible rfl)
  try simp only [Act.put, List.getElem_toArray, List.getElem_cons_zero, List.getElem_cons_succ, List.setIfInBounds_toArray, List.set_cons_zero, List.set_cons_succ]
  refine wpAnyH_take (i := 11) (v := .agg (pc (said D))) rfl (by kernel_rfl) (by kernel_rfl) (by kernel_rfl) (fun _ _ _ h => h) (yieldsIf_load_arr (by rfl) _ _ rfl w2.heap.size 0 rfl (pc (said D)) _ (fun w hw => hw.2.1) hui rfl hii) (by assumption) ?_
  try simp only [Act.put, List.getElem_toArray, List.getElem_cons_zero, List.getElem_cons_succ, List.setIfInBounds_toArray, List.set_cons_zero, List.set_cons_succ]
  refine wpAnyH_ready (rs := [10]) (by kernel_rfl) (by simp) ?_
  refine AllReadyH.cons rfl (fun K hK => ?_) AllReadyH.nil
  go_simp
  refine (PO.out _ a4 c4 (DR.out.keep TB2.out).r.r.qs).mono ?_
  rintro e9 w7 ⟨rfl, hb⟩
  have TB3 := hide (bt TB2.out hb)
  clear hb
  go_wp2_with fail
  refine hK.out _ _ (S0.out _ TB3.out) (fun hHeld => ?_)
  clear hK K
  try simp only [Act.put, List.getElem_toArray, List.getElem_cons_zero, List.getElem_cons_succ, List.setIfInBounds_toArray, List.set_cons_zero, List.set_cons_succ]
  refine wpAnyH_take (i := 12) (v := ?va12) rfl (by kernel_rfl) (by kernel_rfl) (by kernel_rfl) (fun _ _ _ h => h) (Or.inl ⟨by rfl, ?hy12⟩) (by assumption) ?ra12
  case hy12 => (intro w hSw; (try dsimp only at hSw); go_simp <;> with_reducible rfl)
  try simp only [Act.put, List.getElem_toArray, List.getElem_cons_zero, List.getElem_cons_succ, List.setIfInBounds_toArray, List.set_cons_zero, List.set_cons_succ]
  refine wpAnyH_take (i := 13) (v := ?va13) rfl (by kernel_rfl) (by kernel_rfl) (by kernel_rfl) (fun _ _ _ h => h) (Or.inl ⟨by rfl, ?hy13⟩) (by assumption) ?ra13
  case hy13 => (intro w hSw; (try dsimp only at hSw); go_simp <;> with_reducible rfl)
  try simp only [Act.put, List.getElem_toArray, List.getElem_cons_zero, List.getElem_cons_succ, List.setIfInBounds_toArray, List.set_cons_zero, List.set_cons_succ]
  refine wpAnyH_done (by kernel_rfl) ?_ _
  have HO := hide (DR.out.keep TB3.out).o
  have HBL := hide (DR.out.keep TB3.out).r.b
  unfold z6 at HO HD
  go_wp2_with (refine wpList_store_row rfl 28 _ _ rfl w.heap.size _ rfl rfl 28 _ HO.out sizeSuper rfl (by simp [Value.oneCell']) ?_)
  refine bodyPost_ret (v := .tuple #[.agg _, _]) (results_cell_one Try.results5 _ _ w.heap.size 28 _ (0, 0) _ rfl (setRow_heap _ _ _ _ _ _ HO.out) Try.underlying28 rfl sizeSuper) rfl ?_
  exact HD.out _ (below_setRow HBL.out (Nat.le_refl _) _)
set_option maxRecDepth 8000 in
set_option maxHeartbeats 6400000 in
theorem Decode_good (w : World) (a : Option Addr) (c : Nat) (b : List Nat) (hB : Bs w a b) (hl : b.length = 512) (hc : 512 ≤ c) (hs : numV (b.drop 508) = M.of (b.take 508)) (hZ : ((b.take 508).drop (26 + 13 * min (nv (b.take 508) 25 1) 16)).all (· == 0) = true) (hC : chE (suOf (said (b.take 508))) = 0) (hV : (decide (nv (b.take 508) 0 4 = 827346755) && decide (nv (b.take 508) 25 1 ≤ 16)) = true) : Calls Try.prog 5 #[.slice a 512 c] w (DeQ w b) := by
  have hD8 : B8 (b.take 508) := B8.take hB.1 508
  have hDl : (b.take 508).length = 508 := by rw [List.length_take]; omega
  have HX := hide (Bx.new w 28 z6)
  have HA := hide (al w (.cells z6 28))
  have OY := hide (Open_yes _ a c b (hB.keep HA.out) hl hc hs)
  have h5 : deE b = 0 := by
    refine deE_zero.2 ⟨hl, hs, (okD_min _).2 ?_⟩
    rw [Bool.and_eq_true, decide_eq_true_eq, decide_eq_true_eq] at hV
    rw [suOf_said] at hC
    exact ⟨hZ, hC, hV.1, hV.2⟩
  have h6 : deS b = suOf (said (b.take 508)) := by
    rw [deS_eq h5, suOf_said, Nat.min_eq_left]
    rw [Bool.and_eq_true, decide_eq_true_eq, decide_eq_true_eq] at hV
    exact hV.2
  have HD := hide (fun (w' : World) (a' : Option Addr) (c' : Nat) (h : JOwn w w' a' c' (suOf (said (b.take 508))).rs) => (show DeQ w b (.returned (.tuple #[suv (suOf (said (b.take 508))) a' c', .int .i64 0])) w' from ⟨a', c', by rw [h5, h6]; rfl, by rw [h6]; exact h⟩))
  clear h5 h6
  generalize b.take 508 = D at *
  have hnm := said_nums hD8
  have RP := hide fun (v w1 : World) (rb : Nat) (h : Rk v w1 rb (rsd D 0)) => readParts_any v w1 rb D hDl hD8 h
  have PS := hide fun (w1 : World) => Psuper_any w1 (said D) hnm
  have hpl : (said D).rw.length ≤ 16 := by rw [hnm.l]; omega
  have HSP := hide (sizeParts hpl)
  have HSZ := hide (pc_size hpl)
  have hui := Try.underlying48
  have hii : (Try.prog.info? 48).map (·.size) = some (pc (said D)).toList.length := by rw [Array.length_toList]; exact sizeParts hpl
  have hz := zeroParts
  have hp0 := pc_size (p := pt0) (by simp [pt0])
  have ZF := hide (zerosFin (D.drop (26 + 13 * min (nv D 25 1) 16)))
  rw [show (⟨D.drop (26 + 13 * min (nv D 25 1) 16), 0⟩ : RS) = rsd D (26 + 13 * min (nv D 25 1) 16) from rfl] at ZF
  rw [hZ] at ZF
  have ZF5 : Hid ((((rsd D (26 + 13 * min (nv D 25 1) 16)).zeros.fin : Nat) : Int) = 0) := by show _ = _; rw [ZF.out]; rfl
  clear hZ ZF
  have hne := ne_said hD8 hC
  rw [hV] at hne
  have hok := chE_ok hC
  have CH := hide fun (w1 : World) (a1 : Option Addr) (c1 : Nat) (h : Js w1 a1 (suOf (said D)).rs) => Check_any w1 (suOf (said D)) a1 c1 h (by show ((said D).rw.map roOf).length ≤ _; rw [List.length_map]; omega)
  have PO := hide fun (w1 : World) (a1 : Option Addr) (c1 : Nat) (h : Js w1 a1 (suOf (said D)).rs) => partsOf_any w1 (suOf (said D)) a1 c1 h hok
  rw [hC] at CH
  clear hC hV hok
  generalize rsd D (26 + 13 * min (nv D 25 1) 16) = R1 at *
  clear hl hB hs hD8 hDl hnm
  unfold z6 at HX HA OY
  go_enter Try.func5, Try.ntmps5
  go_wp2_with fail
  refine OY.out.mono ?_
  rintro y w1 ⟨rb, rfl, hk, hrb, hb⟩
  have HX := hide (HX.out.keep hb)
  have HA := hide (bt HA.out hb)
  have K1 : Hid (Rk w1 w1 rb (rsd D 0)) := hk
  have HRB : Hid (w.heap.size < rb) := by show _ < _; rw [size_alloc] at hrb; omega
  clear hb hk hrb OY
  go_wp2_with fail
  refine (RP.out _ _ _ K1.out).mono ?_
  rintro y w2 ⟨rfl, hk, hb⟩
  have K2 := hide hk
  have HX := hide (HX.out.but hb (by have := HRB.out; omega))
  have HA : Hid (Below w.heap.size w w2) := ((But.ofBelow (S := fun _ => False) HA.out).trans hb fun x hx e => by have := HRB.out; omega).below fun _ _ h => h
  have HZ := hide (Bx.new w2 48 (pc pt0))
  have HP := hide (Bx.new w2 48 (pc (said D)))
  have HX := hide (HX.out.keep (al w2 (.cells (pc (said D)) 48)))
  have HA := hide (bt HA.out (al w2 (.cells (pc (said D)) 48)))
  have K2 := hide (K2.out.keep (al w2 (.cells (pc (said D)) 48)))
  have HGP : Hid (rb < w2.heap.size) := by show _ < _; have := K2.out.blt; have := hk.size; omega
  clear hk hb RP K1
  go_wp2_with (refine wpList_store_row rfl 48 _ _ rfl w2.heap.size _ rfl rfl 48 (pc pt0) HZ.out HSP.out (by rw [hp0, HSZ.out]) (pc_all _) ?_; rw [setRow_alloc])
  generalize w2.alloc (.cells (pc (said D)) 48) = W2 at *
  refine (kZeros K2.out).mono ?_
  rintro y w3 ⟨rfl, hk, hb⟩
  have K3 := hide hk
  have HP := hide (HP.out.but hb (by have := HGP.out; omega))
  have HX := hide (HX.out.but hb (by have := HRB.out; omega))
  have HA : Hid (Below w.heap.size w w3) := ((But.ofBelow (S := fun _ => False) HA.out).trans hb fun x hx e => by have := HRB.out; omega).below fun _ _ h => h
  clear hk hb K2 HZ
  go_wp2_with (refine wpList_load_row rfl 48 _ rfl w2.heap.size rfl 48 (pc (said D)) (0, 0) _ HP.out Try.underlying48 rfl HSP.out ?_)
  refine (PS.out _).mono ?_
  rintro y w4 ⟨a4, c4, rfl, hO⟩
  have DR : Hid (Dr w (w4.alloc (.cells (suC (suOf (said D)) a4 c4) 28)) rb w2.heap.size w4.heap.size R1.zeros (said D) (suOf (said D)) a4 c4) :=
    ⟨(HX.out.keep hO.b).keep (al _ _), ⟨_, (K3.out.keep hO.b).keep (al _ _)⟩, (HP.out.keep hO.b).keep (al _ _), Bx.new w4 28 _, (JOwn.pre HA.out hO).keep (al _ _)⟩
  clear hO HX HA K3 HP PS
  unfold suv suC at *
  generalize hU : suOf (said D) = U at *
  have HU := hide hU
  clear hU
  go_wp2
  generalize w4.alloc (.cells #[.int .i64 U.gen, .int .i64 U.bl, .int .i64 U.cl, .int .i64 U.rf, .int .i64 U.nx, .slice a4 U.rs.length c4] 28) = W4 at *
  have S0 := hide (fun (w' : World) (hb : Below W4.heap.size W4 w') => (show (w'.cell? ⟨w4.heap.size, 0, none⟩ = some (.int .i64 U.gen) ∧ w'.cell? ⟨w4.heap.size, 1, none⟩ = some (.int .i64 U.bl) ∧ w'.cell? ⟨w4.heap.size, 2, none⟩ = some (.int .i64 U.cl) ∧ w'.cell? ⟨w4.heap.size, 3, none⟩ = some (.int .i64 U.rf) ∧ w'.cell? ⟨w4.heap.size, 4, none⟩ = some (.int .i64 U.nx) ∧ w'.cell? ⟨w4.heap.size, 5, none⟩ = some (.slice a4 U.rs.length c4)) ∧ w'.rangeAt w2.heap.size 0 (pc (said D)).toList ∧ Below W4.heap.size W4 w' from ⟨su_six (DR.out.s.keep hb), (DR.out.p.keep hb).rng, hb⟩))
  refine wp_region_held_drew (S := fun w' => (w'.cell? ⟨w4.heap.size, 0, none⟩ = some (.int .i64 U.gen) ∧ w'.cell? ⟨w4.heap.size, 1, none⟩ = some (.int .i64 U.bl) ∧ w'.cell? ⟨w4.heap.size, 2, none⟩ = some (.int .i64 U.cl) ∧ w'.cell? ⟨w4.heap.size, 3, none⟩ = some (.int .i64 U.rf) ∧ w'.cell? ⟨w4.heap.size, 4, none⟩ = some (.int .i64 U.nx) ∧ w'.cell? ⟨w4.heap.size, 5, none⟩ = some (.slice a4 U.rs.length c4)) ∧ w'.rangeAt w2.heap.size 0 (pc (said D)).toList ∧ Below W4.heap.size W4 w') (by kernel_rfl) (S0.out _ (dr2 W4)) (fun hHeld => ?_)
  refine wpAnyH_take (i := 0) (v := ?va0) rfl (by kernel_rfl) (by kernel_rfl) (by kernel_rfl) (fun _ _ _ h => h) (Or.inl ⟨by rfl, ?hy0⟩) (by assumption) ?ra0
  case hy0 => (intro w hSw; (try dsimp only at hSw); go_simp <;> with_reducible rfl)
  try simp only [Act.put, List.getElem_toArray, List.getElem_cons_zero, List.setIfInBounds_toArray, List.set_cons_zero, List.set_cons_succ]
  refine wpAnyH_ready (rs := [1]) (by kernel_rfl) (by simp) ?_
  refine AllReadyH.cons rfl (fun K hK => ?_) AllReadyH.nil
  go_simp
  obtain ⟨v9, k9⟩ := (DR.out.keep (dr2 W4)).k
  refine (kEnd k9).mono ?_
  rintro e9 w9 ⟨rfl, hww⟩
  obtain rfl := hww.symm
  have TB1 := hide (dr2 W4)
  rw [ZF5.out]
  go_wp2_with fail
  refine hK.out _ _ (by assumption) (fun hHeld => ?_)
  clear hK K
  try simp only [Act.put, List.getElem_toArray, List.getElem_cons_zero, List.getElem_cons_succ, List.setIfInBounds_toArray, List.set_cons_zero, List.set_cons_succ]
  refine wpAnyH_take (i := 2) (v := ?va2) rfl (by kernel_rfl) (by kernel_rfl) (by kernel_rfl) (fun _ _ _ h => h) (Or.inl ⟨by rfl, ?hy2⟩) (by assumption) ?ra2
  case hy2 => (intro w hSw; (try dsimp only at hSw); go_simp <;> with_reducible rfl)
  try simp only [Act.put, List.getElem_toArray, List.getElem_cons_zero, List.getElem_cons_succ, List.setIfInBounds_toArray, List.set_cons_zero, List.set_cons_succ]
  refine wpAnyH_take (i := 3) (v := ?va3) rfl (by kernel_rfl) (by kernel_rfl) (by kernel_rfl) (fun _ _ _ h => h) (Or.inl ⟨by rfl, ?hy3⟩) (by assumption) ?ra3
  case hy3 => (intro w hSw; (try dsimp only at hSw); go_simp <;> with_reducible rfl)
  try simp only [Act.put, List.getElem_toArray, List.getElem_cons_zero, List.getElem_cons_succ, List.setIfInBounds_toArray, List.set_cons_zero, List.set_cons_succ]
  refine wpAnyH_take (i := 4) (v := ?va4) rfl (by kernel_rfl) (by kernel_rfl) (by kernel_rfl) (fun _ _ _ h => h) (Or.inl ⟨by rfl, ?hy4⟩) (by assumption) ?ra4
  case hy4 => (intro w hSw; (try dsimp only at hSw); go_simp <;> with_reducible rfl)
  try simp only [Act.put, List.getElem_toArray, List.getElem_cons_zero, List.getElem_cons_succ, List.setIfInBounds_toArray, List.set_cons_zero, List.set_cons_succ]
  refine wpAnyH_ready (rs := [5]) (by kernel_rfl) (by simp) ?_
  refine AllReadyH.cons rfl (fun K hK => ?_) AllReadyH.nil
  go_simp
  refine (CH.out _ a4 c4 (DR.out.keep TB1.out).r.r.qs).mono ?_
  rintro e9 w8 ⟨rfl, hb⟩
  have TB2 := hide (bt TB1.out hb)
  clear hb
  go_wp2_with fail
  refine hK.out _ _ (S0.out _ TB2.out) (fun hHeld => ?_)
  clear hK K
  try simp only [Act.put, List.getElem_toArray, List.getElem_cons_zero, List.getElem_cons_succ, List.setIfInBounds_toArray, List.set_cons_zero, List.set_cons_succ]
  refine wpAnyH_take (i := 6) (v := ?va6) rfl (by kernel_rfl) (by kernel_rfl) (by kernel_rfl) (fun _ _ _ h => h) (Or.inl ⟨by rfl, ?hy6⟩) (by assumption) ?ra6
  case hy6 => (intro w hSw; (try dsimp only at hSw); go_simp <;> with_reducible rfl)
  try simp only [Act.put, List.getElem_toArray, List.getElem_cons_zero, List.getElem_cons_succ, List.setIfInBounds_toArray, List.set_cons_zero, List.set_cons_succ]
  refine wpAnyH_take (i := 7) (v := ?va7) rfl (by kernel_rfl) (by kernel_rfl) (by kernel_rfl) (fun _ _ _ h => h) (Or.inl ⟨by rfl, ?hy7⟩) (by assumption) ?ra7
  case hy7 => (intro w hSw; (try dsimp only at hSw); go_simp <;> with_reducible rfl)
  try simp only [Act.put, List.getElem_toArray, List.getElem_cons_zero, List.getElem_cons_succ, List.setIfInBounds_toArray, List.set_cons_zero, List.set_cons_succ]
  refine wpAnyH_take (i := 8) (v := ?va8) rfl (by kernel_rfl) (by kernel_rfl) (by kernel_rfl) (fun _ _ _ h => h) (Or.inl ⟨by rfl, ?hy8⟩) (by assumption) ?ra8
  case hy8 => (intro w hSw; (try dsimp only at hSw); go_simp <;> with_reducible rfl)
  try simp only [Act.put, List.getElem_toArray, List.getElem_cons_zero, List.getElem_cons_succ, List.setIfInBounds_toArray, List.set_cons_zero, List.set_cons_succ]
  refine wpAnyH_take (i := 9) (v := ?va9) rfl (by kernel_rfl) (by kernel_rfl) (by kernel_rfl) (fun _ _ _ h => h) (Or.inl ⟨by rfl, ?hy9⟩) (by assumption) ?ra9
  case hy9 => (intro w hSw; (try dsimp only at hSw); go_simp <;> with_reducible rfl)
  try simp only [Act.put, List.getElem_toArray, List.getElem_cons_zero, List.getElem_cons_succ, List.setIfInBounds_toArray, List.set_cons_zero, List.set_cons_succ]
  refine wpAnyH_take (i := 11) (v := .agg (pc (said D))) rfl (by kernel_rfl) (by kernel_rfl) (by kernel_rfl) (fun _ _ _ h => h) (yieldsIf_load_arr (by rfl) _ _ rfl w2.heap.size 0 rfl (pc (said D)) _ (fun w hw => hw.2.1) hui rfl hii) (by assumption) ?_
  try simp only [Act.put, List.getElem_toArray, List.getElem_cons_zero, List.getElem_cons_succ, List.setIfInBounds_toArray, List.set_cons_zero, List.set_cons_succ]
  refine wpAnyH_ready (rs := [10]) (by kernel_rfl) (by simp) ?_
  refine AllReadyH.cons rfl (fun K hK => ?_) AllReadyH.nil
  go_simp
  refine (PO.out _ a4 c4 (DR.out.keep TB2.out).r.r.qs).mono ?_
  rintro e9 w7 ⟨rfl, hb⟩
  have TB3 := hide (bt TB2.out hb)
  clear hb
  go_wp2_with fail
  refine hK.out _ _ (S0.out _ TB3.out) (fun hHeld => ?_)
  clear hK K
  try simp only [Act.put, List.getElem_toArray, List.getElem_cons_zero, List.getElem_cons_succ, List.setIfInBounds_toArray, List.set_cons_zero, List.set_cons_succ]
  refine wpAnyH_take (i := 12) (v := ?va12) rfl (by kernel_rfl) (by kernel_rfl) (by kernel_rfl) (fun _ _ _ h => h) (Or.inl ⟨by rfl, ?hy12⟩) (by assumption) ?ra12
  case hy12 => (intro w hSw; (try dsimp only at hSw); go_simp <;> with_reducible rfl)
  try simp only [Act.put, List.getElem_toArray, List.getElem_cons_zero, List.getElem_cons_succ, List.setIfInBounds_toArray, List.set_cons_zero, List.set_cons_succ]
  refine wpAnyH_take (i := 13) (v := ?va13) rfl (by kernel_rfl) (by kernel_rfl) (by kernel_rfl) (fun _ _ _ h => h) (Or.inl ⟨by rfl, ?hy13⟩) (by assumption) ?ra13
  case hy13 => (intro w hSw; (try dsimp only at hSw); go_simp <;> with_reducible rfl)
  try simp only [Act.put, List.getElem_toArray, List.getElem_cons_zero, List.getElem_cons_succ, List.setIfInBounds_toArray, List.set_cons_zero, List.set_cons_succ]
  refine wpAnyH_done (by kernel_rfl) ?_ _
  have HO := hide (DR.out.keep TB3.out).o
  have HSS := hide (DR.out.keep TB3.out).s
  have HJ := hide (DR.out.keep TB3.out).r
  unfold suC at HSS
  go_wp2_with (first
    | (refine wpList_load_row rfl 28 _ rfl w4.heap.size rfl 28 _ (0, 0) _ HSS.out Try.underlying28 rfl sizeSuper ?_)
    | (refine wpList_store_row rfl 28 _ _ rfl w.heap.size _ rfl rfl 28 z6 HO.out sizeSuper rfl (by simp [Value.oneCell']) ?_))
  refine bodyPost_ret (v := .tuple #[.agg _, _]) (results_cell_one Try.results5 _ _ w.heap.size 28 _ (0, 0) _ rfl (setRow_heap _ _ _ _ _ _ HO.out) Try.underlying28 rfl sizeSuper) rfl ?_
  exact HD.out _ _ _ ⟨HJ.out.r.but (but_setRow _ _ _) fun x hx e2 => HJ.out.r.off HO.out (by decide) x.block (by rw [hx]; rfl) e2, HJ.out.n, below_setRow HJ.out.b (Nat.le_refl _) _⟩
theorem Decode_any (w : World) (a : Option Addr) (n c : Nat) (b : List Nat) (hB : Bs w a b) (hn : n = b.length) (hc : b.length ≤ c) : Calls Try.prog 5 #[.slice a n c] w (DeQ w b) := by
  by_cases hl : b.length = 512
  · rw [hl] at hn hc
    subst hn
    by_cases hs : numV (b.drop 508) = M.of (b.take 508)
    · cases hZ : ((b.take 508).drop (26 + 13 * min (nv (b.take 508) 25 1) 16)).all (· == 0) with
      | false => exact Decode_zer w a c b hB hl hc hs hZ
      | true =>
        by_cases hC : chE (suOf (said (b.take 508))) = 0
        · cases hV : (decide (nv (b.take 508) 0 4 = 827346755) && decide (nv (b.take 508) 25 1 ≤ 16)) with
          | false => exact Decode_bad w a c b hB hl hc hs hZ hC hV
          | true => exact Decode_good w a c b hB hl hc hs hZ hC hV
        · exact Decode_chk w a c b hB hl hc hs hZ hC
    · exact Decode_sum w a c b hB hl hc hs
  · exact Decode_len w a n c b hn hl
end Go.Proofs.Ytifhkfghjifecaa
