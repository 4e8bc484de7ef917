import Derived.Test.YticcpkdhfdefpaaND
import Derived.Laws.MakeOwn
namespace Go.Proofs.Yticcpkdhfdefpaa
open Go.RowKit

/-! ### the counts of one block in an array -/
def vh (R : List Nat) : List Value := R.map fun x => Value.int .u16 ((x : Nat) : Int)
theorem vh_length (R : List Nat) : (vh R).length = R.length := by unfold vh; rw [List.length_map]
theorem vh_one (R : List Nat) : ∀ u ∈ vh R, u.oneCell' = true := by
  intro u hu
  obtain ⟨x, _, rfl⟩ := List.mem_map.1 hu
  rfl
theorem vh_get (R : List Nat) {i : Nat} (hi : i < R.length) : (vh R).toArray[i]? = some (.int .u16 ((R.getD i 0 : Nat) : Int)) := by simp [vh, hi]
/-- so many counts, the rest 0 -/
def ful (cs : List Nat) : List Nat := cs ++ List.replicate (240 - cs.length) 0
theorem ful_length {cs : List Nat} (h : cs.length ≤ 240) : (ful cs).length = 240 := by unfold ful; rw [List.length_append, List.length_replicate]; omega
def rc (cs : List Nat) : Array Value := (vh (ful cs)).toArray
theorem rc_size {cs : List Nat} (h : cs.length ≤ 240) : (rc cs).size = 240 := by unfold rc; rw [List.size_toArray, vh_length, ful_length h]
theorem rc_all (cs : List Nat) : (rc cs).all (·.oneCell') = true := all_oneCell_toArray (vh_one _)
theorem rc_get {cs : List Nat} {i : Nat} (h : i < cs.length) (hl : cs.length ≤ 240) : (rc cs)[i]? = some (.int .u16 ((cs.getD i 0 : Nat) : Int)) := by
  unfold rc
  rw [vh_get _ (by rw [ful_length hl]; omega)]
  unfold ful
  simp [h, List.getElem?_append_left h]
theorem rc_set {cs : List Nat} {x : Nat} (h : cs.length < 240) : (rc cs).setIfInBounds cs.length (.int .u16 ((x : Nat) : Int)) = rc (cs ++ [x]) := by
  have e : (ful cs).set cs.length x = ful (cs ++ [x]) := by
    unfold ful
    rw [List.set_append_right _ _ (Nat.le_refl _), Nat.sub_self, List.length_append, show 240 - cs.length = (240 - (cs.length + 1)) + 1 by omega, List.replicate_succ]
    simp
  unfold rc
  rw [← e]
  unfold vh
  rw [List.map_set]
  simp
theorem infoRow : (Try.prog.info? 62).map (fun i => (i.zero, i.size)) = some (some (.agg (rc [])), 240) := by kernel_rfl
theorem zeroRow (w : World) : (zeroValue 62).run Try.prog w = .ok (.agg (rc [])) w := (zero_of_info infoRow).1 w
theorem sizeRow {cs : List Nat} (h : cs.length ≤ 240) : (Try.prog.info? 62).map (·.size) = some (rc cs).size := by rw [rc_size h]; exact (zero_of_info infoRow).2
set_option maxRecDepth 8000 in
set_option maxHeartbeats 3200000 in
theorem readRow_any (v w : World) (b n : Nat) (D : List Nat) (h : Rk v w b ⟨D.drop 17, 0⟩) (hn : n ≤ 240) (hl : 17 + 2 * n ≤ D.length) :
    Calls Try.prog 39 #[.pointer (some ⟨b, 0, none⟩), .int .i64 (n : Int)] w fun y w' => y = .returned (.agg (rc (cnt D n))) ∧ Rk v w' b ⟨D.drop (17 + 2 * n), 0⟩ ∧ But (fun k => k = b) w w' := by
  have HV := hide h.size
  have H := hide (Hr.start h 62 (rc []))
  have hz := zeroRow
  clear h
  go_enter Try.func39, Try.ntmps39
  go_wp2
  generalize (w.alloc (.cells (rc []) 62)).alloc (.cells (rc []) 62) = W at *
  go_loopw [8] (fun i wx => ∃ j : Nat, j ≤ n ∧ i = .int .i64 j ∧ Hr v w b 62 (rc []) wx ⟨D.drop (17 + 2 * j), 0⟩ (rc (cnt D j))) (fun i _ => n - (intOf i).toNat)
  case atStart => exact ⟨0, Nat.zero_le _, rfl, H.out⟩
  case round =>
    obtain ⟨j, hj, rfl, hH⟩ := hrel
    have H := hide hH
    clear hH
    have hcl := cnt_length D j
    by_cases hlt : j < n
    · have hlti : (j : Int) < (n : Int) := by omega
      have hj240 : (j : Int) < 240 := by omega
      have GT : Hid (((⟨D.drop (17 + 2 * j), 0⟩ : RS).get 2) = (numV ((D.drop (17 + 2 * j)).take 2), ⟨D.drop (17 + 2 * (j + 1)), 0⟩)) := by
        show _ = _
        rw [get_cut (by rw [List.length_drop]; omega), List.drop_drop]
        rfl
      have CS := hide (cnt_succ D j)
      go_wp2_with fail
      refine (kGet16 H.out.k).mono ?_
      rintro y w2 ⟨rfl, hk, hb⟩
      rw [GT.out] at hk ⊢
      have H := hide (H.out.call HV.out hk hb)
      clear hk hb
      dsimp only at H ⊢
      generalize numV ((D.drop (17 + 2 * j)).take 2) = x at *
      generalize cnt D j = cs at *
      have f0 := frozen_of_row _ (w.heap.size + 1) j _ _ H.out.i
      have e0 := H.out.i.cell j (v := (rc cs)[j]'(by rw [rc_size (by omega)]; omega)) (by simp)
      have HN := hide (H.out.set HV.out j (.int .u16 (x : Int)))
      have hst : Hid ((rc cs).setIfInBounds j (.int .u16 (x : Int)) = rc (cs ++ [x])) := by
        show _ = _
        rw [← rc_set (by omega), hcl]
      rw [hst.out] at HN
      go_wp2
      go_roundw
      case rel => exact ⟨j + 1, by omega, by go_num, by rw [CS.out]; exact HN.out⟩
      case measure => simp [intOf]; omega
    · obtain rfl : j = n := by omega
      have hcl' : (cnt D j).length ≤ 240 := by omega
      go_wp2_with (first
        | (refine wpList_load_row rfl 62 _ rfl (w.heap.size + 1) rfl 62 (rc (cnt D j)) (0, 0) _ H.out.i Try.underlying62 rfl (sizeRow hcl') ?_)
        | (refine wpList_store_row rfl 62 _ _ rfl w.heap.size _ rfl rfl 62 _ H.out.o (sizeRow hcl') (by rw [rc_size hcl', rc_size (by simp)]) (rc_all _) ?_))
      refine bodyPost_ret (v := .agg (rc (cnt D j))) (results_cell_row Try.results39 _ _ w.heap.size 62 _ (0, 0) _ rfl (setRow_heap _ _ _ _ _ _ H.out.o) Try.underlying62 rfl (sizeRow hcl')) rfl ⟨rfl, ?_, ?_⟩
      · exact H.out.k.but (but_setRow _ _ _) fun k hk => by have := HV.out; omega
      · exact H.out.u.trans (but_setRow _ _ _) fun x hx e => by omega
/-- two variables: what is handed out, and what is filled -/
structure Hw (w : World) (t : TypeId) (z : Array Value) (W : World) (c : Array Value) : Prop where
  o : Bx W t w.heap.size z
  i : Bx W t (w.heap.size + 1) c
  b : Below w.heap.size w W
theorem Hw.set {w : World} {t : TypeId} {z : Array Value} {W : World} {c : Array Value} (h : Hw w t z W c) (i : Nat) (u : Value) : Hw w t z (W.setCell ⟨w.heap.size + 1, i, none⟩ u) (c.setIfInBounds i u) :=
  ⟨h.o.oth (p := ⟨w.heap.size + 1, i, none⟩) (by simp) u, h.i.setc i u, ((But.ofBelow (S := fun _ => False) h.b).setCell (p := ⟨w.heap.size + 1, i, none⟩) (fun hp => by simp only at hp; omega) u).below fun _ _ h => h⟩
theorem Hw.keep {w : World} {t : TypeId} {z : Array Value} {W W' : World} {c : Array Value} (h : Hw w t z W c) (hb : Below W.heap.size W W') : Hw w t z W' c := ⟨h.o.keep hb, h.i.keep hb, bt h.b hb⟩
theorem Hw.start (w : World) (t : TypeId) (z : Array Value) : Hw w t z ((w.alloc (.cells z t)).alloc (.cells z t)) z := by
  refine ⟨(Bx.new w t z).keep (al _ _), ?_, bt (al w (.cells z t)) (al _ (.cells z t))⟩
  have := Bx.new (w.alloc (.cells z t)) t z
  rwa [size_alloc] at this
theorem nats_get (C : List Int) {q : Nat} (h : q < C.length) : (nats C).getD q 0 = (C.getD q 0).toNat := by simp [nats, h]
theorem chunk_get (cs : List Nat) (i : Nat) {j : Nat} (h : j < (chunk cs i).length) : (chunk cs i).getD j 0 = cs.getD (i * 240 + j) 0 := by
  rw [chunk_length] at h
  have h1 := cin_le cs.length i
  unfold chunk
  simp [show j < 240 by omega, Nat.mul_comm]
set_option maxRecDepth 8000 in
set_option maxHeartbeats 3200000 in
theorem rowOf_any (w : World) (a : Option Addr) (c : Nat) (C : List Int) (hI : Ir w a C) (i : Nat) (hi : i < nbl C.length) (hl : C.length ≤ 65536) (hc : ∀ x ∈ C, 0 ≤ x ∧ x < 65536) :
    Calls Try.prog 53 #[.slice a C.length c, .int .i64 (i : Int)] w fun y w' => y = .returned (.agg (rc (chunk (nats C) i))) ∧ Below w.heap.size w w' := by
  have H := hide (Hw.start w 62 (rc []))
  have hz := zeroRow
  have HI := hide hI
  have HC := hide hc
  have CI := hide fun w1 => countsIn_any w1 C.length i hl hi
  have hcl : (chunk (nats C) i).length = cin C.length i := by rw [chunk_length, nats_length]
  have hn := cin_le C.length i
  have hi' : i ≤ 274 := by unfold nbl at hi; omega
  have hin : ∀ j, j < cin C.length i → i * 240 + j < C.length := by intro j hj; unfold cin at hj; omega
  have HIN := hide hin
  generalize hnn : cin C.length i = n at *
  clear hI hc hi hin
  go_enter Try.func53, Try.ntmps53
  go_wp2_with (go_at_call 38; refine (CI.out _).mono ?_; rintro y w1 ⟨rfl, hww⟩; obtain rfl := hww.symm)
  generalize (w.alloc (.cells (rc []) 62)).alloc (.cells (rc []) 62) = W at *
  go_loopw [11] (fun q wx => ∃ j : Nat, j ≤ n ∧ q = .int .i64 j ∧ Hw w 62 (rc []) wx (rc ((chunk (nats C) i).take j))) (fun q _ => n - (intOf q).toNat)
  case atStart => exact ⟨0, Nat.zero_le _, rfl, H.out⟩
  case round =>
    obtain ⟨j, hj, rfl, hH⟩ := hrel
    have H := hide hH
    clear hH
    by_cases hlt : j < n
    · have hlti : (j : Int) < (n : Int) := by omega
      have hj240 : (j : Int) < 240 := by omega
      have hq := HIN.out j hlt
      obtain ⟨m, hm, hm6⟩ : ∃ m : Nat, C.getD (i * 240 + j) 0 = (m : Int) ∧ m < 65536 := by
        have h1 := HC.out (C.getD (i * 240 + j) 0) (by simp [hq])
        exact ⟨(C.getD (i * 240 + j) 0).toNat, by omega, by omega⟩
      have CS : Hid ((chunk (nats C) i).take (j + 1) = (chunk (nats C) i).take j ++ [m]) := by
        show _ = _
        rw [← take_snoc _ (by omega), chunk_get _ _ (by omega), nats_get _ hq, hm]
        rfl
      have hlj : ((chunk (nats C) i).take j).length = j := by rw [List.length_take]; omega
      obtain ⟨b1, o1, rfl, cA⟩ := (HI.out.keep H.out.b).at hq
      rw [hm] at cA
      have hqi : (i : Int) * 240 + (j : Int) < (C.length : Int) := by omega
      have hqn : (i : Int) * 240 + (j : Int) = ((i * 240 + j : Nat) : Int) := by push_cast; rfl
      have c1 : IntKind.u16.wrap (m : Int) = (m : Int) := by rw [IntKind.wrap_u16]; omega
      generalize i * 240 + j = q at *
      generalize (chunk (nats C) i).take j = cs at *
      have f0 := frozen_of_row _ (w.heap.size + 1) j _ _ H.out.i
      have e0 := H.out.i.cell j (v := (rc cs)[j]'(by rw [rc_size (by omega)]; omega)) (by simp)
      have HN := hide (H.out.set j (.int .u16 (m : Int)))
      have hst : Hid ((rc cs).setIfInBounds j (.int .u16 (m : Int)) = rc (cs ++ [m])) := by
        show _ = _
        rw [← rc_set (by omega), hlj]
      rw [hst.out] at HN
      go_wp2
      go_roundw
      case rel => exact ⟨j + 1, by omega, by go_num, by rw [CS.out]; exact HN.out⟩
      case measure => simp [intOf]; omega
    · obtain rfl : j = n := by omega
      have e : (chunk (nats C) i).take j = chunk (nats C) i := List.take_of_length_le (by omega)
      rw [e] at H
      have hcl' : (chunk (nats C) i).length ≤ 240 := by omega
      go_wp2_with (first
        | (refine wpList_load_row rfl 62 _ rfl (w.heap.size + 1) rfl 62 (rc (chunk (nats C) i)) (0, 0) _ H.out.i Try.underlying62 rfl (sizeRow hcl') ?_)
        | (refine wpList_store_row rfl 62 _ _ rfl w.heap.size _ rfl rfl 62 _ H.out.o (sizeRow hcl') (by rw [rc_size hcl', rc_size (by simp)]) (rc_all _) ?_))
      refine bodyPost_ret (v := .agg (rc (chunk (nats C) i))) (results_cell_row Try.results53 _ _ w.heap.size 62 _ (0, 0) _ rfl (setRow_heap _ _ _ _ _ _ H.out.o) Try.underlying62 rfl (sizeRow hcl')) rfl ⟨rfl, ?_⟩
      exact below_setRow H.out.b (Nat.le_refl _) _
set_option maxRecDepth 8000 in
set_option maxHeartbeats 1600000 in
theorem Rwrite_any (v w : World) (G : Nat → Prop) (b : Nat) (l cs : List Nat) (n : Nat) (h : Wk v G w b l) (hG : Gl G w) (hn : n = cs.length) (h240 : cs.length ≤ 240) (hc : ∀ x ∈ cs, x < 65536) (hl : l.length + 2 * cs.length ≤ 512) :
    Calls Try.prog 54 #[.agg (rc cs), .pointer (some ⟨b, 0, none⟩), .int .i64 (n : Int)] w fun y w' => y = .returned (.tuple #[]) ∧ Dk v G w w' b (l ++ cB cs) := by
  subst hn
  have HB := hide (Bx.new w 62 (rc cs))
  have K0 := hide (h.more (al w (.cells (rc cs) 62)) (fun k => G k ∨ k = w.heap.size) (fun k hk => hk.imp id (fun e => Nat.le_of_eq e.symm)))
  have HG0 : Hid (Gl (fun k => G k ∨ k = w.heap.size) (w.alloc (.cells (rc cs) 62))) := by
    intro k hk
    rw [size_alloc]
    rcases hk with hk | rfl
    · have := hG k hk; omega
    · omega
  have HAL := hide (al w (.cells (rc cs) 62))
  have HC := hide hc
  clear h hG hc
  go_enter Try.func54, Try.ntmps54
  go_wp2
  generalize w.alloc (.cells (rc cs) 62) = W at *
  go_loopw [8] (fun q wx => ∃ j : Nat, j ≤ cs.length ∧ q = .int .i64 j ∧ Dk v (fun k => G k ∨ k = w.heap.size) W wx b (l ++ cB (cs.take j))) (fun q _ => cs.length - (intOf q).toNat)
  case atStart => exact ⟨0, Nat.zero_le _, rfl, by simpa [cB] using Dk.refl K0.out⟩
  case round =>
    obtain ⟨j, hj, rfl, hH⟩ := hrel
    have D := hide hH
    clear hH
    by_cases hlt : j < cs.length
    · have hlti : (j : Int) < (cs.length : Int) := by omega
      have hj240 : (j : Int) < 240 := by omega
      have hx6 : cs.getD j 0 < 65536 := HC.out _ (by simp [hlt])
      have hlen : Hid ((l ++ cB (cs.take j)).length + 2 ≤ 512) := by
        show _ ≤ _
        rw [List.length_append, cB_length, List.length_take]
        omega
      have SN : Hid (l ++ cB (cs.take (j + 1)) = l ++ cB (cs.take j) ++ numB (cs.getD j 0) 2) := by
        show _ = _
        rw [← take_snoc _ hlt, cB_append, cB_one, List.append_assoc]
      have e0 := Bx.cell (t := 62) (D.out.box HB.out (.inr rfl)) j (rc_get hlt h240)
      generalize cs.getD j 0 = x at *
      go_wp2_with fail
      refine (wPut16 D.out.k (D.out.gl HG0.out) x hx6 hlen.out).mono ?_
      rintro y w2 ⟨rfl, hd⟩
      have D := hide (D.out.trans hd)
      clear hd
      rw [← SN.out] at D
      go_wp2
      go_roundw
      case rel => exact ⟨j + 1, by omega, by go_num, D.out⟩
      case measure => simp [intOf]; omega
    · obtain rfl : j = cs.length := by omega
      rw [List.take_length] at D
      go_wp2
      go_end0
      exact ⟨rfl, D.out.back HAL.out (G := G) (fun k hk => .inl hk)⟩
theorem make_int (n : Nat) (hc : n ≤ 17592186044416) (w : World) : (Instr.makeSlice 22 (.int .i64 (n : Int)) (.int .i64 (n : Int))).run Try.prog w = .ok (.slice (some ⟨w.heap.size, 0, none⟩) n n) (w.alloc (.cells (madeCells #[.int .i64 0] n) 3)) := by
  obtain ⟨i0, hi, hz0, hz1, hz2⟩ := info_parts infoI64
  have hr := run_make (P := Try.prog) w 22 3 i0 (.int .i64 0) Try.underlying22 hi hz0 .i64 .i64 n n (by omega) (by omega) (by rw [hz2]; omega) (by omega)
  simp only [Int.toNat_natCast, hz1, Nat.mul_one] at hr
  exact hr
theorem made_ints (n : Nat) : madeCells #[Value.int .i64 0] n = (vi (List.replicate n 0)).toArray := by
  unfold madeCells vi
  apply Array.ext
  · simp
  · intro i h1 h2
    simp [Nat.mod_one]
/-- a list that was made and is filled from its front -/
def fil (L : List Int) (n : Nat) : List Int := L ++ List.replicate (n - L.length) 0
theorem fil_nil (n : Nat) : fil [] n = List.replicate n 0 := by simp [fil]
theorem fil_length {L : List Int} {n : Nat} (h : L.length ≤ n) : (fil L n).length = n := by unfold fil; rw [List.length_append, List.length_replicate]; omega
theorem fil_all {L : List Int} {n : Nat} (h : L.length = n) : fil L n = L := by unfold fil; rw [h]; simp
theorem fil_set {L : List Int} {n : Nat} {x : Int} (h : L.length < n) : (fil L n).set L.length x = fil (L ++ [x]) n := by
  unfold fil
  rw [List.set_append_right _ _ (Nat.le_refl _), Nat.sub_self, List.length_append, show n - L.length = (n - (L.length + 1)) + 1 by omega, List.replicate_succ]
  simp
theorem Ig.bx {w : World} {g : Nat} {l : List Int} (h : Bx w 3 g (vi l).toArray) (hl : l.length ≤ maxLen) : Ig w (some ⟨g, 0, none⟩) l.length l :=
  Ig.mk h (Nat.le_refl _) hl (by simp [vi_length]) (by rw [List.take_of_length_le (by simp [vi_length])])
def ints (cs : List Nat) : List Int := cs.map fun x : Nat => (x : Int)
theorem ints_length (cs : List Nat) : (ints cs).length = cs.length := by simp [ints]
theorem take_snocI (l : List Int) {k : Nat} (h : k < l.length) : l.take k ++ [l.getD k 0] = l.take (k + 1) := by
  rw [List.take_succ_eq_append_getElem h]; simp [h]
set_option maxRecDepth 8000 in
set_option maxHeartbeats 1600000 in
theorem Rlist_any (w : World) (cs : List Nat) (n : Nat) (hn : n = cs.length) (h240 : cs.length ≤ 240) (hc : ∀ x ∈ cs, x < 65536) :
    Calls Try.prog 42 #[.agg (rc cs), .int .i64 (n : Int)] w fun y w' => ∃ a c, y = .returned (.slice a cs.length c) ∧ IOwn w w' a c (ints cs) := by
  subst hn
  have HC := hide hc
  clear hc
  have hmk := make_int cs.length (by omega)
  have HB := hide ((Bx.new w 62 (rc cs)).keep (al _ (.cells (madeCells #[.int .i64 0] cs.length) 3)))
  have HI : Hid (Bx ((w.alloc (.cells (rc cs) 62)).alloc (.cells (madeCells #[.int .i64 0] cs.length) 3)) 3 (w.heap.size + 1) (vi (fil [] cs.length)).toArray) := by
    show Bx _ _ _ _
    have := Bx.new (w.alloc (.cells (rc cs) 62)) 3 (madeCells #[.int .i64 0] cs.length)
    rw [size_alloc, made_ints, ← fil_nil] at this
    rw [made_ints, ← fil_nil]
    exact this
  have HBL := hide (bt (al w (.cells (rc cs) 62)) (al _ (.cells (madeCells #[.int .i64 0] cs.length) 3)))
  have hsz := size_alloc w (.cells (rc cs) 62)
  go_enter Try.func42, Try.ntmps42
  go_wp2
  generalize (w.alloc (.cells (rc cs) 62)).alloc (.cells (madeCells #[.int .i64 0] cs.length) 3) = W at *
  go_loopw [10] (fun q wx => ∃ j : Nat, j ≤ cs.length ∧ q = .int .i64 j ∧ Bx wx 62 w.heap.size (rc cs) ∧ Bx wx 3 (w.heap.size + 1) (vi (fil ((ints cs).take j) cs.length)).toArray ∧ Below w.heap.size w wx) (fun q _ => cs.length - (intOf q).toNat)
  case atStart => exact ⟨0, Nat.zero_le _, rfl, HB.out, by simpa using HI.out, HBL.out⟩
  case round =>
    obtain ⟨j, hj, rfl, h1, h2, h3⟩ := hrel
    have H1 := hide h1
    have H2 := hide h2
    have H3 := hide h3
    clear h1 h2 h3 HB HI HBL
    have hlj : ((ints cs).take j).length = j := by rw [List.length_take, ints_length]; omega
    by_cases hlt : j < cs.length
    · have hlti : (j : Int) < (cs.length : Int) := by omega
      have hj240 : (j : Int) < 240 := by omega
      have e1 := H1.out.cell j (rc_get hlt h240)
      have CS : Hid ((ints cs).take (j + 1) = (ints cs).take j ++ [((cs.getD j 0 : Nat) : Int)]) := by
        show _ = _
        rw [← take_snocI _ (by rw [ints_length]; exact hlt)]
        simp [ints, hlt]
      have hx6 : cs.getD j 0 < 65536 := HC.out _ (by simp [hlt])
      generalize cs.getD j 0 = x at *
      generalize (ints cs).take j = L at *
      have f0 := frozen_of_row _ (w.heap.size + 1) j _ _ H2.out
      have hfl : j < (fil L cs.length).length := by rw [fil_length (by omega)]; exact hlt
      have e0 := H2.out.cell j (v := .int .i64 ((fil L cs.length).getD j 0)) (by simp [vi, hfl])
      have N1 := hide (H1.out.oth (p := ⟨w.heap.size + 1, j, none⟩) (by simp) (.int .i64 (x : Int)))
      have N2 := hide (H2.out.setc j (.int .i64 (x : Int)))
      have N3 := hide (((But.ofBelow (S := fun _ => False) H3.out).setCell (p := ⟨w.heap.size + 1, j, none⟩) (fun hp => by simp only at hp; omega) (.int .i64 (x : Int))).below fun _ _ h => h)
      have hst : Hid ((vi (fil L cs.length)).toArray.setIfInBounds j (.int .i64 (x : Int)) = (vi (fil (L ++ [(x : Int)]) cs.length)).toArray) := by
        show _ = _
        rw [← fil_set (by omega), hlj]
        unfold vi
        rw [List.map_set]
        simp
      rw [hst.out] at N2
      go_wp2
      go_roundw
      case rel => exact ⟨j + 1, by omega, by go_num, N1.out, by rw [CS.out]; exact N2.out, N3.out⟩
      case measure => simp [intOf]; omega
    · obtain rfl : j = cs.length := by omega
      rw [List.take_of_length_le (by rw [ints_length]; omega), fil_all (ints_length cs)] at H2
      go_wp2
      go_ret
      refine ⟨some ⟨w.heap.size + 1, 0, none⟩, cs.length, rfl, ?_, newHere w _ (by omega), H3.out⟩
      have := Ig.bx H2.out (by rw [ints_length]; unfold maxLen; omega)
      rwa [ints_length] at this
end Go.Proofs.Yticcpkdhfdefpaa
