import Derived.Test.YticcpkdhfdefpaaNT
import Derived.Test.YticcpkdhfdefpaaNRB
namespace Go.Proofs.Yticcpkdhfdefpaa
open Go.RowKit

/-! ### the document's reader, new memory all of it -/
def Rz (v w : World) (b : Nat) (full : List Nat) (s : RS) : Prop := Below v.heap.size v w ∧ v.heap.size ≤ b ∧ ∃ a cap, Rq w b a cap full s ∧ New v none a
theorem Rq.keep {w w' : World} {b : Nat} {a : Option Addr} {cap : Nat} {full : List Nat} {s : RS} (h : Rq w b a cap full s) (hb : Below w.heap.size w w') : Rq w' b a cap full s := by
  obtain ⟨p, h1, h2⟩ := h
  exact ⟨p, h1.keep hb, h2⟩
theorem Rz.keep {v w w' : World} {b : Nat} {full : List Nat} {s : RS} (h : Rz v w b full s) (hb : Below w.heap.size w w') : Rz v w' b full s := by
  obtain ⟨h1, h2, a, cap, h3, h4⟩ := h
  exact ⟨bt h1 hb, h2, a, cap, h3.keep hb, h4⟩
theorem Rz.did {v w w' : World} {b : Nat} {full : List Nat} {s' : RS} {a : Option Addr} {cap : Nat} (h1 : Below v.heap.size v w) (h2 : v.heap.size ≤ b) (h4 : New v none a) (hd : DidQ w w' b a cap full s') : Rz v w' b full s' :=
  ⟨((But.ofBelow (S := fun _ => False) h1).trans hd.2 fun x hx e => by omega).below fun _ _ h => h, h2, a, cap, hd.1, h4⟩
theorem Rz.type {v w : World} {b : Nat} {full : List Nat} {s : RS} (h : Rz v w b full s) : ∃ cs, w.heap[b]? = some (.cells cs 97 (0, 0)) := by
  obtain ⟨_, _, a, cap, ⟨p, h1, _⟩, _⟩ := h
  exact ⟨_, h1.1⟩
theorem Rz.ne {v w : World} {b : Nat} {full : List Nat} {s : RS} (h : Rz v w b full s) {a : Option Addr} {c : Nat} {l : List Int} (hr : Ig w a c l) {x : Addr} (hx : a = some x) : x.block ≠ b := by
  intro e
  obtain ⟨cs, ht⟩ := h.type
  rcases hr.cases with ⟨rfl, _⟩ | ⟨g, cur, rfl, hg, _⟩
  · cases hx
  · cases hx
    dsimp only at e
    subst e
    rw [hg] at ht
    simp only [Option.some.injEq, Obj.cells.injEq] at ht
    exact absurd ht.2.1 (by decide)
theorem Ig.neB {w : World} {a a' : Option Addr} {c c' : Nat} {l : List Int} {k : List Nat} (h : Ig w a c l) (hR : Rw w a' c' k) {x y : Addr} (hx : a = some x) (hy : a' = some y) : x.block ≠ y.block := by
  intro e
  rcases h.cases with ⟨rfl, _⟩ | ⟨g, cur, rfl, hg, _⟩
  · cases hx
  · rcases hR.cases with ⟨rfl, _⟩ | ⟨g', cur', rfl, hg', _⟩
    · cases hy
    · cases hx; cases hy
      dsimp only at e
      subst e
      rw [hg] at hg'
      simp only [Option.some.injEq, Obj.cells.injEq] at hg'
      exact absurd hg'.2.1 (by decide)
/-- a list of numbers grows beside it -/
theorem Rz.grown {v w w' : World} {b : Nat} {full : List Nat} {s : RS} {a : Option Addr} {c : Nat} {l : List Int} (h : Rz v w b full s) (hr : Ig w a c l) (hN : New v none a) (hg : w.grownBy w' (a.map Addr.block)) : Rz v w' b full s := by
  have hne := fun x hx => h.ne hr (x := x) hx
  obtain ⟨h1, h2, aR, cap, ⟨p, h3, h5⟩, h4⟩ := h
  have hB : But (fun k => a.map Addr.block = some k) w w' := (But.refl _ _).grown hg fun k hk _ => hk
  refine ⟨((But.ofBelow (S := fun _ => False) h1).trans hB fun x hx e => ?_).below fun _ _ h => h, h2, aR, cap, ⟨p, h3.but hB ?_, h5⟩, h4⟩
  · obtain ⟨y, hy, e2⟩ := map_some e
    have := new_at hN hy
    omega
  · rintro k (rfl | ⟨y, hy, rfl⟩) e
    · obtain ⟨x, hx, e2⟩ := map_some e
      exact hne x hx e2
    · obtain ⟨x, hx, e2⟩ := map_some e
      exact hr.neB h3.2.1 hx hy e2
theorem zNew (v : World) (a : Option Addr) (n c : Nat) (l : List Nat) (hB : Bs v a l) (hn : n = l.length) (hl : l.length ≤ 140737488355328) : Calls Try.prog 44 #[.slice a n c] v fun y w' => ∃ b, y = .returned (.pointer (some ⟨b, 0, none⟩)) ∧ Rz v w' b l ⟨l, 0⟩ := by
  refine (rNewReader_any v a n c l hB hn hl).mono ?_
  rintro y w' ⟨b, a', cap, rfl, h1, h2, h3, h4⟩
  exact ⟨b, rfl, h4, h2, a', cap, h1, h3⟩
theorem zGet {v w : World} {b : Nat} {full : List Nat} {s : RS} (h : Rz v w b full s) (k : Nat) (hk : k ≤ 8) : Calls Try.prog 45 #[.pointer (some ⟨b, 0, none⟩), .int .i64 (k : Int)] w fun y w' => y = .returned (.int .u64 (numV (s.raw (k : Int)).1 : Int)) ∧ Rz v w' b full (s.raw (k : Int)).2 ∧ But (fun k => k = b) w w' := by
  obtain ⟨h1, h2, a, cap, h3, h4⟩ := h
  refine (rRGet_any w b a cap full s k hk h3).mono ?_
  rintro y w' ⟨rfl, hd⟩
  exact ⟨rfl, Rz.did h1 h2 h4 hd, hd.2⟩
theorem zZeros {v w : World} {b : Nat} {full : List Nat} {s : RS} (h : Rz v w b full s) : Calls Try.prog 46 #[.pointer (some ⟨b, 0, none⟩)] w fun y w' => y = .returned (.tuple #[]) ∧ Rz v w' b full s.zeros ∧ But (fun k => k = b) w w' := by
  obtain ⟨h1, h2, a, cap, h3, h4⟩ := h
  refine (rRZeros_any w b a cap full s h3).mono ?_
  rintro y w' ⟨rfl, hd⟩
  exact ⟨rfl, Rz.did h1 h2 h4 hd, hd.2⟩
theorem zEnd {v w : World} {b : Nat} {full : List Nat} {s : RS} (h : Rz v w b full s) : Calls Try.prog 47 #[.pointer (some ⟨b, 0, none⟩)] w fun y w' => y = .returned (.int .i64 (s.fin : Int)) ∧ Below w.heap.size w w' := by
  obtain ⟨h1, h2, a, cap, h3, h4⟩ := h
  exact rREnd_any w b a cap full s h3
theorem raw_cut {l : List Nat} {k : Nat} (h : k ≤ l.length) : (⟨l, 0⟩ : RS).raw (k : Int) = (l.take k, ⟨l.drop k, 0⟩) := by
  unfold RS.raw
  rw [if_neg (by rw [RS.fail_ok rfl (by omega) (by simpa using h)]; simp), Int.toNat_natCast]
theorem whole_iff {b : List Nat} (h8 : B8 b) (hl : b.length = 512) : b.take 508 ++ numB (M.of (b.take 508)) 4 = b ↔ numV (b.drop 508) = M.of (b.take 508) := by
  have hM := M.of_lt (B8.take h8 508)
  constructor
  · intro h
    have h1 : b.drop 508 = numB (M.of (b.take 508)) 4 := by
      conv => lhs; rw [← h]
      rw [List.drop_append_of_le_length (by rw [List.length_take]; omega), List.drop_of_length_le (by rw [List.length_take]; omega), List.nil_append]
    rw [h1, numV_numB 4 _ (by omega)]
  · intro h
    have e := numB_numV (b.drop 508) (drop_b8 h8 508)
    rw [show (b.drop 508).length = 4 by rw [List.length_drop]; omega, h] at e
    rw [e, List.take_append_drop]
set_option maxRecDepth 8000 in
set_option maxHeartbeats 1600000 in
theorem mBlock_args (w : World) (gen pages i : Int) (a : Option Addr) (n c : Nat) (b : List Nat) (hp : pages ≤ 9223372036854775807) (ha : argsOk gen pages i = false) :
    Calls Try.prog 21 #[.int .i64 gen, .int .i64 pages, .int .i64 i, .slice a n c] w (BkQ w gen pages i b) := by
  have h1 : bkE gen pages i b = 1 := by unfold bkE; rw [if_pos ha]
  have HD := hide (fun w' hb => bkQ_err (w := w) (w' := w') (gen := gen) (pages := pages) (i := i) (b := b) (by rw [h1]; decide) hb)
  rw [h1] at HD
  have IG := hide fun w1 => mGen_any w1 gen
  have IP := hide fun w1 => mPg_any w1 pages
  have BL := hide fun w1 => mBlocks_any w1 pages hp
  unfold argsOk at ha
  cases hg : isGen gen with
  | false =>
    rw [hg] at IG
    clear h1 ha hg
    go_enter Try.func21, Try.ntmps21
    go_wp2_with (go_at_call 30; refine (IG.out _).mono ?_; rintro y w1 ⟨rfl, hww⟩; obtain rfl := hww.symm)
    go_ret2
    exact HD.out _ (Below.refl _ _)
  | true =>
    rw [hg] at IG
    cases hpg : isPg pages with
    | false =>
      rw [hpg] at IP
      clear h1 ha hg hpg
      go_enter Try.func21, Try.ntmps21
      go_wp2_with (first | (go_at_call 30; refine (IG.out _).mono ?_; rintro y w1 ⟨rfl, hww⟩; obtain rfl := hww.symm) | (go_at_call 33; refine (IP.out _).mono ?_; rintro y w1 ⟨rfl, hww⟩; obtain rfl := hww.symm))
      go_ret2
      exact HD.out _ (Below.refl _ _)
    | true =>
      rw [hpg] at IP
      by_cases hi : i < 0
      · have hi' : decide (i < 0) = true := by simpa using hi
        clear h1 ha hg hpg
        go_enter Try.func21, Try.ntmps21
        go_wp2_with (first | (go_at_call 30; refine (IG.out _).mono ?_; rintro y w1 ⟨rfl, hww⟩; obtain rfl := hww.symm) | (go_at_call 33; refine (IP.out _).mono ?_; rintro y w1 ⟨rfl, hww⟩; obtain rfl := hww.symm))
        go_ret2
        exact HD.out _ (Below.refl _ _)
      · have hi' : decide (i < 0) = false := by simpa using hi
        have hin : ((nbl pages.toNat : Nat) : Int) ≤ i := by
          rw [hg, hpg, decide_eq_true (show 0 ≤ i by omega)] at ha
          simp at ha
          omega
        have hin' : decide (((nbl pages.toNat : Nat) : Int) ≤ i) = true := by simpa using hin
        clear h1 ha hg hpg
        generalize ((nbl pages.toNat : Nat) : Int) = N at *
        go_enter Try.func21, Try.ntmps21
        go_wp2_with (first | (go_at_call 30; refine (IG.out _).mono ?_; rintro y w1 ⟨rfl, hww⟩; obtain rfl := hww.symm) | (go_at_call 33; refine (IP.out _).mono ?_; rintro y w1 ⟨rfl, hww⟩; obtain rfl := hww.symm) | (go_at_call 9; refine (BL.out _).mono ?_; rintro y w1 ⟨rfl, hww⟩; obtain rfl := hww.symm))
        go_ret2
        exact HD.out _ (Below.refl _ _)
structure Snd8 (gen pages i : Nat) : Prop where
  g : ∀ w1, Calls Try.prog 30 #[.int .i64 (gen : Int)] w1 fun e w' => e = .returned (.bool true) ∧ w' = w1
  p : ∀ w1, Calls Try.prog 33 #[.int .i64 (pages : Int)] w1 fun e w' => e = .returned (.bool true) ∧ w' = w1
  b : ∀ w1, Calls Try.prog 9 #[.int .i64 (pages : Int)] w1 fun e w' => e = .returned (.int .i64 (nbl pages : Int)) ∧ w' = w1
  a : argsOk gen pages i = true
theorem snd8 {gen pages i : Nat} (hg : gen ≤ 1099511627776) (hp : pages ≤ 65536) (hi : i < nbl pages) : Snd8 gen pages i := by
  refine ⟨fun w1 => ?_, fun w1 => ?_, fun w1 => ?_, argsOk_iff.2 ⟨by omega, by omega, by omega, by simp only [Int.toNat_natCast]; omega⟩⟩
  · have := mGen_any w1 gen
    rwa [isGen_iff.2 (by omega)] at this
  · have := mPg_any w1 pages
    rwa [isPg_iff.2 (by omega)] at this
  · exact mBlocks_any w1 pages (by omega)
set_option maxRecDepth 8000 in
set_option maxHeartbeats 6400000 in
theorem mBlock_len (w : World) (gen pages i : Nat) (a : Option Addr) (n c : Nat) (b : List Nat) (hn : n = b.length) (hl : b.length ≠ 512) (hg : gen ≤ 1099511627776) (hp : pages ≤ 65536) (hi : i < nbl pages) :
    Calls Try.prog 21 #[.int .i64 (gen : Int), .int .i64 (pages : Int), .int .i64 (i : Int), .slice a n c] w (BkQ w gen pages i b) := by
  have S := snd8 hg hp hi
  have IG := hide S.g
  have IP := hide S.p
  have BL := hide S.b
  have ha := S.a
  have hi' : decide ((i : Int) < 0) = false := by simp
  have hin' : decide (nbl pages ≤ i) = false := by simp; omega
  clear S
  have h1 : bkE gen pages i b = 16 := by unfold bkE; rw [if_neg (by rw [ha]; simp), if_pos hl]
  have HD := hide (fun w' hb => bkQ_err (w := w) (w' := w') (gen := gen) (pages := pages) (i := i) (b := b) (by rw [h1]; decide) hb)
  rw [h1] at HD
  have hn5 : (((n : Nat) : Int) == 512) = false := by simp; omega
  clear h1 ha hl hn hg hp hi
  go_enter Try.func21, Try.ntmps21
  go_wp2_with (first | (go_at_call 30; refine (IG.out _).mono ?_; rintro y w1 ⟨rfl, hww⟩; obtain rfl := hww.symm) | (go_at_call 33; refine (IP.out _).mono ?_; rintro y w1 ⟨rfl, hww⟩; obtain rfl := hww.symm) | (go_at_call 9; refine (BL.out _).mono ?_; rintro y w1 ⟨rfl, hww⟩; obtain rfl := hww.symm))
  go_ret2
  exact HD.out _ (Below.refl _ _)
set_option maxRecDepth 8000 in
set_option maxHeartbeats 6400000 in
theorem mBlock_sum (w : World) (gen pages i : Nat) (a : Option Addr) (c : Nat) (b : List Nat) (hB : Bs w a b) (hl : b.length = 512) (hc : 512 ≤ c) (hg : gen ≤ 1099511627776) (hp : pages ≤ 65536) (hi : i < nbl pages) (hs : numV (b.drop 508) ≠ M.of (b.take 508)) :
    Calls Try.prog 21 #[.int .i64 (gen : Int), .int .i64 (pages : Int), .int .i64 (i : Int), .slice a 512 c] w (BkQ w gen pages i b) := by
  have S := snd8 hg hp hi
  have IG := hide S.g
  have IP := hide S.p
  have BL := hide S.b
  have ha := S.a
  have hi' : decide ((i : Int) < 0) = false := by simp
  have hin' : decide (nbl pages ≤ i) = false := by simp; omega
  clear S
  have h1 : bkE gen pages i b = 6 := by unfold bkE; rw [if_neg (by rw [ha]; simp), if_neg (by simpa using hl), if_pos hs]
  have HD := hide (fun w' hb => bkQ_err (w := w) (w' := w') (gen := gen) (pages := pages) (i := i) (b := b) (by rw [h1]; decide) hb)
  rw [h1] at HD
  obtain ⟨bk, off, rfl, _⟩ := hB.at (j := 0) (by omega)
  have hD : (b.take 508).length = 508 := by rw [List.length_take]; omega
  have MS := hide fun c' => mSummed_any w (some ⟨bk, off, none⟩) 508 c' (b.take 508) (hB.take 508) hD.symm (by omega)
  rw [hD] at MS
  have HB := hide hB
  have HW := hide (whole_iff hB.1 hl)
  have HWL : Hid ((b.take 508 ++ numB (M.of (b.take 508)) 4).length = 512) := by
    show _ = _
    rw [List.length_append, hD, numB_length]
  have HW8 : Hid (B8 (b.take 508 ++ numB (M.of (b.take 508)) 4)) := B8.app.2 ⟨B8.take hB.1 508, numB_b8 _ _⟩
  have EB := hide fun (w1 : World) (hb : Below w.heap.size w w1) (a' : Option Addr) (c' : Nat) (h : Rw w1 a' c' (b.take 508 ++ numB (M.of (b.take 508)) 4)) => EqBytes_any w1 a' (some ⟨bk, off, none⟩) 512 512 c' c (b.take 508 ++ numB (M.of (b.take 508)) 4) b (h.bs HW8.out (by rw [HWL.out]; decide)) (hB.keep hb) HWL.out.symm hl.symm
  have h508 : (508 : Int) ≤ (c : Int) := by omega
  rw [show decide (b.take 508 ++ numB (M.of (b.take 508)) 4 = b) = false from decide_eq_false (fun h => hs (HW.out.1 h))] at EB
  clear h1 ha hl hg hp hi hs hB hc hD HW HB
  go_enter Try.func21, Try.ntmps21
  go_wp2_with (first | (go_at_call 30; refine (IG.out _).mono ?_; rintro y w1 ⟨rfl, hww⟩; obtain rfl := hww.symm) | (go_at_call 33; refine (IP.out _).mono ?_; rintro y w1 ⟨rfl, hww⟩; obtain rfl := hww.symm) | (go_at_call 9; refine (BL.out _).mono ?_; rintro y w1 ⟨rfl, hww⟩; obtain rfl := hww.symm))
  refine (MS.out _).mono ?_
  rintro y w1 ⟨a1, c1, rfl, ho⟩
  have O1 := hide ho
  clear ho MS
  go_wp2_with fail
  refine (EB.out _ O1.out.b _ _ O1.out.r).mono ?_
  rintro y w2 ⟨rfl, hb2⟩
  have T2 := hide (bt O1.out.b hb2)
  clear hb2
  go_wp2
  go_ret2
  exact HD.out _ T2.out
set_option maxRecDepth 8000 in
set_option maxHeartbeats 6400000 in
theorem mBlock_tag (w : World) (gen pages i : Nat) (a : Option Addr) (c : Nat) (b : List Nat) (hB : Bs w a b) (hl : b.length = 512) (hc : 512 ≤ c) (hg : gen ≤ 1099511627776) (hp : pages ≤ 65536) (hi : i < nbl pages) (hs : numV (b.drop 508) = M.of (b.take 508)) (ht : numV ((b.take 508).take 1) ≠ 66) :
    Calls Try.prog 21 #[.int .i64 (gen : Int), .int .i64 (pages : Int), .int .i64 (i : Int), .slice a 512 c] w (BkQ w gen pages i b) := by
  have S := snd8 hg hp hi
  have IG := hide S.g
  have IP := hide S.p
  have BL := hide S.b
  have ha := S.a
  have hi' : decide ((i : Int) < 0) = false := by simp
  have hin' : decide (nbl pages ≤ i) = false := by simp; omega
  clear S
  have h1 : bkE gen pages i b = 5 := by unfold bkE inE; rw [if_neg (by rw [ha]; simp), if_neg (by simpa using hl), if_neg (by simpa using hs), if_pos ht]
  have HD := hide (fun w' hb => bkQ_err (w := w) (w' := w') (gen := gen) (pages := pages) (i := i) (b := b) (by rw [h1]; decide) hb)
  rw [h1] at HD
  obtain ⟨bk, off, rfl, _⟩ := hB.at (j := 0) (by omega)
  have hD : (b.take 508).length = 508 := by rw [List.length_take]; omega
  have MS := hide fun c' => mSummed_any w (some ⟨bk, off, none⟩) 508 c' (b.take 508) (hB.take 508) hD.symm (by omega)
  rw [hD] at MS
  have HB := hide hB
  have HW := hide (whole_iff hB.1 hl)
  have HWL : Hid ((b.take 508 ++ numB (M.of (b.take 508)) 4).length = 512) := by
    show _ = _
    rw [List.length_append, hD, numB_length]
  have HW8 : Hid (B8 (b.take 508 ++ numB (M.of (b.take 508)) 4)) := B8.app.2 ⟨B8.take hB.1 508, numB_b8 _ _⟩
  have EB := hide fun (w1 : World) (hb : Below w.heap.size w w1) (a' : Option Addr) (c' : Nat) (h : Rw w1 a' c' (b.take 508 ++ numB (M.of (b.take 508)) 4)) => EqBytes_any w1 a' (some ⟨bk, off, none⟩) 512 512 c' c (b.take 508 ++ numB (M.of (b.take 508)) 4) b (h.bs HW8.out (by rw [HWL.out]; decide)) (hB.keep hb) HWL.out.symm hl.symm
  have h508 : (508 : Int) ≤ (c : Int) := by omega
  rw [show decide (b.take 508 ++ numB (M.of (b.take 508)) 4 = b) = true from decide_eq_true (HW.out.2 hs)] at EB
  have NR := hide fun (w1 : World) (hb : Below w.heap.size w w1) (c' : Nat) => zNew w1 (some ⟨bk, off, none⟩) 508 c' (b.take 508) ((hB.take 508).keep hb) hD.symm (by omega)
  have G1 : Hid ((⟨b.take 508, 0⟩ : RS).raw ((1 : Nat) : Int) = ((b.take 508).take 1, ⟨(b.take 508).drop 1, 0⟩)) := raw_cut (by omega)
  have ht' : (((numV ((b.take 508).take 1) : Nat) : Int) == 66) = false := by simp; omega
  clear h1 ha hl hg hp hi hs hB hc ht hD HW HB
  generalize b.take 508 = D at *
  go_enter Try.func21, Try.ntmps21
  go_wp2_with (first | (go_at_call 30; refine (IG.out _).mono ?_; rintro y w1 ⟨rfl, hww⟩; obtain rfl := hww.symm) | (go_at_call 33; refine (IP.out _).mono ?_; rintro y w1 ⟨rfl, hww⟩; obtain rfl := hww.symm) | (go_at_call 9; refine (BL.out _).mono ?_; rintro y w1 ⟨rfl, hww⟩; obtain rfl := hww.symm))
  refine (MS.out _).mono ?_
  rintro y w1 ⟨a1, c1, rfl, ho⟩
  have O1 := hide ho
  clear ho MS
  go_wp2_with fail
  refine (EB.out _ O1.out.b _ _ O1.out.r).mono ?_
  rintro y w2 ⟨rfl, hb2⟩
  have T2 := hide (bt O1.out.b hb2)
  clear hb2 EB O1
  go_wp2_with fail
  refine (NR.out _ T2.out _).mono ?_
  rintro y w3 ⟨rb, rfl, hk⟩
  have K := hide hk
  clear hk NR
  go_wp2_with fail
  refine (zGet K.out 1 (by decide)).mono ?_
  rintro y w4 ⟨rfl, hk, _⟩
  rw [G1.out] at hk ⊢
  dsimp only at hk ⊢
  have K := hide hk
  clear hk
  go_wp2
  go_ret2
  exact HD.out _ (bt T2.out K.out.1)
set_option maxRecDepth 8000 in
set_option maxHeartbeats 6400000 in
theorem mBlock_other (w : World) (gen pages i : Nat) (a : Option Addr) (c : Nat) (b : List Nat) (hB : Bs w a b) (hl : b.length = 512) (hc : 512 ≤ c) (hg : gen ≤ 1099511627776) (hp : pages ≤ 65536) (hi : i < nbl pages) (hs : numV (b.drop 508) = M.of (b.take 508)) (ht : numV ((b.take 508).take 1) = 66) (hh : ¬ headIs gen pages i (b.take 508)) :
    Calls Try.prog 21 #[.int .i64 (gen : Int), .int .i64 (pages : Int), .int .i64 (i : Int), .slice a 512 c] w (BkQ w gen pages i b) := by
  have S := snd8 hg hp hi
  have IG := hide S.g
  have IP := hide S.p
  have BL := hide S.b
  have ha := S.a
  have hi' : decide ((i : Int) < 0) = false := by simp
  have hin' : decide (nbl pages ≤ i) = false := by simp; omega
  clear S
  have h1 : bkE gen pages i b = 25 := by unfold bkE inE; rw [if_neg (by rw [ha]; simp), if_neg (by simpa using hl), if_neg (by simpa using hs), if_neg (by simpa using ht), if_pos hh]
  have HD := hide (fun w' hb => bkQ_err (w := w) (w' := w') (gen := gen) (pages := pages) (i := i) (b := b) (by rw [h1]; decide) hb)
  rw [h1] at HD
  obtain ⟨bk, off, rfl, _⟩ := hB.at (j := 0) (by omega)
  have hD : (b.take 508).length = 508 := by rw [List.length_take]; omega
  have MS := hide fun c' => mSummed_any w (some ⟨bk, off, none⟩) 508 c' (b.take 508) (hB.take 508) hD.symm (by omega)
  rw [hD] at MS
  have HB := hide hB
  have HW := hide (whole_iff hB.1 hl)
  have HWL : Hid ((b.take 508 ++ numB (M.of (b.take 508)) 4).length = 512) := by
    show _ = _
    rw [List.length_append, hD, numB_length]
  have HW8 : Hid (B8 (b.take 508 ++ numB (M.of (b.take 508)) 4)) := B8.app.2 ⟨B8.take hB.1 508, numB_b8 _ _⟩
  have EB := hide fun (w1 : World) (hb : Below w.heap.size w w1) (a' : Option Addr) (c' : Nat) (h : Rw w1 a' c' (b.take 508 ++ numB (M.of (b.take 508)) 4)) => EqBytes_any w1 a' (some ⟨bk, off, none⟩) 512 512 c' c (b.take 508 ++ numB (M.of (b.take 508)) 4) b (h.bs HW8.out (by rw [HWL.out]; decide)) (hB.keep hb) HWL.out.symm hl.symm
  have h508 : (508 : Int) ≤ (c : Int) := by omega
  rw [show decide (b.take 508 ++ numB (M.of (b.take 508)) 4 = b) = true from decide_eq_true (HW.out.2 hs)] at EB
  have NR := hide fun (w1 : World) (hb : Below w.heap.size w w1) (c' : Nat) => zNew w1 (some ⟨bk, off, none⟩) 508 c' (b.take 508) ((hB.take 508).keep hb) hD.symm (by omega)
  have G1 : Hid ((⟨b.take 508, 0⟩ : RS).raw ((1 : Nat) : Int) = ((b.take 508).take 1, ⟨(b.take 508).drop 1, 0⟩)) := raw_cut (by omega)
  have G2 : Hid ((⟨(b.take 508).drop 1, 0⟩ : RS).raw ((8 : Nat) : Int) = (((b.take 508).drop 1).take 8, ⟨(b.take 508).drop 9, 0⟩)) := by
    show _ = _
    rw [raw_cut (by rw [List.length_drop]; omega), List.drop_drop]
  have G3 : Hid ((⟨(b.take 508).drop 9, 0⟩ : RS).raw ((4 : Nat) : Int) = (((b.take 508).drop 9).take 4, ⟨(b.take 508).drop 13, 0⟩)) := by
    show _ = _
    rw [raw_cut (by rw [List.length_drop]; omega), List.drop_drop]
  have G4 : Hid ((⟨(b.take 508).drop 13, 0⟩ : RS).raw ((4 : Nat) : Int) = (((b.take 508).drop 13).take 4, ⟨(b.take 508).drop 17, 0⟩)) := by
    show _ = _
    rw [raw_cut (by rw [List.length_drop]; omega), List.drop_drop]
  have HT := hide ht
  have cw1 : IntKind.u64.wrap (gen : Int) = (gen : Int) := by rw [IntKind.wrap_u64]; omega
  have cw2 : IntKind.u64.wrap (i : Int) = (i : Int) := by rw [IntKind.wrap_u64]; unfold nbl at hi; omega
  have cw3 : IntKind.u64.wrap (pages : Int) = (pages : Int) := by rw [IntKind.wrap_u64]; omega
  unfold headIs at hh
  simp only [Int.toNat_natCast] at hh
  clear h1 ha hl hg hp hi hs hB hc ht hD HW HB
  generalize b.take 508 = D at *
  generalize hx1 : numV ((D.drop 1).take 8) = hx at *
  generalize hx2 : numV ((D.drop 9).take 4) = hy at *
  generalize hx3 : numV ((D.drop 13).take 4) = hz at *
  have Q1 := hide hx1
  have Q2 := hide hx2
  have Q3 := hide hx3
  clear hx1 hx2 hx3
  by_cases e1 : hx = gen
  · by_cases e2 : hy = i
    · have e3 : ¬ hz = pages := fun e => hh ⟨e1, e2, e⟩
      have q3 : ¬ ((hz : Nat) : Int) = (pages : Int) := by omega
      have q4 : (((hz : Nat) : Int) == (pages : Int)) = false := by rw [beqn, decide_eq_false e3]
      subst e1 e2
      clear e3 hh
      go_enter Try.func21, Try.ntmps21
      go_wp2_with (first | (go_at_call 30; refine (IG.out _).mono ?_; rintro y w1 ⟨rfl, hww⟩; obtain rfl := hww.symm) | (go_at_call 33; refine (IP.out _).mono ?_; rintro y w1 ⟨rfl, hww⟩; obtain rfl := hww.symm) | (go_at_call 9; refine (BL.out _).mono ?_; rintro y w1 ⟨rfl, hww⟩; obtain rfl := hww.symm))
      refine (MS.out _).mono ?_
      rintro y w1 ⟨a1, c1, rfl, ho⟩
      have O1 := hide ho
      clear ho MS
      go_wp2_with fail
      refine (EB.out _ O1.out.b _ _ O1.out.r).mono ?_
      rintro y w2 ⟨rfl, hb2⟩
      have T2 := hide (bt O1.out.b hb2)
      clear hb2 EB O1
      go_wp2_with fail
      refine (NR.out _ T2.out _).mono ?_
      rintro y w3 ⟨rb, rfl, hk⟩
      have K := hide hk
      clear hk NR
      go_wp2_with fail
      refine (zGet K.out 1 (by decide)).mono ?_
      rintro y w4 ⟨rfl, hk, _⟩
      rw [G1.out] at hk ⊢
      dsimp only at hk ⊢
      have K := hide hk
      clear hk
      rw [HT.out]
      go_wp2_with fail
      refine (zGet K.out 8 (by decide)).mono ?_
      rintro y w5 ⟨rfl, hk, _⟩
      rw [G2.out] at hk ⊢
      dsimp only at hk ⊢
      rw [Q1.out]
      have K := hide hk
      clear hk
      go_wp2_with fail
      refine (zGet K.out 4 (by decide)).mono ?_
      rintro y w6 ⟨rfl, hk, _⟩
      rw [G3.out] at hk ⊢
      dsimp only at hk ⊢
      rw [Q2.out]
      have K := hide hk
      clear hk
      go_wp2_with fail
      refine (zGet K.out 4 (by decide)).mono ?_
      rintro y w7 ⟨rfl, hk, _⟩
      rw [G4.out] at hk ⊢
      dsimp only at hk ⊢
      rw [Q3.out]
      have K := hide hk
      clear hk
      go_wp2
      go_ret2
      exact HD.out _ (bt T2.out K.out.1)
    · have q3 : ¬ ((hy : Nat) : Int) = (i : Int) := by omega
      have q4 : (((hy : Nat) : Int) == (i : Int)) = false := by rw [beqn, decide_eq_false e2]
      subst e1
      clear e2 hh
      go_enter Try.func21, Try.ntmps21
      go_wp2_with (first | (go_at_call 30; refine (IG.out _).mono ?_; rintro y w1 ⟨rfl, hww⟩; obtain rfl := hww.symm) | (go_at_call 33; refine (IP.out _).mono ?_; rintro y w1 ⟨rfl, hww⟩; obtain rfl := hww.symm) | (go_at_call 9; refine (BL.out _).mono ?_; rintro y w1 ⟨rfl, hww⟩; obtain rfl := hww.symm))
      refine (MS.out _).mono ?_
      rintro y w1 ⟨a1, c1, rfl, ho⟩
      have O1 := hide ho
      clear ho MS
      go_wp2_with fail
      refine (EB.out _ O1.out.b _ _ O1.out.r).mono ?_
      rintro y w2 ⟨rfl, hb2⟩
      have T2 := hide (bt O1.out.b hb2)
      clear hb2 EB O1
      go_wp2_with fail
      refine (NR.out _ T2.out _).mono ?_
      rintro y w3 ⟨rb, rfl, hk⟩
      have K := hide hk
      clear hk NR
      go_wp2_with fail
      refine (zGet K.out 1 (by decide)).mono ?_
      rintro y w4 ⟨rfl, hk, _⟩
      rw [G1.out] at hk ⊢
      dsimp only at hk ⊢
      have K := hide hk
      clear hk
      rw [HT.out]
      go_wp2_with fail
      refine (zGet K.out 8 (by decide)).mono ?_
      rintro y w5 ⟨rfl, hk, _⟩
      rw [G2.out] at hk ⊢
      dsimp only at hk ⊢
      rw [Q1.out]
      have K := hide hk
      clear hk
      go_wp2_with fail
      refine (zGet K.out 4 (by decide)).mono ?_
      rintro y w6 ⟨rfl, hk, _⟩
      rw [G3.out] at hk ⊢
      dsimp only at hk ⊢
      rw [Q2.out]
      have K := hide hk
      clear hk
      go_wp2_with fail
      refine (zGet K.out 4 (by decide)).mono ?_
      rintro y w7 ⟨rfl, hk, _⟩
      rw [G4.out] at hk ⊢
      dsimp only at hk ⊢
      rw [Q3.out]
      have K := hide hk
      clear hk
      go_wp2
      go_ret2
      exact HD.out _ (bt T2.out K.out.1)
  · have q3 : ¬ ((hx : Nat) : Int) = (gen : Int) := by omega
    have q4 : (((hx : Nat) : Int) == (gen : Int)) = false := by rw [beqn, decide_eq_false e1]
    clear e1 hh
    go_enter Try.func21, Try.ntmps21
    go_wp2_with (first | (go_at_call 30; refine (IG.out _).mono ?_; rintro y w1 ⟨rfl, hww⟩; obtain rfl := hww.symm) | (go_at_call 33; refine (IP.out _).mono ?_; rintro y w1 ⟨rfl, hww⟩; obtain rfl := hww.symm) | (go_at_call 9; refine (BL.out _).mono ?_; rintro y w1 ⟨rfl, hww⟩; obtain rfl := hww.symm))
    refine (MS.out _).mono ?_
    rintro y w1 ⟨a1, c1, rfl, ho⟩
    have O1 := hide ho
    clear ho MS
    go_wp2_with fail
    refine (EB.out _ O1.out.b _ _ O1.out.r).mono ?_
    rintro y w2 ⟨rfl, hb2⟩
    have T2 := hide (bt O1.out.b hb2)
    clear hb2 EB O1
    go_wp2_with fail
    refine (NR.out _ T2.out _).mono ?_
    rintro y w3 ⟨rb, rfl, hk⟩
    have K := hide hk
    clear hk NR
    go_wp2_with fail
    refine (zGet K.out 1 (by decide)).mono ?_
    rintro y w4 ⟨rfl, hk, _⟩
    rw [G1.out] at hk ⊢
    dsimp only at hk ⊢
    have K := hide hk
    clear hk
    rw [HT.out]
    go_wp2_with fail
    refine (zGet K.out 8 (by decide)).mono ?_
    rintro y w5 ⟨rfl, hk, _⟩
    rw [G2.out] at hk ⊢
    dsimp only at hk ⊢
    rw [Q1.out]
    have K := hide hk
    clear hk
    go_wp2_with fail
    refine (zGet K.out 4 (by decide)).mono ?_
    rintro y w6 ⟨rfl, hk, _⟩
    rw [G3.out] at hk ⊢
    dsimp only at hk ⊢
    rw [Q2.out]
    have K := hide hk
    clear hk
    go_wp2_with fail
    refine (zGet K.out 4 (by decide)).mono ?_
    rintro y w7 ⟨rfl, hk, _⟩
    rw [G4.out] at hk ⊢
    dsimp only at hk ⊢
    rw [Q3.out]
    have K := hide hk
    clear hk
    go_wp2
    go_ret2
    exact HD.out _ (bt T2.out K.out.1)
set_option maxRecDepth 8000 in
set_option maxHeartbeats 6400000 in
theorem mBlock_head (w : World) (gen pages i : Nat) (a : Option Addr) (c : Nat) (b : List Nat) (hB : Bs w a b) (hl : b.length = 512) (hc : 512 ≤ c) (hg : gen ≤ 1099511627776) (hp : pages ≤ 65536) (hi : i < nbl pages) (hs : numV (b.drop 508) = M.of (b.take 508)) (ht : numV ((b.take 508).take 1) = 66) (hh : headIs gen pages i (b.take 508)) :
    Calls Try.prog 21 #[.int .i64 (gen : Int), .int .i64 (pages : Int), .int .i64 (i : Int), .slice a 512 c] w (BkQ w gen pages i b) := by
  have S := snd8 hg hp hi
  have IG := hide S.g
  have IP := hide S.p
  have BL := hide S.b
  have ha := S.a
  have hi' : decide ((i : Int) < 0) = false := by simp
  have hin' : decide (nbl pages ≤ i) = false := by simp; omega
  clear S
  have h2 : bkE gen pages i b = if ((b.take 508).drop (17 + 2 * cin pages i)).all (· == 0) = true then 0 else 5 := by
    unfold bkE inE
    rw [if_neg (by rw [ha]; simp), if_neg (by simpa using hl), if_neg (by simpa using hs), if_neg (by simpa using ht), if_neg (by simpa using hh)]
    simp only [Int.toNat_natCast]
    by_cases h : ((b.take 508).drop (17 + 2 * cin pages i)).all (· == 0) = true
    · rw [if_neg (by simpa using h), if_pos h]
    · rw [if_pos (by simpa using h), if_neg h]
  have HER := hide (fun (h : bkE gen pages i b ≠ 0) w' hb => bkQ_err (w := w) (w' := w') (gen := gen) (pages := pages) (i := i) (b := b) h hb)
  have HC : Hid (bkE gen pages i b = 0 → bkC gen pages i b = ints (cnt (b.take 508) (cin pages i))) := by
    intro h0; unfold bkC; rw [if_pos h0]; simp only [Int.toNat_natCast]; rfl
  have ZF := hide (zerosFin ((b.take 508).drop (17 + 2 * cin pages i)))
  rw [← h2] at ZF
  have H5 : Hid (bkE gen pages i b = 0 ∨ bkE gen pages i b = 5) := by
    show _ ∨ _
    rw [h2]
    split
    · exact .inl rfl
    · exact .inr rfl
  have hn240 := cin_le pages i
  have hNC : Hid (cin pages i = min (pages - 240 * i) 240) := rfl
  have hi274 : i ≤ 274 := by unfold nbl at hi; omega
  have hip : i * 240 < pages := by unfold nbl at hi; omega
  have HLT := hide fun j => cnt_lt (B8.take hB.1 508) j
  obtain ⟨bk, off, rfl, _⟩ := hB.at (j := 0) (by omega)
  have hD : (b.take 508).length = 508 := by rw [List.length_take]; omega
  have MS := hide fun c' => mSummed_any w (some ⟨bk, off, none⟩) 508 c' (b.take 508) (hB.take 508) hD.symm (by omega)
  rw [hD] at MS
  have HB := hide hB
  have HW := hide (whole_iff hB.1 hl)
  have HWL : Hid ((b.take 508 ++ numB (M.of (b.take 508)) 4).length = 512) := by
    show _ = _
    rw [List.length_append, hD, numB_length]
  have HW8 : Hid (B8 (b.take 508 ++ numB (M.of (b.take 508)) 4)) := B8.app.2 ⟨B8.take hB.1 508, numB_b8 _ _⟩
  have EB := hide fun (w1 : World) (hb : Below w.heap.size w w1) (a' : Option Addr) (c' : Nat) (h : Rw w1 a' c' (b.take 508 ++ numB (M.of (b.take 508)) 4)) => EqBytes_any w1 a' (some ⟨bk, off, none⟩) 512 512 c' c (b.take 508 ++ numB (M.of (b.take 508)) 4) b (h.bs HW8.out (by rw [HWL.out]; decide)) (hB.keep hb) HWL.out.symm hl.symm
  have h508 : (508 : Int) ≤ (c : Int) := by omega
  rw [show decide (b.take 508 ++ numB (M.of (b.take 508)) 4 = b) = true from decide_eq_true (HW.out.2 hs)] at EB
  have NR := hide fun (w1 : World) (hb : Below w.heap.size w w1) (c' : Nat) => zNew w1 (some ⟨bk, off, none⟩) 508 c' (b.take 508) ((hB.take 508).keep hb) hD.symm (by omega)
  have G1 : Hid ((⟨b.take 508, 0⟩ : RS).raw ((1 : Nat) : Int) = ((b.take 508).take 1, ⟨(b.take 508).drop 1, 0⟩)) := raw_cut (by omega)
  have G2 : Hid ((⟨(b.take 508).drop 1, 0⟩ : RS).raw ((8 : Nat) : Int) = (((b.take 508).drop 1).take 8, ⟨(b.take 508).drop 9, 0⟩)) := by
    show _ = _
    rw [raw_cut (by rw [List.length_drop]; omega), List.drop_drop]
  have G3 : Hid ((⟨(b.take 508).drop 9, 0⟩ : RS).raw ((4 : Nat) : Int) = (((b.take 508).drop 9).take 4, ⟨(b.take 508).drop 13, 0⟩)) := by
    show _ = _
    rw [raw_cut (by rw [List.length_drop]; omega), List.drop_drop]
  have G4 : Hid ((⟨(b.take 508).drop 13, 0⟩ : RS).raw ((4 : Nat) : Int) = (((b.take 508).drop 13).take 4, ⟨(b.take 508).drop 17, 0⟩)) := by
    show _ = _
    rw [raw_cut (by rw [List.length_drop]; omega), List.drop_drop]
  have HT := hide ht
  have cw1 : IntKind.u64.wrap (gen : Int) = (gen : Int) := by rw [IntKind.wrap_u64]; omega
  have cw2 : IntKind.u64.wrap (i : Int) = (i : Int) := by rw [IntKind.wrap_u64]; unfold nbl at hi; omega
  have cw3 : IntKind.u64.wrap (pages : Int) = (pages : Int) := by rw [IntKind.wrap_u64]; omega
  have GC : Hid (∀ j, j < cin pages i → (⟨(b.take 508).drop (17 + 2 * j), 0⟩ : RS).raw ((2 : Nat) : Int) = (((b.take 508).drop (17 + 2 * j)).take 2, ⟨(b.take 508).drop (17 + 2 * (j + 1)), 0⟩)) := by
    intro j hj
    rw [raw_cut (by rw [List.length_drop]; omega), List.drop_drop]
    rfl
  obtain ⟨e1, e2, e3⟩ := hh
  simp only [Int.toNat_natCast] at e1 e2 e3
  have Q1 := hide e1
  have Q2 := hide e2
  have Q3 := hide e3
  clear h2 ha hl hg hi hs hB hc ht hD HW HB e1 e2 e3
  unfold BkQ at *
  generalize bkE gen pages i b = E at *
  generalize bkC gen pages i b = BC at *
  generalize hcin : cin pages i = N at *
  generalize b.take 508 = D at *
  go_enter Try.func21, Try.ntmps21
  go_wp2_with (first | (go_at_call 30; refine (IG.out _).mono ?_; rintro y w1 ⟨rfl, hww⟩; obtain rfl := hww.symm) | (go_at_call 33; refine (IP.out _).mono ?_; rintro y w1 ⟨rfl, hww⟩; obtain rfl := hww.symm) | (go_at_call 9; refine (BL.out _).mono ?_; rintro y w1 ⟨rfl, hww⟩; obtain rfl := hww.symm))
  refine (MS.out _).mono ?_
  rintro y w1 ⟨a1, c1, rfl, ho⟩
  have O1 := hide ho
  clear ho MS
  go_wp2_with fail
  refine (EB.out _ O1.out.b _ _ O1.out.r).mono ?_
  rintro y w2 ⟨rfl, hb2⟩
  have T2 := hide (bt O1.out.b hb2)
  clear hb2 EB O1
  go_wp2_with fail
  refine (NR.out _ T2.out _).mono ?_
  rintro y w3 ⟨rb, rfl, hk⟩
  have K := hide hk
  clear hk NR
  go_wp2_with fail
  refine (zGet K.out 1 (by decide)).mono ?_
  rintro y w4 ⟨rfl, hk, _⟩
  rw [G1.out] at hk ⊢
  dsimp only at hk ⊢
  have K := hide hk
  clear hk
  rw [HT.out]
  go_wp2_with fail
  refine (zGet K.out 8 (by decide)).mono ?_
  rintro y w5 ⟨rfl, hk, _⟩
  rw [G2.out] at hk ⊢
  dsimp only at hk ⊢
  rw [Q1.out]
  have K := hide hk
  clear hk
  go_wp2_with fail
  refine (zGet K.out 4 (by decide)).mono ?_
  rintro y w6 ⟨rfl, hk, _⟩
  rw [G3.out] at hk ⊢
  dsimp only at hk ⊢
  rw [Q2.out]
  have K := hide hk
  clear hk
  go_wp2_with fail
  refine (zGet K.out 4 (by decide)).mono ?_
  rintro y w7 ⟨rfl, hk, _⟩
  rw [G4.out] at hk ⊢
  dsimp only at hk ⊢
  rw [Q3.out]
  have K := hide hk
  clear hk
  clear hcin
  go_wp2
  go_loopw [15, 16] (fun o q wx => ∃ (j : Nat) (aj : Option Addr) (cj : Nat), j ≤ N ∧ q = .int .i64 ((i * 240 + j : Nat) : Int) ∧ o = .slice aj j cj ∧ Rz w2 wx rb D ⟨D.drop (17 + 2 * j), 0⟩ ∧ Ig wx aj cj (ints (cnt D j)) ∧ New w2 none aj) (fun _ q _ => i * 240 + N - (intOf q).toNat)
  case atStart => exact ⟨0, none, 0, Nat.zero_le _, by push_cast; simp, rfl, K.out, Ig.nil _, New.none _ _⟩
  case round =>
    obtain ⟨j, aj, cj, hj, rfl, rfl, hK, hIg, hNw⟩ := hrel
    have K := hide hK
    have IGo := hide hIg
    have NW := hide hNw
    clear hK hIg hNw
    by_cases hlt : j < N
    · have hq1 : ((i * 240 + j : Nat) : Int) < (pages : Int) := by have := hNC.out; omega
      have hq2 : ((i * 240 + j : Nat) : Int) < ((i : Int) + 1) * 240 := by omega
      have CS := hide (cnt_succ D j)
      have GJ := hide (GC.out j hlt)
      have hcl := cnt_length D j
      have hx6 : numV ((D.drop (17 + 2 * j)).take 2) < 65536 := HLT.out (j + 1) _ (by rw [CS.out]; simp)
      have hm : i * 240 + j ≤ 70000 := by omega
      have HNX : Hid (((i * 240 + j : Nat) : Int) + 1 = ((i * 240 + (j + 1) : Nat) : Int)) := by
        show _ = _
        omega
      have hmeas : Hid (i * 240 + N - (i * 240 + (j + 1)) < i * 240 + N - (i * 240 + j)) := by
        show _ < _
        omega
      have SN : Hid (ints (cnt D (j + 1)) = ints (cnt D j) ++ [((numV ((D.drop (17 + 2 * j)).take 2) : Nat) : Int)]) := by
        show _ = _
        rw [CS.out]; simp [ints]
      generalize hxx : numV ((D.drop (17 + 2 * j)).take 2) = xx at *
      have HX := hide hxx
      clear hxx
      generalize hqq : i * 240 + j = q at *
      go_wp2_with fail
      refine (zGet K.out 2 (by decide)).mono ?_
      rintro y w8 ⟨rfl, hk, hb8⟩
      rw [GJ.out] at hk ⊢
      dsimp only at hk ⊢
      rw [HX.out]
      have IG8 := hide (IGo.out.but hb8 fun x hx e => K.out.ne IGo.out hx e)
      have K8 := hide hk
      clear hk hb8 GJ
      go_wp2_with (at_builtin; refine wpList_apI rfl _ _ rfl aj j cj (ints (cnt D j)) ?r1 (by rw [ints_length, hcl]) (IG8.out.keep (al _ _)) ⟨w8.heap.size, 0, none⟩ 1 (xx : Int) ?r2 ?r3 (by rw [ints_length]; omega) ?_)
      try case r1 => rfl
      try case r2 => rfl
      try case r3 => simp
      intro g9 c9 w9 hR hN hg hlt9
      have K9 := hide ((K8.out.keep (al w8 _)).grown (IG8.out.keep (al w8 _)) NW.out hg)
      have NW9 := hide (NW.out.trans hN (Nat.le_trans K8.out.1.size (al _ _).size))
      have IG9 := hide hR
      rw [← SN.out] at IG9
      clear hR hN hg
      go_wp2
      go_roundw
      case rel =>
        refine ⟨_, _, _, _, _, _, _, _, _, _, _, _, _, _, _, _, _, _, _, _, ⟨j + 1, _, c9, by omega, ?qa, rfl, K9.out, IG9.out, NW9.out⟩, rfl⟩
        case qa => first | rfl | (rw [← HNX.out]) | (refine congrArg (Value.int .i64) ?_; have := HNX.out; omega)
      case measure => simp [intOf]; omega
    · obtain rfl : j = N := by omega
      by_cases hA : i * 240 + j < pages
      · have hq1 : ((i * 240 + j : Nat) : Int) < (pages : Int) := by omega
        have hq2 : ¬ ((i * 240 + j : Nat) : Int) < ((i : Int) + 1) * 240 := by have := hNC.out; omega
        generalize i * 240 + j = q at *
        go_wp2_with fail
        refine (zZeros K.out).mono ?_
        rintro y w8 ⟨rfl, hk, hb8⟩
        have IG8 := hide (IGo.out.but hb8 fun x hx e => K.out.ne IGo.out hx e)
        have K8 := hide hk
        clear hk hb8
        go_wp2_with fail
        refine (zEnd K8.out).mono ?_
        rintro y w9 ⟨rfl, hb9⟩
        have T9 := hide (bt T2.out (bt K8.out.1 hb9))
        have IG9 := hide (IG8.out.keep hb9)
        rw [ZF.out]
        clear hb9
        by_cases hE : E = 0
        · subst hE
          have HBC := hide (HC.out rfl)
          go_wp2
          go_ret2
          rw [HBC.out, ints_length, cnt_length]
          exact ⟨aj, cj, rfl, IG9.out, NW.out.mono T2.out.size, T9.out⟩
        · have hE' : (((E : Nat) : Int) == 0) = false := by simpa using hE
          go_wp2
          go_ret2
          have hE5 : (E : Int) = 5 := by rcases H5.out with h | h
                                         · exact absurd h hE
                                         · rw [h]; rfl
          have := HER.out hE _ T9.out
          rw [hE5] at this ⊢
          exact this
      · have hq1 : ¬ ((i * 240 + j : Nat) : Int) < (pages : Int) := by omega
        generalize i * 240 + j = q at *
        go_wp2_with fail
        refine (zZeros K.out).mono ?_
        rintro y w8 ⟨rfl, hk, hb8⟩
        have IG8 := hide (IGo.out.but hb8 fun x hx e => K.out.ne IGo.out hx e)
        have K8 := hide hk
        clear hk hb8
        go_wp2_with fail
        refine (zEnd K8.out).mono ?_
        rintro y w9 ⟨rfl, hb9⟩
        have T9 := hide (bt T2.out (bt K8.out.1 hb9))
        have IG9 := hide (IG8.out.keep hb9)
        rw [ZF.out]
        clear hb9
        by_cases hE : E = 0
        · subst hE
          have HBC := hide (HC.out rfl)
          go_wp2
          go_ret2
          rw [HBC.out, ints_length, cnt_length]
          exact ⟨aj, cj, rfl, IG9.out, NW.out.mono T2.out.size, T9.out⟩
        · have hE' : (((E : Nat) : Int) == 0) = false := by simpa using hE
          go_wp2
          go_ret2
          have hE5 : (E : Int) = 5 := by rcases H5.out with h | h
                                         · exact absurd h hE
                                         · rw [h]; rfl
          have := HER.out hE _ T9.out
          rw [hE5] at this ⊢
          exact this
theorem mBlock_any (w : World) (gen pages i : Int) (a : Option Addr) (n c : Nat) (b : List Nat) (hB : Bs w a b) (hn : n = b.length) (hc : b.length ≤ c) (hp : pages ≤ 9223372036854775807) :
    Calls Try.prog 21 #[.int .i64 gen, .int .i64 pages, .int .i64 i, .slice a n c] w (BkQ w gen pages i b) := by
  cases ha : argsOk gen pages i with
  | false => exact mBlock_args w gen pages i a n c b hp ha
  | true =>
    obtain ⟨hg, hp, hi, hi2⟩ := argsOk_iff.1 ha
    obtain ⟨g, rfl⟩ : ∃ g : Nat, gen = (g : Int) := ⟨gen.toNat, by omega⟩
    obtain ⟨p, rfl⟩ : ∃ g : Nat, pages = (g : Int) := ⟨pages.toNat, by omega⟩
    obtain ⟨k, rfl⟩ : ∃ g : Nat, i = (g : Int) := ⟨i.toNat, by omega⟩
    simp only [Int.toNat_natCast] at hi2
    by_cases hl : b.length = 512
    · obtain rfl : n = 512 := by omega
      by_cases hs : numV (b.drop 508) = M.of (b.take 508)
      · by_cases ht : numV ((b.take 508).take 1) = 66
        · by_cases hh : headIs g p k (b.take 508)
          · exact mBlock_head w g p k a c b hB hl (by omega) (by omega) (by omega) (by omega) hs ht hh
          · exact mBlock_other w g p k a c b hB hl (by omega) (by omega) (by omega) (by omega) hs ht hh
        · exact mBlock_tag w g p k a c b hB hl (by omega) (by omega) (by omega) (by omega) hs ht
      · exact mBlock_sum w g p k a c b hB hl (by omega) (by omega) (by omega) (by omega) hs
    · exact mBlock_len w g p k a n c b hn hl (by omega) (by omega) (by omega)
end Go.Proofs.Yticcpkdhfdefpaa
