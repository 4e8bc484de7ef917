import Derived.Test.YtlflcdjaknnfaabKK
import Derived.Test.YtlflcdjaknnfaabKJ
import Derived.Test.YtlflcdjaknnfaabKH
namespace Go.Proofs.Ytlflcdjaknnfaab
open Go.RowKit
open Go.ChangeMaps (setBlock)

/-- a new disk of so many blocks, with these bytes -/
def Sd.new (n : Nat) (L : Nat → List Nat) : Sd := ⟨n, L, [], true, -1, 0, 0⟩
theorem Sd.new_ok {n : Nat} {L : Nat → List Nat} (h0 : 8 ≤ n) (h1 : n ≤ 65536) (hL : ∀ i, Blk (L i)) : (Sd.new n L).ok :=
  { n0 := h0, n1 := h1, last := hL, uns := (by intro u hu; cases hu), a0 := (by show (-1 : Int) ≤ -1; decide), a1 := (by show (-1 : Int) ≤ 9223372036854775807; decide), w1 := Nat.zero_le _, s1 := Nat.zero_le _, u1 := Nat.zero_le _ }
def none' : Nat → Prop := fun _ => False
theorem mpL_zero (n : Nat) : ∀ k, mpL n (fun _ => zb) k = none := by
  intro k
  unfold mpL
  rw [if_neg (by simp)]
theorem made_disk (w : World) {n : Nat} (h0 : 8 ≤ n) (h1 : n ≤ 65536) (W : World) (hW : W = ((w.alloc (.map #[] 0)).alloc (.map #[] 0)).alloc (.cells #[.int .i64 (n : Int), .map (some w.heap.size), .slice none 0 0, .map (some (w.heap.size + 1)), .bool true, .int .i64 (-1), .int .i64 0, .int .i64 0] 69)) :
    DkAt (ext none' w W) W (w.heap.size + 1 + 1) w.heap.size (w.heap.size + 1) none 0 (Sd.new n (fun _ => zb)) ∧ Below w.heap.size w W := by
  obtain ⟨w1, e1⟩ : ∃ w1, w1 = w.alloc (.map #[] 0) := ⟨_, rfl⟩
  obtain ⟨w2, e2⟩ : ∃ w2, w2 = w1.alloc (.map #[] 0) := ⟨_, rfl⟩
  rw [← e1, ← e2] at hW
  have s1 : w1.heap.size = w.heap.size + 1 := by rw [e1, size_alloc]
  have s2 : w2.heap.size = w.heap.size + 1 + 1 := by rw [e2, size_alloc, s1]
  have s3 : W.heap.size = w.heap.size + 1 + 1 + 1 := by rw [hW, size_alloc, s2]
  have b1 : Below w.heap.size w w1 := by rw [e1]; exact al _ _
  have b2 : Below w1.heap.size w1 w2 := by rw [e2]; exact al _ _
  have b3 : Below w2.heap.size w2 W := by rw [hW]; exact al _ _
  refine ⟨{ ok := Sd.new_ok h0 h1 fun _ => Blk.zero, blk := ?_, l := ?_, n := ⟨fun _ => none, ?_, Nw.nil⟩, u := World.ownsRow_nil _ _ _ _, fp := .inr ⟨by omega, by omega⟩, fl := .inr ⟨by omega, by omega⟩, fn := .inr ⟨by omega, by omega⟩, fu := fun x hx => (by cases hx), ne := by omega, lt := fun k hk => ?_ }, bt (bt b1 b2) b3⟩
  · rw [hW, ← s2]; exact heap_alloc_last _ _
  · refine Mp.congr (f := fun _ => none) ?_ (mpL_zero n)
    refine ((show Mp w1 w.heap.size (fun _ => none) from ?_).keep b2).keep b3
    rw [e1]; exact Mp.made w
  · refine (show Mp w2 (w.heap.size + 1) (fun _ => none) from ?_).keep b3
    rw [e2, ← s1]; exact Mp.made w1
  · rcases hk with h | h
    · exact h.elim
    · exact h.2
set_option maxHeartbeats 1000000 in
theorem dNew_any (w : World) (n : Nat) (h0 : 8 ≤ n) (h1 : n ≤ 65536) :
    Calls Try.prog 26 #[.int .i64 (n : Int)] w fun e w' => e = .returned (.tuple #[.pointer (some ⟨w.heap.size + 1 + 1, 0, none⟩), .int .i64 0]) ∧ DkAt (ext none' w w') w' (w.heap.size + 1 + 1) w.heap.size (w.heap.size + 1) none 0 (Sd.new n (fun _ => zb)) ∧ Below w.heap.size w w' := by
  have hmm := @run_makeMap Try.prog
  have i1 : ¬ (n : Int) < 8 := by omega
  have i2 : ¬ (65536 : Int) < (n : Int) := by omega
  go_enter Try.func26, Try.ntmps26
  go_wp2
  go_ret2
  exact ⟨rfl, made_disk w h0 h1 _ rfl⟩
theorem dNew_bad (w : World) (n : Int) (h : n < 8 ∨ 65536 < n) :
    Calls Try.prog 26 #[.int .i64 n] w fun e w' => e = .returned (.tuple #[.pointer none, .int .i64 1]) ∧ w' = w := by
  by_cases h1 : n < 8
  · go_enter Try.func26, Try.ntmps26
    go_wp2
    go_ret2
    exact ⟨rfl, rfl⟩
  · have h2 : 65536 < n := by omega
    go_enter Try.func26, Try.ntmps26
    go_wp2
    go_ret2
    exact ⟨rfl, rfl⟩
/-- the blocks of a list -/
def cuts (l : List Nat) (i : Nat) : List Nat := (l.drop (i * 512)).take 512
/-- so many blocks are laid down -/
def upto (l : List Nat) (j : Nat) : Nat → List Nat := fun i => if i < j then cuts l i else zb
theorem cuts_blk {l : List Nat} (hl : ∀ x ∈ l, x < 256) {n i : Nat} (h : l.length = n * 512) (hi : i < n) : Blk (cuts l i) := by
  have hk : (i + 1) * 512 ≤ n * 512 := Nat.mul_le_mul_right _ hi
  refine ⟨?_, fun x hx => hl x (List.mem_of_mem_drop (List.mem_of_mem_take hx))⟩
  unfold cuts
  rw [List.length_take, List.length_drop]
  omega
theorem upto_blk {l : List Nat} (hl : ∀ x ∈ l, x < 256) {n j : Nat} (h : l.length = n * 512) (hj : j ≤ n) : ∀ i, Blk (upto l j i) := by
  intro i
  unfold upto
  split
  · exact cuts_blk hl h (by omega)
  · exact Blk.zero
theorem upto_succ (l : List Nat) (n j : Nat) : (Sd.new n (upto l j)).lay j (cuts l j) = Sd.new n (upto l (j + 1)) := by
  unfold Sd.new Sd.lay
  congr 1
  funext x
  show (if x = j then cuts l j else upto l j x) = upto l (j + 1) x
  unfold upto
  by_cases e : x = j
  · subst e; rw [if_pos rfl, if_pos (by omega)]
  · rw [if_neg e]
    by_cases e2 : x < j
    · rw [if_pos e2, if_pos (by omega)]
    · rw [if_neg e2, if_neg (by omega)]
/-- a disk of these bytes -/
def Sd.of (l : List Nat) : Sd := Sd.new (l.length / 512) (upto l (l.length / 512))
theorem Sd.of_img {l : List Nat} {n : Nat} (h : l.length = n * 512) : (Sd.of l).img = l := by
  have e : l.length / 512 = n := by omega
  unfold Sd.img Sd.of
  rw [e]
  show imgF n (upto l n) = l
  rw [imgF_congr (g := fun i => cuts l i) (fun i hi => by unfold upto; rw [if_pos hi])]
  exact imgF_cut h
theorem Bs.drop {w : World} {b off : Nat} {l : List Nat} (h : Bs w (some ⟨b, off, none⟩) l) (k : Nat) : Bs w (some ⟨b, off + k, none⟩) (l.drop k) := by
  refine ⟨fun x hx => h.1 x (List.mem_of_mem_drop hx), by rw [List.length_drop]; have := h.2.1; omega, ?_⟩
  by_cases h0 : l.drop k = []
  · exact .inl h0
  · right
    rcases h.2.2 with rfl | ⟨b', off', e, hc⟩
    · simp at h0
    · cases e
      refine ⟨b, off + k, rfl, fun i hi => ?_⟩
      rw [List.length_drop] at hi
      have := hc (k + i) (by omega)
      rw [Nat.add_assoc, this]
      congr 3
      simp [List.getD_eq_getElem?_getD]
set_option maxHeartbeats 2000000 in
theorem dFrom_any (w : World) (a : Option Addr) (m cap : Nat) (l : List Nat) (n : Nat) (hB : Bs w a l) (hm : m = l.length) (hl : l.length = n * 512) (h0 : 8 ≤ n) (h1 : n ≤ 65536) (hcap : l.length ≤ cap) :
    Calls Try.prog 23 #[.slice a m cap] w fun e w' => ∃ p bl bn, e = .returned (.tuple #[.pointer (some ⟨p, 0, none⟩), .int .i64 0]) ∧ DkAt (ext none' w w') w' p bl bn none 0 (Sd.of l) ∧ Below w.heap.size w w' := by
  subst hm
  have hd : l.length / 512 = n := by omega
  have hr : ((l.length : Int).tmod 512) = 0 := by rw [Int.tmod_eq_emod_of_nonneg (by omega)]; omega
  have hq : ((l.length : Int).tdiv 512) = (n : Int) := by rw [Int.tdiv_eq_ediv_of_nonneg (by omega)]; omega
  obtain ⟨b, off, rfl, _⟩ := hB.at (j := 0) (by omega)
  have HB := hide hB
  have hlt := hB.1
  clear hB
  have HN := hide (dNew_any w n h0 h1)
  have HS : Hid (Sd.of l = Sd.new n (upto l n)) := by show _ = _; unfold Sd.of; rw [hd]
  have HLL := hide hl
  generalize hLn : l.length = ln at *
  have HLn := hide hLn
  clear hd hl hLn
  go_enter Try.func23, Try.ntmps23
  go_wp2_with fail
  refine HN.out.mono ?_
  rintro e w1 ⟨rfl, hD1, hb1⟩
  have c0 : w1.cell? ⟨w.heap.size + 1 + 1, 0, none⟩ = some (.int .i64 (n : Int)) := hD1.cell 0
  have HD := hide (And.intro hD1 hb1)
  generalize w.heap.size + 1 + 1 = p at *
  generalize hbn : w.heap.size + 1 = bn at *
  clear hbn hD1 hb1 HN
  go_wp2
  go_loopw [25] (fun i wx => ∃ j : Nat, j ≤ n ∧ i = .int .i64 j ∧ (DkAt (ext none' w w1) wx p w.heap.size bn none 0 (Sd.new n (upto l j)) ∧ Below w.heap.size w wx)) (fun i _ => n - (intOf i).toNat)
  case atStart => exact ⟨0, Nat.zero_le _, rfl, HD.out⟩
  case round =>
    obtain ⟨j, hj, rfl, hG⟩ := hrel
    have HG := hide hG
    clear hG
    by_cases hjn : j < n
    · have hi : (j : Int) < (n : Int) := by omega
      have hk5 : j * 512 + 512 ≤ ln := by rw [HLL.out]; have : (j + 1) * 512 ≤ n * 512 := Nat.mul_le_mul_right _ hjn; omega
      have hmul2 : IntKind.i64.wrap ((j : Int) * 512) = ((j * 512 : Nat) : Int) := by rw [wrapI (by omega) (by omega)]; omega
      have hcb := cuts_blk hlt (HLn.out.trans HLL.out) hjn
      have R1 := hide (blockOf_any wr (some ⟨b, off + j * 512, none⟩) (ln - j * 512) (cap - j * 512) (l.drop (j * 512)) ((HB.out.keep HG.out.2).drop (j * 512)) (by rw [List.length_drop, HLn.out]) (by rw [List.length_drop, HLn.out]; omega))
      have R2 := hide fun (V : World) (hb : Below wr.heap.size wr V) => settle_any (HG.out.1.keep hb) j hjn (cuts l j) hcb
      have e0 : (l.drop (j * 512)).take 512 = cuts l j := rfl
      rw [e0] at R1
      have HE := hide (upto_succ l n j)
      clear e0
      obtain ⟨oo, hoo⟩ : ∃ oo, oo = j * 512 := ⟨_, rfl⟩
      rw [← hoo] at hmul2 hk5 R1
      have HOO := hide hoo
      clear hoo
      have q1 : (oo : Int) ≤ (ln : Int) := by omega
      have q2 : (0 : Int) ≤ (oo : Int) := by omega
      have q3 : oo ≠ cap := by omega
      have q4 : ¬ cap = oo := by omega
      have q5 : (ln : Int) ≤ (cap : Int) := by omega
      go_wp2_with (first | (go_at_call 41; refine R1.out.mono ?_; rintro e w2 ⟨rfl, hb2⟩; have HB2 := hide hb2; clear hb2) | (go_at_call 44; refine (R2.out _ HB2.out).mono ?_; rintro e w3 ⟨rfl, h3⟩; have H3 := hide h3; clear h3))
      go_roundw
      case rel =>
        refine ⟨j + 1, by omega, by go_num, ?_, ?_⟩
        · rw [← HE.out]; exact H3.out.1
        · have hbb := (But.ofBelow (bt HG.out.2 HB2.out) : But (ext none' w w1) w w2).trans H3.out.2 (fun _ _ h => h)
          exact hbb.below (fun k hk h => by
            rcases h with h | h
            · exact h
            · omega)
      case measure => simp [intOf]; omega
    · obtain rfl : n = j := by omega
      go_wp2
      go_ret2
      have hD := HG.out.1
      rw [← HS.out] at hD
      refine ⟨p, w.heap.size, bn, rfl, hD.mono (fun k hk => ?_) (fun k hk => ?_), HG.out.2⟩
      · rcases hk with h | h
        · exact .inl h
        · exact .inr ⟨h.1, hD.lt k (.inr h)⟩
      · rcases hk with h | h
        · exact h.elim
        · exact h.2
set_option maxHeartbeats 1000000 in
theorem dFrom_bad (w : World) (a : Option Addr) (m cap : Nat) (hmx : m ≤ 9223372036854775807) (h : m % 512 ≠ 0 ∨ m / 512 < 8 ∨ 65536 < m / 512) :
    Calls Try.prog 23 #[.slice a m cap] w fun e w' => e = .returned (.tuple #[.pointer none, .int .i64 1]) ∧ w' = w := by
  by_cases h0 : m % 512 = 0
  · have hr : ((m : Int).tmod 512) = 0 := by rw [Int.tmod_eq_emod_of_nonneg (by omega)]; omega
    obtain ⟨q, hq⟩ : ∃ q, q = m / 512 := ⟨_, rfl⟩
    have hq2 : ((m : Int).tdiv 512) = (q : Int) := by rw [Int.tdiv_eq_ediv_of_nonneg (by omega)]; omega
    have R := hide (dNew_bad w (q : Int) (by omega))
    have hqb : q ≤ 9223372036854775807 := by omega
    have hqw : wrap64 (q : Int) = (q : Int) := by unfold wrap64; omega
    clear h h0 hq
    go_enter Try.func23, Try.ntmps23
    go_wp2_with fail
    refine R.out.mono ?_
    rintro e w1 ⟨rfl, e1⟩
    have e1 := e1.symm
    subst e1
    go_wp2
    go_ret2
    exact ⟨rfl, rfl⟩
  · obtain ⟨q, hq⟩ : ∃ q, q = ((m : Int).tmod 512) := ⟨_, rfl⟩
    have hq2 : ((m : Int).tmod 512) = q := hq.symm
    have hr : q ≠ 0 := by rw [hq, Int.tmod_eq_emod_of_nonneg (by omega)]; omega
    have hr2 := eqf hr
    clear h h0 hq
    go_enter Try.func23, Try.ntmps23
    go_wp2
    go_ret2
    exact ⟨rfl, rfl⟩
end Go.Proofs.Ytlflcdjaknnfaab
