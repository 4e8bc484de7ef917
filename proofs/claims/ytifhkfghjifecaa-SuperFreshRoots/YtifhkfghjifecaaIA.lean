import Derived.Test.YtifhkfghjifecaaNZ
import Derived.Test.YtifhkfghjifecaaPT
namespace Go.Proofs.Ytifhkfghjifecaa

/-! ### a superblock -/
structure Ro where
  id : Int
  r : Int
  h : Int
  n : Int
structure Su where
  gen : Int
  bl : Int
  cl : Int
  rf : Int
  nx : Int
  rs : List Ro
def ro0 : Ro := ⟨0, 0, 0, 0⟩
def su0 : Su := ⟨0, 0, 0, 0, 0, []⟩
/-! ### the layout -/
def mayB (b c r : Int) : Bool := decide (8 ≤ b) && decide (b ≤ 65536) && (decide (1 ≤ c) && decide (c ≤ 16)) && (decide (2 ≤ r) && decide (r ≤ 65535))
theorem mayB_iff {b c r : Int} : mayB b c r = true ↔ (8 ≤ b ∧ b ≤ 65536) ∧ (1 ≤ c ∧ c ≤ 16) ∧ 2 ≤ r ∧ r ≤ 65535 := by
  unfold mayB
  simp only [Bool.and_eq_true, decide_eq_true_eq]
  exact ⟨fun ⟨⟨h1, h2⟩, h3⟩ => ⟨h1, h2, h3⟩, fun ⟨h1, h2, h3⟩ => ⟨⟨h1, h2⟩, h3⟩⟩
def pgs (b : Int) : Int := (b - 2) / 242 * 240 + max ((b - 2) % 242 - 2) 0
def bnk (b : Int) : Int := (pgs b + 239) / 240
def fsb (b : Int) : Int := 2 + 2 * bnk b
theorem pgs_in {b : Int} (h : 8 ≤ b) (h' : b ≤ 65536) : 1 ≤ pgs b ∧ pgs b ≤ 64992 := by
  unfold pgs
  have hq : b - 2 = 242 * ((b - 2) / 242) + (b - 2) % 242 := by omega
  have hr : 0 ≤ (b - 2) % 242 ∧ (b - 2) % 242 < 242 := by omega
  generalize (b - 2) / 242 = q at *
  generalize (b - 2) % 242 = r at *
  have : q ≤ 270 := by omega
  have : 0 ≤ q := by omega
  by_cases h0 : q = 0
  · omega
  · by_cases h1 : q = 270
    · omega
    · omega
theorem bnk_in {b : Int} (h : 8 ≤ b) (h' : b ≤ 65536) : 1 ≤ bnk b ∧ bnk b ≤ 271 := by
  have := pgs_in h h'
  unfold bnk
  omega
/-- so many pages have room, and no more -/
theorem pgs_room {b p : Int} : 2 + 2 * ((p + 239) / 240) + p ≤ b ↔ p ≤ pgs b := by
  unfold pgs
  have hq : b - 2 = 242 * ((b - 2) / 242) + (b - 2) % 242 := by omega
  have hr : 0 ≤ (b - 2) % 242 ∧ (b - 2) % 242 < 242 := by omega
  have ht : 240 * ((p + 239) / 240) ≤ p + 239 ∧ p + 239 < 240 * ((p + 239) / 240) + 240 := by omega
  generalize (b - 2) / 242 = q at *
  generalize (b - 2) % 242 = r at *
  generalize (p + 239) / 240 = t at *
  by_cases hp : p ≤ q * 240
  · have : t ≤ q := by omega
    omega
  · have : q + 1 ≤ t := by omega
    by_cases h2 : p ≤ q * 240 + 239
    · have : t ≤ q + 1 := by omega
      omega
    · omega

/-! ### what may be -/
def can (p : Int) (t : Ro) : Bool := (decide (t.r = 0) && decide (t.h = 0) && decide (t.n = 0)) || (decide (1 ≤ t.r) && decide (t.r ≤ p) && (decide (1 ≤ t.h) && decide (t.h ≤ 12)) && (decide (1 ≤ t.n) && decide (t.n ≤ p * 8)))
def okAt (nx : Int) (L : List Ro) (j : Nat) : Bool := decide (1 ≤ (L.getD j ro0).id) && decide ((L.getD j ro0).id < nx) && (decide (j = 0) || decide ((L.getD (j - 1) ro0).id < (L.getD j ro0).id))
def rise (nx : Int) (L : List Ro) : Bool := (List.range L.length).all (okAt nx L)
def lim (s : Su) : Bool := decide (0 ≤ s.gen) && decide (s.gen ≤ 1099511627776) && (decide (1 ≤ s.nx) && decide (s.nx ≤ 2147483648)) && decide ((s.rs.length : Int) ≤ s.cl)
def chE (s : Su) : Nat := if mayB s.bl s.cl s.rf = false then 1 else if lim s = false then 4 else if rise s.nx s.rs = false then 11 else if s.rs.all (can (pgs s.bl)) = false then 5 else 0
theorem lim_iff {s : Su} : lim s = true ↔ (0 ≤ s.gen ∧ s.gen ≤ 1099511627776) ∧ (1 ≤ s.nx ∧ s.nx ≤ 2147483648) ∧ (s.rs.length : Int) ≤ s.cl := by
  unfold lim
  simp only [Bool.and_eq_true, decide_eq_true_eq]
  exact ⟨fun ⟨⟨h1, h2⟩, h3⟩ => ⟨h1, h2, h3⟩, fun ⟨h1, h2, h3⟩ => ⟨⟨h1, h2⟩, h3⟩⟩
theorem rise_iff {nx : Int} {L : List Ro} : rise nx L = true ↔ ∀ j, j < L.length → okAt nx L j = true := by
  unfold rise
  rw [List.all_eq_true]
  exact ⟨fun h j hj => h j (List.mem_range.2 hj), fun h j hj => h j (List.mem_range.1 hj)⟩
theorem chE_zero {s : Su} (h : chE s = 0) : mayB s.bl s.cl s.rf = true ∧ lim s = true ∧ rise s.nx s.rs = true ∧ s.rs.all (can (pgs s.bl)) = true := by
  unfold chE at h
  split at h
  · cases h
  · rename_i h1
    split at h
    · cases h
    · rename_i h2
      split at h
      · cases h
      · rename_i h3
        split at h
        · cases h
        · rename_i h4
          exact ⟨by simpa using h1, by simpa using h2, by simpa using h3, by simpa using h4⟩
/-- the numbers of a superblock that may be -/
structure Ok (s : Su) : Prop where
  b : 8 ≤ s.bl ∧ s.bl ≤ 65536
  c : 1 ≤ s.cl ∧ s.cl ≤ 16
  f : 2 ≤ s.rf ∧ s.rf ≤ 65535
  g : 0 ≤ s.gen ∧ s.gen ≤ 1099511627776
  x : 1 ≤ s.nx ∧ s.nx ≤ 2147483648
  l : s.rs.length ≤ 16
  r : ∀ t ∈ s.rs, (1 ≤ t.id ∧ t.id < 2147483648) ∧ (0 ≤ t.r ∧ t.r ≤ 64992) ∧ (0 ≤ t.h ∧ t.h ≤ 12) ∧ 0 ≤ t.n ∧ t.n ≤ 519936
theorem can_lt {p : Int} {t : Ro} (hp : p ≤ 64992) (h : can p t = true) : (0 ≤ t.r ∧ t.r ≤ 64992) ∧ (0 ≤ t.h ∧ t.h ≤ 12) ∧ 0 ≤ t.n ∧ t.n ≤ 519936 := by
  unfold can at h
  simp only [Bool.or_eq_true, Bool.and_eq_true, decide_eq_true_eq] at h
  omega
theorem chE_ok {s : Su} (h : chE s = 0) : Ok s := by
  obtain ⟨h1, h2, h3, h4⟩ := chE_zero h
  obtain ⟨b, c, f⟩ := mayB_iff.1 h1
  obtain ⟨g, x, l⟩ := lim_iff.1 h2
  refine ⟨b, c, f, g, x, by omega, fun t ht => ⟨?_, can_lt (pgs_in b.1 b.2).2 (List.all_eq_true.1 h4 t ht)⟩⟩
  obtain ⟨j, hj, rfl⟩ := List.mem_iff_getElem.1 ht
  have hk := rise_iff.1 h3 j hj
  unfold okAt at hk
  simp only [List.getD_eq_getElem?_getD, List.getElem?_eq_getElem hj, Option.getD_some, Bool.and_eq_true, decide_eq_true_eq] at hk
  omega

/-! ### its bytes -/
def rB (t : Ro) : List Nat := numB t.id.toNat 4 ++ (numB t.r.toNat 4 ++ (numB t.h.toNat 1 ++ numB t.n.toNat 4))
def rsB (L : List Ro) : List Nat := L.flatMap rB
theorem rB_length (t : Ro) : (rB t).length = 13 := by unfold rB; simp [numB_length]
theorem rB_b8 (t : Ro) : B8 (rB t) := B8.app.2 ⟨numB_b8 _ _, B8.app.2 ⟨numB_b8 _ _, B8.app.2 ⟨numB_b8 _ _, numB_b8 _ _⟩⟩⟩
theorem rsB_append (a b : List Ro) : rsB (a ++ b) = rsB a ++ rsB b := by unfold rsB; rw [List.flatMap_append]
theorem rsB_cons (x : Ro) (r : List Ro) : rsB (x :: r) = rB x ++ rsB r := by unfold rsB; rw [List.flatMap_cons]
theorem rsB_one (x : Ro) : rsB [x] = rB x := by rw [rsB_cons]; simp [rsB]
theorem rsB_length (L : List Ro) : (rsB L).length = 13 * L.length := by
  induction L with
  | nil => rfl
  | cons x r ih => rw [rsB_cons, List.length_append, rB_length, ih, List.length_cons]; omega
theorem rsB_b8 (L : List Ro) : B8 (rsB L) := by
  induction L with
  | nil => exact B8.nil
  | cons x r ih => rw [rsB_cons]; exact B8.app.2 ⟨rB_b8 _, ih⟩
def hB (g b c f x n : Nat) : List Nat := numB 827346755 4 ++ (numB g 8 ++ (numB b 4 ++ (numB c 1 ++ (numB f 4 ++ (numB x 4 ++ numB n 1)))))
theorem hB_length (g b c f x n : Nat) : (hB g b c f x n).length = 26 := by unfold hB; simp [numB_length]
theorem hB_b8 (g b c f x n : Nat) : B8 (hB g b c f x n) := B8.app.2 ⟨numB_b8 _ _, B8.app.2 ⟨numB_b8 _ _, B8.app.2 ⟨numB_b8 _ _, B8.app.2 ⟨numB_b8 _ _, B8.app.2 ⟨numB_b8 _ _, B8.app.2 ⟨numB_b8 _ _, numB_b8 _ _⟩⟩⟩⟩⟩⟩
def sB (s : Su) : List Nat := hB s.gen.toNat s.bl.toNat s.cl.toNat s.rf.toNat s.nx.toNat s.rs.length ++ rsB s.rs
theorem sB_length (s : Su) : (sB s).length = 26 + 13 * s.rs.length := by unfold sB; rw [List.length_append, hB_length, rsB_length]
theorem sB_b8 (s : Su) : B8 (sB s) := B8.app.2 ⟨hB_b8 _ _ _ _ _ _, rsB_b8 _⟩
def lay (s : Su) : List Nat := summed (sB s)
theorem lay_length {s : Su} (h : s.rs.length ≤ 16) : (lay s).length = 512 := summed_length (by rw [sB_length]; omega)
theorem lay_b8 (s : Su) : B8 (lay s) := summed_b8 (sB_b8 s)
theorem lay_take {s : Su} (h : s.rs.length ≤ 16) : (lay s).take 508 = padded (sB s) := by
  have hl : (padded (sB s)).length = 508 := padded_length (by rw [sB_length]; omega)
  unfold lay summed
  rw [List.take_append_of_le_length (by omega), List.take_of_length_le (by omega)]
theorem lay_drop {s : Su} (h : s.rs.length ≤ 16) : (lay s).drop 508 = numB (M.of (padded (sB s))) 4 := by
  have hl : (padded (sB s)).length = 508 := padded_length (by rw [sB_length]; omega)
  unfold lay summed
  rw [List.drop_append_of_le_length (by omega), List.drop_of_length_le (by omega), List.nil_append]

/-! ### what a block says -/
def nv (D : List Nat) (a k : Nat) : Nat := numV ((D.drop a).take k)
theorem nv_lt {D : List Nat} (h8 : B8 D) (a k : Nat) : nv D a k < 256 ^ k := by
  unfold nv
  have h1 := numV_lt ((D.drop a).take k) ((drop_b8 h8 a).take k)
  exact Nat.lt_of_lt_of_le h1 (Nat.pow_le_pow_right (by decide) (by rw [List.length_take]; omega))
theorem numB_nv {D : List Nat} (h8 : B8 D) {a k : Nat} (hl : a + k ≤ D.length) : numB (nv D a k) k = (D.drop a).take k := by
  have h1 := numB_numV ((D.drop a).take k) ((drop_b8 h8 a).take k)
  have h2 : ((D.drop a).take k).length = k := by rw [List.length_take, List.length_drop]; omega
  rw [h2] at h1
  exact h1
def rR (D : List Nat) (j : Nat) : Ro := ⟨nv D (26 + 13 * j) 4, nv D (30 + 13 * j) 4, nv D (34 + 13 * j) 1, nv D (35 + 13 * j) 4⟩
def rRs (D : List Nat) (n : Nat) : List Ro := (List.range n).map (rR D)
theorem rRs_length (D : List Nat) (n : Nat) : (rRs D n).length = n := by simp [rRs]
theorem rRs_succ (D : List Nat) (n : Nat) : rRs D (n + 1) = rRs D n ++ [rR D n] := by simp [rRs, List.range_succ]
def i64w (x : Nat) : Int := if x < 9223372036854775808 then (x : Int) else (x : Int) - 18446744073709551616
def rS (D : List Nat) (n : Nat) : Su := ⟨i64w (nv D 4 8), nv D 12 4, nv D 16 1, nv D 17 4, nv D 21 4, rRs D n⟩
def okD (D : List Nat) : Bool := decide (nv D 25 1 ≤ 16) && decide (chE (rS D (nv D 25 1)) = 0) && decide (nv D 0 4 = 827346755) && (D.drop (26 + 13 * nv D 25 1)).all (· == 0)
def deE (b : List Nat) : Nat := if b.length ≠ 512 then 1 else if numV (b.drop 508) ≠ M.of (b.take 508) then 6 else if okD (b.take 508) = false then 5 else 0
def deS (b : List Nat) : Su := if deE b = 0 then rS (b.take 508) (nv (b.take 508) 25 1) else su0
theorem okD_iff {D : List Nat} : okD D = true ↔ nv D 25 1 ≤ 16 ∧ chE (rS D (nv D 25 1)) = 0 ∧ nv D 0 4 = 827346755 ∧ (D.drop (26 + 13 * nv D 25 1)).all (· == 0) = true := by
  unfold okD
  simp only [Bool.and_eq_true, decide_eq_true_eq]
  exact ⟨fun ⟨⟨⟨h1, h2⟩, h3⟩, h4⟩ => ⟨h1, h2, h3, h4⟩, fun ⟨h1, h2, h3, h4⟩ => ⟨⟨⟨h1, h2⟩, h3⟩, h4⟩⟩
theorem deE_zero {b : List Nat} : deE b = 0 ↔ b.length = 512 ∧ numV (b.drop 508) = M.of (b.take 508) ∧ okD (b.take 508) = true := by
  unfold deE
  by_cases h1 : b.length = 512
  · rw [if_neg (by simp [h1])]
    by_cases h2 : numV (b.drop 508) = M.of (b.take 508)
    · rw [if_neg (by simp [h2])]
      cases h3 : okD (b.take 508) <;> simp [h1, h2]
    · rw [if_pos h2]; simp [h2]
  · rw [if_pos h1]; simp [h1]
theorem dtk (l : List Nat) (a k : Nat) : l.drop a = (l.drop a).take k ++ l.drop (a + k) := by rw [← List.drop_drop]; exact (List.take_append_drop k _).symm
theorem rB_cut {D : List Nat} (h8 : B8 D) {j : Nat} (hl : 26 + 13 * j + 13 ≤ D.length) : rB (rR D j) = (D.drop (26 + 13 * j)).take 13 := by
  unfold rB rR
  simp only [Int.toNat_natCast]
  rw [numB_nv h8 (by omega), numB_nv h8 (by omega), numB_nv h8 (by omega), numB_nv h8 (by omega)]
  rw [show 30 + 13 * j = 26 + 13 * j + 4 by omega, show 34 + 13 * j = 26 + 13 * j + 4 + 4 by omega, show 35 + 13 * j = 26 + 13 * j + 4 + 4 + 1 by omega]
  generalize 26 + 13 * j = k
  rw [show (13 : Nat) = 4 + (4 + (1 + 4)) from rfl, List.take_add, List.take_add, List.take_add, List.drop_drop, List.drop_drop, List.drop_drop]
theorem rsB_cut {D : List Nat} (h8 : B8 D) : ∀ n, 26 + 13 * n ≤ D.length → rsB (rRs D n) = (D.drop 26).take (13 * n)
  | 0, _ => by simp [rRs, rsB]
  | n + 1, h => by
    rw [rRs_succ, rsB_append, rsB_cut h8 n (by omega), rsB_one, rB_cut h8 (by omega), show 13 * (n + 1) = 13 * n + 13 by omega, List.take_add, List.drop_drop]
theorem sB_cut {D : List Nat} (h8 : B8 D) (hl : D.length = 508) (hm : nv D 0 4 = 827346755) (hn : nv D 25 1 ≤ 16) (hg : nv D 4 8 < 9223372036854775808) : sB (rS D (nv D 25 1)) = D.take (26 + 13 * nv D 25 1) := by
  have hw : (i64w (nv D 4 8)).toNat = nv D 4 8 := by unfold i64w; rw [if_pos hg]; rfl
  unfold sB rS
  simp only [Int.toNat_natCast, rRs_length, hw]
  rw [rsB_cut h8 _ (by omega)]
  unfold hB
  rw [← hm, numB_nv h8 (by omega), numB_nv h8 (by omega), numB_nv h8 (by omega), numB_nv h8 (by omega), numB_nv h8 (by omega), numB_nv h8 (by omega), numB_nv h8 (by omega)]
  generalize nv D 25 1 = n at *
  have t : ∀ a k m, (D.drop a).take (k + m) = (D.drop a).take k ++ (D.drop (a + k)).take m := fun a k m => by rw [List.take_add, List.drop_drop]
  have e : (D.drop 0).take 26 = (D.drop 0).take 4 ++ ((D.drop 4).take 8 ++ ((D.drop 12).take 4 ++ ((D.drop 16).take 1 ++ ((D.drop 17).take 4 ++ ((D.drop 21).take 4 ++ (D.drop 25).take 1))))) :=
    (t 0 4 22).trans (congrArg _ ((t 4 8 14).trans (congrArg _ ((t 12 4 10).trans (congrArg _ ((t 16 1 9).trans (congrArg _ ((t 17 4 5).trans (congrArg _ (t 21 4 1))))))))))
  rw [← e, ← t 0 26 (13 * n)]
  rfl
theorem allZ {l : List Nat} (h : l.all (· == 0) = true) : l = List.replicate l.length 0 := by
  refine List.eq_replicate_iff.2 ⟨rfl, fun x hx => ?_⟩
  have := List.all_eq_true.1 h x hx
  simpa using this
theorem gen_lt {D : List Nat} {n : Nat} (h8 : B8 D) (h : chE (rS D n) = 0) : nv D 4 8 < 9223372036854775808 := by
  have h1 := (chE_ok h).g
  have h2 := nv_lt h8 4 8
  unfold rS i64w at h1
  simp only at h1
  split at h1
  · assumption
  · omega
theorem pad_cut {D : List Nat} (h8 : B8 D) (hl : D.length = 508) (h : okD D = true) : padded (sB (rS D (nv D 25 1))) = D := by
  obtain ⟨hn, hc, hm, hz⟩ := okD_iff.1 h
  unfold padded
  rw [sB_length, show (rS D (nv D 25 1)).rs.length = nv D 25 1 from rRs_length _ _, sB_cut h8 hl hm hn (gen_lt h8 hc)]
  have e := allZ hz
  rw [List.length_drop, hl] at e
  rw [← e, List.take_append_drop]
theorem deS_eq {b : List Nat} (h : deE b = 0) : deS b = rS (b.take 508) (nv (b.take 508) 25 1) := by unfold deS; rw [if_pos h]
theorem deS_no {b : List Nat} (h : deE b ≠ 0) : deS b = su0 := by unfold deS; rw [if_neg h]
/-- a block that is taken is the one that is laid of what it says -/
theorem de_form {b : List Nat} (h8 : B8 b) (h : deE b = 0) : lay (deS b) = b ∧ chE (deS b) = 0 := by
  obtain ⟨hl, hs, hk⟩ := deE_zero.1 h
  have hD : (b.take 508).length = 508 := by rw [List.length_take]; omega
  have hD8 : B8 (b.take 508) := h8.take 508
  have hsum : b.drop 508 = numB (M.of (b.take 508)) 4 := by
    have e := numB_numV (b.drop 508) (drop_b8 h8 508)
    rw [show (b.drop 508).length = 4 by rw [List.length_drop]; omega, hs] at e
    exact e.symm
  rw [deS_eq h]
  refine ⟨?_, (okD_iff.1 hk).2.1⟩
  unfold lay summed
  rw [pad_cut hD8 hD hk, ← hsum, List.take_append_drop]
theorem tk (x k : Nat) (r : List Nat) : (numB x k ++ r).take k = numB x k := by rw [List.take_append_of_le_length (by rw [numB_length]; omega), List.take_of_length_le (by rw [numB_length]; omega)]
theorem dk (x k : Nat) (r : List Nat) : (numB x k ++ r).drop k = r := by rw [List.drop_append_of_le_length (by rw [numB_length]; omega), List.drop_of_length_le (by rw [numB_length]; omega), List.nil_append]
theorem nv_at {P R : List Nat} {x a k : Nat} (hP : P.length = a) (hx : x < 256 ^ k) : nv (P ++ (numB x k ++ R)) a k = x := by
  unfold nv
  rw [List.drop_append_of_le_length (by omega), List.drop_of_length_le (by omega), List.nil_append, tk, numV_numB k x hx]
theorem rR_at {P R : List Nat} {t : Ro} {j : Nat} (hP : P.length = 26 + 13 * j) (h : (1 ≤ t.id ∧ t.id < 2147483648) ∧ (0 ≤ t.r ∧ t.r ≤ 64992) ∧ (0 ≤ t.h ∧ t.h ≤ 12) ∧ 0 ≤ t.n ∧ t.n ≤ 519936) : rR (P ++ (rB t ++ R)) j = t := by
  obtain ⟨⟨a1, a2⟩, ⟨b1, b2⟩, ⟨c1, c2⟩, d1, d2⟩ := h
  have e1 : nv (P ++ (rB t ++ R)) (26 + 13 * j) 4 = t.id.toNat := by
    unfold rB
    simp only [List.append_assoc]
    exact nv_at hP (by omega)
  have e2 : nv (P ++ (rB t ++ R)) (30 + 13 * j) 4 = t.r.toNat := by
    unfold rB
    simp only [List.append_assoc]
    rw [← List.append_assoc P]
    exact nv_at (by rw [List.length_append, numB_length, hP]; omega) (by omega)
  have e3 : nv (P ++ (rB t ++ R)) (34 + 13 * j) 1 = t.h.toNat := by
    unfold rB
    simp only [List.append_assoc]
    rw [← List.append_assoc P, ← List.append_assoc (P ++ _)]
    exact nv_at (by rw [List.length_append, List.length_append, numB_length, numB_length, hP]; omega) (by omega)
  have e4 : nv (P ++ (rB t ++ R)) (35 + 13 * j) 4 = t.n.toNat := by
    unfold rB
    simp only [List.append_assoc]
    rw [← List.append_assoc P, ← List.append_assoc (P ++ _), ← List.append_assoc (P ++ _ ++ _)]
    exact nv_at (by rw [List.length_append, List.length_append, List.length_append, numB_length, numB_length, numB_length, hP]; omega) (by omega)
  unfold rR
  rw [e1, e2, e3, e4, Int.toNat_of_nonneg (by omega), Int.toNat_of_nonneg b1, Int.toNat_of_nonneg c1, Int.toNat_of_nonneg d1]
theorem rRs_at {P Z : List Nat} (hP : P.length = 26) : ∀ L : List Ro, (∀ t ∈ L, (1 ≤ t.id ∧ t.id < 2147483648) ∧ (0 ≤ t.r ∧ t.r ≤ 64992) ∧ (0 ≤ t.h ∧ t.h ≤ 12) ∧ 0 ≤ t.n ∧ t.n ≤ 519936) → rRs (P ++ (rsB L ++ Z)) L.length = L := by
  intro L h
  refine List.ext_getElem (by rw [rRs_length]) fun j h1 h2 => ?_
  have e : rsB L = rsB (L.take j) ++ (rB L[j] ++ rsB (L.drop (j + 1))) := by
    rw [← rsB_cons, ← List.drop_eq_getElem_cons h2, ← rsB_append, List.take_append_drop]
  have e1 : P ++ (rsB L ++ Z) = (P ++ rsB (L.take j)) ++ (rB L[j] ++ (rsB (L.drop (j + 1)) ++ Z)) := by rw [e]; simp only [List.append_assoc]
  have e2 : (rRs (P ++ (rsB L ++ Z)) L.length)[j] = rR (P ++ (rsB L ++ Z)) j := by simp [rRs]
  rw [e2, e1]
  exact rR_at (by rw [List.length_append, rsB_length, hP, List.length_take]; omega) (h _ (List.getElem_mem _))
/-- what is laid is taken, as it is -/
theorem de_back {s : Su} (h : chE s = 0) : deE (lay s) = 0 ∧ deS (lay s) = s := by
  have k := chE_ok h
  have hlen := lay_length k.l
  have hM := M.of_lt (padded_b8 (sB_b8 s))
  have hsum : numV ((lay s).drop 508) = M.of ((lay s).take 508) := by rw [lay_take k.l, lay_drop k.l, numV_numB 4 _ (by omega)]
  obtain ⟨m, hm, hp⟩ : ∃ m, m = 827346755 ∧ padded (sB s) = numB m 4 ++ (numB s.gen.toNat 8 ++ (numB s.bl.toNat 4 ++ (numB s.cl.toNat 1 ++ (numB s.rf.toNat 4 ++ (numB s.nx.toNat 4 ++ (numB s.rs.length 1 ++ (rsB s.rs ++ List.replicate (508 - (26 + 13 * s.rs.length)) 0))))))) := by
    refine ⟨_, rfl, ?_⟩
    unfold padded
    rw [sB_length]
    unfold sB hB
    simp only [List.append_assoc]
  generalize List.replicate (508 - (26 + 13 * s.rs.length)) 0 = Z at hp
  have kl := k.l
  have kg := k.g
  have kb := k.b
  have kc := k.c
  have kf := k.f
  have kx := k.x
  have v0 : nv (padded (sB s)) 0 4 = 827346755 := by rw [hp, ← hm]; exact nv_at (P := []) rfl (by omega)
  have v4 : nv (padded (sB s)) 4 8 = s.gen.toNat := by rw [hp]; exact nv_at (numB_length _ _) (by omega)
  have v12 : nv (padded (sB s)) 12 4 = s.bl.toNat := by
    rw [hp, ← List.append_assoc]
    exact nv_at (by simp only [List.length_append, numB_length]) (by omega)
  have v16 : nv (padded (sB s)) 16 1 = s.cl.toNat := by
    rw [hp, ← List.append_assoc, ← List.append_assoc]
    exact nv_at (by simp only [List.length_append, numB_length]) (by omega)
  have v17 : nv (padded (sB s)) 17 4 = s.rf.toNat := by
    rw [hp, ← List.append_assoc, ← List.append_assoc, ← List.append_assoc]
    exact nv_at (by simp only [List.length_append, numB_length]) (by omega)
  have v21 : nv (padded (sB s)) 21 4 = s.nx.toNat := by
    rw [hp, ← List.append_assoc, ← List.append_assoc, ← List.append_assoc, ← List.append_assoc]
    exact nv_at (by simp only [List.length_append, numB_length]) (by omega)
  have v25 : nv (padded (sB s)) 25 1 = s.rs.length := by
    rw [hp, ← List.append_assoc, ← List.append_assoc, ← List.append_assoc, ← List.append_assoc, ← List.append_assoc]
    exact nv_at (by simp only [List.length_append, numB_length]) (by omega)
  have hh : padded (sB s) = hB s.gen.toNat s.bl.toNat s.cl.toNat s.rf.toNat s.nx.toNat s.rs.length ++ (rsB s.rs ++ List.replicate (508 - (26 + 13 * s.rs.length)) 0) := by
    unfold padded
    rw [sB_length]
    unfold sB
    simp only [List.append_assoc]
  have vR : rRs (padded (sB s)) s.rs.length = s.rs := by rw [hh]; exact rRs_at (hB_length _ _ _ _ _ _) s.rs k.r
  have hS : rS (padded (sB s)) s.rs.length = s := by
    unfold rS i64w
    rw [v4, v12, v16, v17, v21, vR, if_pos (by omega), Int.toNat_of_nonneg kg.1, Int.toNat_of_nonneg (by omega), Int.toNat_of_nonneg (by omega), Int.toNat_of_nonneg (by omega), Int.toNat_of_nonneg (by omega)]
  clear hp hm
  have hz : (padded (sB s)).drop (26 + 13 * s.rs.length) = List.replicate (508 - (26 + 13 * s.rs.length)) 0 := by
    unfold padded
    rw [sB_length, List.drop_append_of_le_length (by rw [sB_length]; omega), List.drop_of_length_le (by rw [sB_length]; omega), List.nil_append]
  have hd : deE (lay s) = 0 := by
    refine deE_zero.2 ⟨hlen, hsum, okD_iff.2 ?_⟩
    rw [lay_take k.l, v25, hS, v0, hz]
    exact ⟨kl, h, rfl, by simp⟩
  refine ⟨hd, ?_⟩
  rw [deS_eq hd, lay_take k.l, v25, hS]
theorem xor_self_eq {a b : Nat} (h : a ^^^ b = 0) : a = b := by
  have := congrArg (fun z => z ^^^ b) h
  simp only [Nat.zero_xor] at this
  rw [Nat.xor_assoc, Nat.xor_self, Nat.xor_zero] at this
  exact this
/-- one byte that is another one is told -/
theorem de_spoil {s : Su} (h : chE s = 0) {j x : Nat} (hj : j < 512) (hx : x < 256) (hx0 : x ≠ 0) : deE ((lay s).set j ((lay s).getD j 0 ^^^ x)) = 6 := by
  have h0 := (de_back h).1
  have h8 := lay_b8 s
  generalize lay s = b at *
  obtain ⟨hl, hs, _⟩ := deE_zero.1 h0
  have hjl : j < b.length := by omega
  have hbj : b.getD j 0 < 256 := by rw [show b.getD j 0 = b[j] by simp [hjl]]; exact h8 _ (List.getElem_mem _)
  have hy : b.getD j 0 ^^^ x < 256 := Nat.xor_lt_two_pow (n := 8) (by omega) (by omega)
  have hs' : B8 (b.set j (b.getD j 0 ^^^ x)) := fun y hy' => by
    rcases List.mem_or_eq_of_mem_set hy' with h1 | h1
    · exact h8 y h1
    · rw [h1]; exact hy
  unfold deE
  rw [if_neg (by rw [List.length_set, hl]; simp), if_pos]
  intro hc
  have m1 := own_of h8 hl hs
  have m2 := own_of hs' (by rw [List.length_set]; exact hl) hc
  have ho := M.on_set x b j M.F hjl
  exact M.tells b (b.set j (b.getD j 0 ^^^ x)) _ _ (by omega) hx0 ho (by rw [m1, m2])
/-- the document's way: what would be laid is held against the block -/
theorem laid_iff {b : List Nat} (h8 : B8 b) (hl : b.length = 512) (hs : numV (b.drop 508) = M.of (b.take 508)) (hc : chE (rS (b.take 508) (nv (b.take 508) 25 1)) = 0) :
    lay (rS (b.take 508) (nv (b.take 508) 25 1)) = b ↔ okD (b.take 508) = true := by
  constructor
  · intro e
    have h1 := (de_back hc).1
    rw [e] at h1
    exact (deE_zero.1 h1).2.2
  · intro hk
    have hd := deE_zero.2 ⟨hl, hs, hk⟩
    have := (de_form h8 hd).1
    rwa [deS_eq hd] at this
end Go.Proofs.Ytifhkfghjifecaa
