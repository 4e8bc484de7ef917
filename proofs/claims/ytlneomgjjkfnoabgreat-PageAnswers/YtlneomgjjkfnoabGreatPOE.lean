import Derived.Test.YtlneomgjjkfnoabGreatPOD
namespace Go.Proofs.YtlneomgjjkfnoabGreat
open Go.RowKit

theorem Pn.zero (v w : World) : Pn v w Pv.zero := ⟨Jw.nil _, New.none _ _, Rw.nil _, New.none _ _, (fun _ h => by cases h), List.pairwise_singleton _ _, B8.nil, (fun _ h => by cases h), by simp [N64, Pv.zero], by simp [N64, Pv.zero], by simp [N64, Pv.zero]⟩
/-- what a page that was read is in its caller's eyes -/
theorem Pn.pre {v v' w : World} {P : Pv} (h : Pn v w P) (hv : v'.heap.size ≤ v.heap.size) : Pn v' w P := ⟨h.it, h.itn.mono hv, h.d, h.dn.mono hv, fun t ht => ⟨(h.fr t ht).1, (h.fr t ht).2.1.mono hv, (h.fr t ht).2.2⟩, h.dist, h.d8, h.ns, h.nk, h.nl, h.nn⟩
theorem Pn.row {v w : World} {P : Pv} (h : Pn v w P) {t : TypeId} {g : Nat} {cs : Array Value} (hg : Bx w t g cs) (h1 : t ≠ 5) (h2 : t ≠ 55) (cs' : Array Value) : Pn v (w.setRow g cs') P :=
  h.but (but_setRow _ _ _) fun k hk => by subst hk; exact ⟨t, cs, hg, h1, h2⟩
theorem Pn.pi {v w : World} {P : Pv} (h : Pn v w P) (hl : P.items.length ≤ 2199023255489) : Pi w P := by
  have hc : P.items.length ≤ P.cI := by
    rcases h.it.cases with ⟨_, h1, h2⟩ | ⟨g, cur, _, _, h1, _⟩
    · rw [h1, h2]; simp
    · exact h1
  have hi : ∀ r ∈ P.items, Ii w r := fun r hr => by
    have hs := (rows_sub hr).subset
    obtain ⟨k1, k2, k3⟩ := h.fr ⟨r.aK, r.cK, r.key⟩ (hs (by simp [Iv.rows]))
    obtain ⟨v1, v2, v3⟩ := h.fr ⟨r.aV, r.cV, r.val⟩ (hs (by simp [Iv.rows]))
    exact ⟨k1.bs k3 k1.len_le, k1.cap, v1.bs v3 v1.len_le, v1.cap, (h.ns r hr).1, (h.ns r hr).2⟩
  exact ⟨h.it.qs hi hl, hc, h.d.bs h.d8 h.d.len_le, h.d.cap, h.nk, h.nl, h.nn⟩
theorem dec_fin {no : Int} {b : List Nat} (hb : B8 b) (hl : b.length = 512) (hn : isNum no = true) (hsum : numV (b.drop 508) = M.of (b.take 508)) :
    tel (tel (tel (tel 0 ((rdAll ⟨b.take 508, 0⟩).1.no != no) (Int.toNat 25)) ((((rdAll ⟨b.take 508, 0⟩).2.zeros.fin : Nat) : Int) != 0) (Int.toNat 5)) (!isGen (rdAll ⟨b.take 508, 0⟩).1.gen) (Int.toNat 5)) ((((rdAll ⟨b.take 508, 0⟩).1.page.check : Nat) : Int) != 0) (Int.toNat 5) = decE no b := by
  have h1 := rd_no (l := b.take 508) (by rw [List.length_take]; omega)
  have hd : ((b.take 508).drop 2).take 4 = (b.drop 2).take 4 := by
    rw [List.drop_take, List.take_take]
    rfl
  rw [hd] at h1
  unfold decE
  rw [if_neg (by rw [hn]; simp), if_neg (by simpa using hl), if_neg (by simpa using hsum)]
  by_cases hno : (rdAll ⟨b.take 508, 0⟩).1.no = no
  · rw [if_neg (by rw [← h1]; simpa using hno)]
    have hi := rd_iff hb hl hn hsum hno
    generalize (rdAll ⟨b.take 508, 0⟩).2.zeros.fin = f at *
    generalize (rdAll ⟨b.take 508, 0⟩).1.page.check = ck at *
    generalize isGen (rdAll ⟨b.take 508, 0⟩).1.gen = ig at *
    by_cases hgd : goodB no b = true
    · obtain ⟨rfl, rfl, rfl⟩ := hi.2 hgd
      rw [if_pos hgd]
      simp [tel, hno]
    · rw [if_neg hgd]
      have : ¬ (f = 0 ∧ ig = true ∧ ck = 0) := fun h => hgd (hi.1 h)
      unfold tel
      by_cases hf : f = 0 <;> cases ig <;> by_cases hck : ck = 0 <;> simp_all
  · rw [if_pos (by rw [← h1]; exact hno)]
    have : ((rdAll ⟨b.take 508, 0⟩).1.no != no) = true := by simpa using hno
    rw [this]
    simp [tel]
theorem content_new (w : World) : Bx (w.alloc (.cells (ctc 0 0 Pv.zero) 62)) 62 w.heap.size (ctc 0 0 Pv.zero) := Bx.new _ _ _
/-- what Decode hands out -/
def DecQ (w : World) (no : Int) (b : List Nat) (e : Ending) (w' : World) : Prop := ∃ P : Pv, e = .returned (.tuple #[P.vl, .int .i64 (decG no b : Int), .int .i64 (decE no b : Int)]) ∧ P.pg = decP no b ∧ Pn w w' P ∧ P.items.length ≤ 255 ∧ Below w.heap.size w w'
theorem decQ_err {w w' : World} {no : Int} {b : List Nat} (h : decE no b ≠ 0) (hb : Below w.heap.size w w') : DecQ w no b (.returned (.tuple #[Pv.zero.vl, .int .i64 0, .int .i64 (decE no b : Int)])) w' :=
  ⟨Pv.zero, by unfold decG; rw [if_neg h]; rfl, by unfold decP; rw [if_neg h]; rfl, Pn.zero _ _, by simp [Pv.zero], hb⟩
set_option maxRecDepth 8000 in
set_option maxHeartbeats 1600000 in
theorem Decode_no (w : World) (no : Int) (a : Option Addr) (n c : Nat) (b : List Nat) (hi : isNum no = false) :
    Calls Tryz.prog 21 #[.int .i64 no, .slice a n c] w (DecQ w no b) := by
  have h1 : decE no b = 15 := by unfold decE; rw [if_pos hi]
  have HD := hide (fun w' hb => decQ_err (w := w) (w' := w') (no := no) (b := b) (by rw [h1]; decide) hb)
  rw [h1] at HD
  have IN := hide fun w1 => isNumber_any w1 no
  rw [hi] at IN
  have M0 := hide (Bx.new w 27 Pv.zero.cs)
  clear h1 hi
  unfold Pv.zero Pv.cs at M0
  simp only [List.length_nil] at M0
  go_enter Tryz.func21, Tryz.ntmps21
  go_wp2_with (first | (go_at_call 32; refine (IN.out _).mono ?_; rintro y w1 ⟨rfl, hww⟩; obtain rfl := hww.symm) | refine wpList_store_row rfl 27 _ _ rfl w.heap.size _ rfl rfl 27 _ M0.out sizePage rfl (by simp [Value.oneCell']) ?_)
  refine bodyPost_ret (v := .tuple #[.agg _, _, _]) (results_cell_two Tryz.results21 _ _ w.heap.size 27 _ (0, 0) _ rfl (setRow_heap _ _ _ _ _ _ M0.out) Tryz.underlying27 rfl sizePage) rfl ?_
  exact HD.out _ (below_setRow (al _ _) (Nat.le_refl _) _)
set_option maxRecDepth 8000 in
set_option maxHeartbeats 1600000 in
theorem Decode_len (w : World) (no : Int) (a : Option Addr) (n c : Nat) (b : List Nat) (hn : n = b.length) (hi : isNum no = true) (hl : b.length ≠ 512) :
    Calls Tryz.prog 21 #[.int .i64 no, .slice a n c] w (DecQ w no b) := by
  have h1 : decE no b = 16 := by unfold decE; rw [if_neg (by rw [hi]; simp), if_pos hl]
  have HD := hide (fun w' hb => decQ_err (w := w) (w' := w') (no := no) (b := b) (by rw [h1]; decide) hb)
  rw [h1] at HD
  have IN := hide fun w1 => isNumber_any w1 no
  rw [hi] at IN
  have M0 := hide (Bx.new w 27 Pv.zero.cs)
  have hn5 : (((n : Nat) : Int) == 512) = false := by simp; omega
  clear h1 hi hl hn
  unfold Pv.zero Pv.cs at M0
  simp only [List.length_nil] at M0
  go_enter Tryz.func21, Tryz.ntmps21
  go_wp2_with (first | (go_at_call 32; refine (IN.out _).mono ?_; rintro y w1 ⟨rfl, hww⟩; obtain rfl := hww.symm) | refine wpList_store_row rfl 27 _ _ rfl w.heap.size _ rfl rfl 27 _ M0.out sizePage rfl (by simp [Value.oneCell']) ?_)
  refine bodyPost_ret (v := .tuple #[.agg _, _, _]) (results_cell_two Tryz.results21 _ _ w.heap.size 27 _ (0, 0) _ rfl (setRow_heap _ _ _ _ _ _ M0.out) Tryz.underlying27 rfl sizePage) rfl ?_
  exact HD.out _ (below_setRow (al _ _) (Nat.le_refl _) _)
set_option maxRecDepth 8000 in
set_option maxHeartbeats 3200000 in
theorem Decode_sum (w : World) (no : Int) (a : Option Addr) (c : Nat) (b : List Nat) (hB : Bs w a b) (hi : isNum no = true) (hl : b.length = 512) (hc : 512 ≤ c) (hs : numV (b.drop 508) ≠ M.of (b.take 508)) :
    Calls Tryz.prog 21 #[.int .i64 no, .slice a 512 c] w (DecQ w no b) := by
  have h1 : decE no b = 6 := by unfold decE; rw [if_neg (by rw [hi]; simp), if_neg (by simpa using hl), if_pos hs]
  have HD := hide (fun w' hb => decQ_err (w := w) (w' := w') (no := no) (b := b) (by rw [h1]; decide) hb)
  rw [h1] at HD
  have IN := hide fun w1 => isNumber_any w1 no
  rw [hi] at IN
  have SU := hide fun (w1 : World) (hb : Below w.heap.size w w1) => Open_no w1 a c b (hB.keep hb) hl hc hs
  have M0 := hide (Bx.new w 27 Pv.zero.cs)
  clear h1 hi hl hB hs
  unfold Pv.zero Pv.cs at M0
  simp only [List.length_nil] at M0
  go_enter Tryz.func21, Tryz.ntmps21
  go_wp2_with (go_at_call 32; refine (IN.out _).mono ?_; rintro y w1 ⟨rfl, hww⟩; obtain rfl := hww.symm)
  refine (SU.out _ (al _ _)).mono ?_
  rintro y w1 ⟨rfl, hb1⟩
  have T1 := hide (bt (al w _) hb1)
  have M1 := hide (M0.out.keep hb1)
  clear hb1 M0
  go_wp2_with (refine wpList_store_row rfl 27 _ _ rfl w.heap.size _ rfl rfl 27 _ M1.out sizePage rfl (by simp [Value.oneCell']) ?_)
  refine bodyPost_ret (v := .tuple #[.agg _, _, _]) (results_cell_two Tryz.results21 _ _ w.heap.size 27 _ (0, 0) _ rfl (setRow_heap _ _ _ _ _ _ M1.out) Tryz.underlying27 rfl sizePage) rfl ?_
  exact HD.out _ (below_setRow T1.out (Nat.le_refl _) _)
end Go.Proofs.YtlneomgjjkfnoabGreat
