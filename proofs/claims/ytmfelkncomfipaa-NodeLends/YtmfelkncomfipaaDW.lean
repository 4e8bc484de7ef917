import Derived.Test.YtmfelkncomfipaaDV
namespace Go.Proofs.Ytmfelkncomfipaa
set_option linter.unusedVariables false
set_option linter.unusedSimpArgs false
open Go.RowKit
/-! ### the document's with -/
theorem Pn.ofCk {w W1 W2 : World} {a a4 : Option Addr} {c c4 : Nat} {M L : List Iv} {kind level next : Int} {data : List Nat} (h : Ck w W1 a c M L) (o : Own W1 W2 a4 c4 data) (h8 : B8 data) (hk : N64 kind ∧ N64 level ∧ N64 next) : Pn w W2 ⟨kind, level, a, c, M, a4, c4, data, next⟩ := by
  have f1 : Fam W1 W2 [(⟨a4, c4, data⟩ : Br)] := ⟨fun t ht => by rw [List.mem_singleton.1 ht]; exact ⟨o, h8⟩, List.pairwise_singleton _ _⟩
  have f2 := h.f.add f1 o.b h.j.b
  have f3 : Fam w W2 (rp ⟨kind, level, a, c, M, a4, c4, data, next⟩) := f2.perm (List.perm_append_singleton (⟨a4, c4, data⟩ : Br) (rowsOf M)).symm
  exact Pn.ofFam f3 (h.j.r.keep o.b) h.j.n h.n hk.1 hk.2.1 hk.2.2
set_option maxHeartbeats 8000000 in
set_option maxRecDepth 8000 in
theorem rwith_any (w : World) (p : Pv) (a : Option Addr) (n c : Nat) (L : List Iv) (hP : Pj w p) (hJ : Js w a L) (hn : n = L.length) (hs : Sml L) :
    Calls Try.prog 43 #[p.vl, .slice a n c] w fun e w' => ∃ q : Pv, e = .returned q.vl ∧ Pn w w' q ∧ q.pg = p.pg.wi (L.map Iv.it) ∧ Below w.heap.size w w' := by
  have CI := hide fun (W : World) (hb : Below w.heap.size w W) => CopyItems_any W a n c L (hJ.keep hb) hn hJ.2.1 hs
  have CB := hide fun (W : World) (hb : Below w.heap.size w W) => CopyBytes_at W p.aD p.data.length p.cD p.data (hP.i.bd.keep hb) rfl hP.d
  have D8 := hide hP.i.bd.1
  have NK := hide (And.intro hP.i.nk (And.intro hP.i.nl hP.i.nn))
  have HN := hide hn
  clear hP hJ hs hn
  obtain ⟨kind, level, aI, cI, L0, aD, cD, data, next⟩ := p
  unfold Pv.vl
  simp only [Pv.cs] at *
  generalize L0.length = n0 at *
  have U2 := hide (two_blocks w (.cells #[.int .i64 kind, .int .i64 level, .slice aI n0 cI, .slice aD data.length cD, .int .i64 next] 25) (.cells #[.int .i64 0, .int .i64 0, .slice none 0 0, .slice none 0 0, .int .i64 0] 25) (Below.refl _ _))
  go_enter Try.func43, Try.ntmps43
  go_wp2_with fail
  have BP := hide U2.out.1
  have BR := hide U2.out.2.1
  have B3 := hide U2.out.2.2.1
  clear U2
  generalize ((w.alloc (.cells #[.int .i64 kind, .int .i64 level, .slice aI n0 cI, .slice aD data.length cD, .int .i64 next] 25)).alloc (.cells #[.int .i64 0, .int .i64 0, .slice none 0 0, .slice none 0 0, .int .i64 0] 25)) = w3 at *
  have SS := hide fun (W : World) (hb : Below w3.heap.size w3 W) => cells5 (blk_keep BP.out hb)
  have D3 := hide (dr2 w3)
  refine wp_region_held_drew (S := fun W => W.cell? ⟨w.heap.size, 0, none⟩ = some (.int .i64 kind) ∧ W.cell? ⟨w.heap.size, 1, none⟩ = some (.int .i64 level) ∧ W.cell? ⟨w.heap.size, 2, none⟩ = some (.slice aI n0 cI) ∧ W.cell? ⟨w.heap.size, 3, none⟩ = some (.slice aD data.length cD) ∧ W.cell? ⟨w.heap.size, 4, none⟩ = some (.int .i64 next)) (by kernel_rfl) (SS.out _ D3.out) (fun hHeld => ?_)
  refine wpAnyH_take (i := 0) (v := ?vah0) rfl (by kernel_rfl) (by kernel_rfl) (by kernel_rfl) (fun _ _ _ h => h) (Or.inl ⟨by rfl, ?hyh0⟩) (by assumption) ?rah0
  case hyh0 => (intro wq hSw; (try dsimp only at hSw); obtain ⟨e0, e1, e2, e3, e4⟩ := hSw; go_simp <;> with_reducible rfl)
  try simp only [Act.put, List.getElem_toArray, List.getElem_cons_zero, List.setIfInBounds_toArray, List.set_cons_zero, List.set_cons_succ]
  refine wpAnyH_take (i := 1) (v := ?vah1) rfl (by kernel_rfl) (by kernel_rfl) (by kernel_rfl) (fun _ _ _ h => h) (Or.inl ⟨by rfl, ?hyh1⟩) (by assumption) ?rah1
  case hyh1 => (intro wq hSw; (try dsimp only at hSw); obtain ⟨e0, e1, e2, e3, e4⟩ := hSw; go_simp <;> with_reducible rfl)
  try simp only [Act.put, List.getElem_toArray, List.getElem_cons_zero, List.getElem_cons_succ, List.setIfInBounds_toArray, List.set_cons_zero, List.set_cons_succ]
  refine wpAnyH_take (i := 2) (v := ?vah2) rfl (by kernel_rfl) (by kernel_rfl) (by kernel_rfl) (fun _ _ _ h => h) (Or.inl ⟨by rfl, ?hyh2⟩) (by assumption) ?rah2
  case hyh2 => (intro wq hSw; (try dsimp only at hSw); obtain ⟨e0, e1, e2, e3, e4⟩ := hSw; go_simp <;> with_reducible rfl)
  try simp only [Act.put, List.getElem_toArray, List.getElem_cons_zero, List.getElem_cons_succ, List.setIfInBounds_toArray, List.set_cons_zero, List.set_cons_succ]
  refine wpAnyH_take (i := 3) (v := ?vah3) rfl (by kernel_rfl) (by kernel_rfl) (by kernel_rfl) (fun _ _ _ h => h) (Or.inl ⟨by rfl, ?hyh3⟩) (by assumption) ?rah3
  case hyh3 => (intro wq hSw; (try dsimp only at hSw); obtain ⟨e0, e1, e2, e3, e4⟩ := hSw; go_simp <;> with_reducible rfl)
  try simp only [Act.put, List.getElem_toArray, List.getElem_cons_zero, List.getElem_cons_succ, List.setIfInBounds_toArray, List.set_cons_zero, List.set_cons_succ]
  refine wpAnyH_take (i := 4) (v := ?vah4) rfl (by kernel_rfl) (by kernel_rfl) (by kernel_rfl) (fun _ _ _ h => h) (Or.inl ⟨by rfl, ?hyh4⟩) (by assumption) ?rah4
  case hyh4 => (intro wq hSw; (try dsimp only at hSw); obtain ⟨e0, e1, e2, e3, e4⟩ := hSw; go_simp <;> with_reducible rfl)
  try simp only [Act.put, List.getElem_toArray, List.getElem_cons_zero, List.getElem_cons_succ, List.setIfInBounds_toArray, List.set_cons_zero, List.set_cons_succ]
  refine wpAnyH_take (i := 6) (v := ?vah6) rfl (by kernel_rfl) (by kernel_rfl) (by kernel_rfl) (fun _ _ _ h => h) (Or.inl ⟨by rfl, ?hyh6⟩) (by assumption) ?rah6
  case hyh6 => (intro wq hSw; (try dsimp only at hSw); obtain ⟨e0, e1, e2, e3, e4⟩ := hSw; go_simp <;> with_reducible rfl)
  try simp only [Act.put, List.getElem_toArray, List.getElem_cons_zero, List.getElem_cons_succ, List.setIfInBounds_toArray, List.set_cons_zero, List.set_cons_succ]
  refine wpAnyH_take (i := 7) (v := ?vah7) rfl (by kernel_rfl) (by kernel_rfl) (by kernel_rfl) (fun _ _ _ h => h) (Or.inl ⟨by rfl, ?hyh7⟩) (by assumption) ?rah7
  case hyh7 => (intro wq hSw; (try dsimp only at hSw); obtain ⟨e0, e1, e2, e3, e4⟩ := hSw; go_simp <;> with_reducible rfl)
  try simp only [Act.put, List.getElem_toArray, List.getElem_cons_zero, List.getElem_cons_succ, List.setIfInBounds_toArray, List.set_cons_zero, List.set_cons_succ]
  refine wpAnyH_take (i := 9) (v := ?vah9) rfl (by kernel_rfl) (by kernel_rfl) (by kernel_rfl) (fun _ _ _ h => h) (Or.inl ⟨by rfl, ?hyh9⟩) (by assumption) ?rah9
  case hyh9 => (intro wq hSw; (try dsimp only at hSw); obtain ⟨e0, e1, e2, e3, e4⟩ := hSw; go_simp <;> with_reducible rfl)
  try simp only [Act.put, List.getElem_toArray, List.getElem_cons_zero, List.getElem_cons_succ, List.setIfInBounds_toArray, List.set_cons_zero, List.set_cons_succ]
  refine wpAnyH_take (i := 10) (v := ?vah10) rfl (by kernel_rfl) (by kernel_rfl) (by kernel_rfl) (fun _ _ _ h => h) (Or.inl ⟨by rfl, ?hyh10⟩) (by assumption) ?rah10
  case hyh10 => (intro wq hSw; (try dsimp only at hSw); obtain ⟨e0, e1, e2, e3, e4⟩ := hSw; go_simp <;> with_reducible rfl)
  try simp only [Act.put, List.getElem_toArray, List.getElem_cons_zero, List.getElem_cons_succ, List.setIfInBounds_toArray, List.set_cons_zero, List.set_cons_succ]
  refine wpAnyH_ready (rs := [5]) (by kernel_rfl) (by simp) ?_
  refine AllReadyH.cons rfl (fun K hK => ?_) AllReadyH.nil
  go_simp
  refine (CI.out _ (bt B3.out D3.out)).mono ?_
  rintro _ w5 ⟨a1, c1, M, rfl, hC⟩
  have CK := hide hC
  have ME := hide hC.e
  have ML := hide hC.len
  have B5 := hide (bt D3.out hC.j.b)
  clear hC
  go_wp2_with fail
  refine hK.out _ _ (SS.out _ B5.out) (fun hHeld => ?_)
  clear hK K
  try simp only [Act.put, List.getElem_toArray, List.getElem_cons_zero, List.getElem_cons_succ, List.setIfInBounds_toArray, List.set_cons_zero, List.set_cons_succ]
  refine wpAnyH_ready (rs := [8]) (by kernel_rfl) (by simp) ?_
  refine AllReadyH.cons rfl (fun K hK => ?_) AllReadyH.nil
  go_simp
  refine (CB.out _ (bt B3.out B5.out)).mono ?_
  rintro _ w6 ⟨a2, c2, rfl, hO⟩
  have Q6 := hide ((Pn.ofCk (next := next) (kind := kind) (level := level) CK.out hO D8.out NK.out).pre (bt B3.out D3.out).size)
  have B6 := hide (bt B5.out hO.b)
  have BR6 := hide (blk_keep BR.out B6.out)
  clear hO
  go_wp2_with fail
  refine hK.out _ _ (SS.out _ B6.out) (fun hHeld => ?_)
  clear hK K
  try simp only [Act.put, List.getElem_toArray, List.getElem_cons_zero, List.getElem_cons_succ, List.setIfInBounds_toArray, List.set_cons_zero, List.set_cons_succ]
  refine wpAnyH_take (i := 11) (v := ?vah11) rfl (by kernel_rfl) (by kernel_rfl) (by kernel_rfl) (fun _ _ _ h => h) (Or.inl ⟨by rfl, ?hyh11⟩) (by assumption) ?rah11
  case hyh11 => (intro wq hSw; (try dsimp only at hSw); obtain ⟨e0, e1, e2, e3, e4⟩ := hSw; go_simp <;> with_reducible rfl)
  try simp only [Act.put, List.getElem_toArray, List.getElem_cons_zero, List.getElem_cons_succ, List.setIfInBounds_toArray, List.set_cons_zero, List.set_cons_succ]
  refine wpAnyH_ready (rs := [12]) (by kernel_rfl) (by simp) ?_
  refine AllReadyH.cons rfl (fun K hK => ?_) AllReadyH.nil
  rw [if_pos (by rfl)]
  refine wp_store_row 25 _ _ rfl (w.heap.size + 1) _ rfl rfl 25 _ BR6.out sizePage rfl (by simp [Value.oneCell']) ?_
  refine hK.out _ _ (cells5 (row_far _ (blk_keep BP.out B6.out) (by omega))) (fun hHeld => ?_)
  clear hK K
  try simp only [Act.put, List.getElem_toArray, List.getElem_cons_zero, List.getElem_cons_succ, List.setIfInBounds_toArray, List.set_cons_zero, List.set_cons_succ]
  refine wpAnyH_done (by kernel_rfl) ?_ _
  clear hHeld
  go_wp2_with fail
  refine bodyPost_ret (v := .agg _) (results_cell_row Try.results43 _ _ (w.heap.size + 1) 25 _ (0, 0) _ rfl (setRow_heap _ _ _ _ _ _ BR6.out) Try.underlying25 rfl sizePage) rfl ?_
  refine ⟨⟨kind, level, a1, c1, M, a2, c2, data, next⟩, by simp only [ML.out, HN.out], Q6.out.row BR6.out (by decide) (by decide) _, ?_, below_row _ (bt B3.out B6.out) (by omega)⟩
  unfold Pv.pg Pg.wi
  simp only [ME.out]
theorem JOwn.qs {w W : World} {a : Option Addr} {c : Nat} {M : List Iv} (h : JOwn w W a c M) (hk : ∀ r ∈ M, Ii w r) (hl : M.length ≤ 2199023255520) : Js W a M := h.r.qs (fun r hr => (hk r hr).keep h.b) hl
theorem range4c {w : World} {b o : Nat} {r : Iv} (h : w.rangeAt b o r.cs.toList) : ∀ j u, r.cs.toList[j]? = some u → w.cell? ((⟨b, o, none⟩ : Addr).add j) = some u := fun j u hj => by rw [Addr.add_mid]; exact h j u hj
def remT (L : List Iv) (n k : Nat) : List Iv := if k ≤ n then L.take k else L.take n ++ (L.take k).drop (n + 1)
theorem remT_at {L : List Iv} {n k : Nat} (hn : n < L.length) (hk : k < L.length) : remT L n (k + 1) = if k = n then remT L n k else remT L n k ++ [L.getD k Iv.zero] := by
  have hg : L.getD k Iv.zero = L[k] := by simp [hk]
  unfold remT
  by_cases h1 : k < n
  · rw [if_pos (by omega), if_neg (by omega), if_pos (by omega), hg, List.take_succ_eq_append_getElem hk]
  · by_cases h2 : k = n
    · subst h2
      rw [if_neg (by omega), if_pos rfl, if_pos (Nat.le_refl _), List.drop_eq_nil_of_le (by rw [List.length_take]; omega), List.append_nil]
    · rw [if_neg (by omega), if_neg h2, if_neg (by omega), hg, List.take_succ_eq_append_getElem hk, List.drop_append_of_le_length (by rw [List.length_take]; omega), List.append_assoc]
theorem remT_end {L : List Iv} {n : Nat} (hn : n < L.length) : remT L n L.length = L.take n ++ L.drop (n + 1) := by
  unfold remT
  rw [if_neg (by omega), List.take_length]
theorem remT_mem {L : List Iv} {n k : Nat} {r : Iv} (h : r ∈ remT L n k) : r ∈ L := by
  unfold remT at h
  split at h
  · exact List.mem_of_mem_take h
  · rcases List.mem_append.1 h with h | h
    · exact List.mem_of_mem_take h
    · exact List.mem_of_mem_take (List.mem_of_mem_drop h)
theorem remT_len (L : List Iv) (n k : Nat) : (remT L n k).length ≤ L.length := by
  unfold remT
  split
  · rw [List.length_take]; omega
  · rw [List.length_append, List.length_drop, List.length_take, List.length_take]; omega
end Go.Proofs.Ytmfelkncomfipaa
