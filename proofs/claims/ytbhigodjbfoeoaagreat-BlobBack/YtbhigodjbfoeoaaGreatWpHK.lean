import Derived.Test.YtbhigodjbfoeoaaGreatWpHJ
namespace Go.Proofs.YtbhigodjbfoeoaaGreat
set_option linter.unusedVariables false
set_option linter.unusedSimpArgs false
open Go.RowKit
theorem below_row {w W : World} {g : Nat} (cs : Array Value) (hb : Below w.heap.size w W) (hg : w.heap.size ≤ g) : Below w.heap.size w (W.setRow g cs) := ((But.ofBelow (S := fun k => k = g) hb).trans (setRow_butv W g cs) (fun _ _ e => e)).below (fun k hk e => by omega)
set_option maxHeartbeats 8000000 in
set_option maxRecDepth 8000 in
theorem Store_key (w : World) (v : Value) (ak av : Option Addr) (n ck s cv : Nat) (hk : n = 0 ∨ 24 < n) :
    Calls Tryz.prog 22 #[v, .slice ak n ck, .slice av s cv] w fun e w' => e = .returned (.tuple #[Iv.zero.vl, .int .i64 7]) ∧ Below w.heap.size w w' := by
  have A0 := hide (al w (.cells #[.slice none 0 0, .slice none 0 0, .int .i64 0, .int .i64 0] 34))
  have X0 := hide (heap_alloc_new w (.cells #[.slice none 0 0, .slice none 0 0, .int .i64 0, .int .i64 0] 34))
  rcases hk with rfl | hk
  · go_enter Tryz.func22, Tryz.ntmps22
    go_wp2_with (first | (refine wpList_store_row rfl 34 _ _ rfl w.heap.size _ rfl rfl 34 _ X0.out sizeItem rfl (by simp [Value.oneCell']) ?_) | fail)
    refine bodyPost_ret (v := .tuple #[.agg _, _]) (results_cell_one Tryz.results22 _ _ w.heap.size 34 _ (0, 0) _ rfl (setRow_heap _ _ _ _ _ _ X0.out) Tryz.underlying34 rfl sizeItem) rfl ?_
    exact ⟨rfl, below_row _ A0.out (Nat.le_refl _)⟩
  · have d1 : ((n : Int) == 0) = false := by simp; omega
    have d2 : decide ((24 : Int) < (n : Int)) = true := decide_eq_true (by omega)
    go_enter Tryz.func22, Tryz.ntmps22
    go_wp2_with (first | (refine wpList_store_row rfl 34 _ _ rfl w.heap.size _ rfl rfl 34 _ X0.out sizeItem rfl (by simp [Value.oneCell']) ?_) | fail)
    refine bodyPost_ret (v := .tuple #[.agg _, _]) (results_cell_one Tryz.results22 _ _ w.heap.size 34 _ (0, 0) _ rfl (setRow_heap _ _ _ _ _ _ X0.out) Tryz.underlying34 rfl sizeItem) rfl ?_
    exact ⟨rfl, below_row _ A0.out (Nat.le_refl _)⟩
set_option maxHeartbeats 8000000 in
set_option maxRecDepth 8000 in
theorem Store_val (w : World) (v : Value) (ak av : Option Addr) (n ck s cv : Nat) (h1 : 1 ≤ n) (h2 : n ≤ 24) (hs : 3840 < s) :
    Calls Tryz.prog 22 #[v, .slice ak n ck, .slice av s cv] w fun e w' => e = .returned (.tuple #[Iv.zero.vl, .int .i64 8]) ∧ Below w.heap.size w w' := by
  have A0 := hide (al w (.cells #[.slice none 0 0, .slice none 0 0, .int .i64 0, .int .i64 0] 34))
  have X0 := hide (heap_alloc_new w (.cells #[.slice none 0 0, .slice none 0 0, .int .i64 0, .int .i64 0] 34))
  have d1 : ((n : Int) == 0) = false := by simp; omega
  have d2 : decide ((24 : Int) < (n : Int)) = false := decide_eq_false (by omega)
  have d3 : decide ((3840 : Int) < (s : Int)) = true := decide_eq_true (by omega)
  go_enter Tryz.func22, Tryz.ntmps22
  go_wp2_with (first | (refine wpList_store_row rfl 34 _ _ rfl w.heap.size _ rfl rfl 34 _ X0.out sizeItem rfl (by simp [Value.oneCell']) ?_) | fail)
  refine bodyPost_ret (v := .tuple #[.agg _, _]) (results_cell_one Tryz.results22 _ _ w.heap.size 34 _ (0, 0) _ rfl (setRow_heap _ _ _ _ _ _ X0.out) Tryz.underlying34 rfl sizeItem) rfl ?_
  exact ⟨rfl, below_row _ A0.out (Nat.le_refl _)⟩
set_option maxHeartbeats 8000000 in
set_option maxRecDepth 8000 in
theorem Store_short (w : World) (v : Value) (ak av : Option Addr) (ck cv : Nat) (key val : List Nat) (hK : Bs w ak key) (hV : Bs w av val) (h1 : 1 ≤ key.length) (h2 : key.length ≤ 24) (h3 : val.length ≤ 32) :
    Calls Tryz.prog 22 #[v, .slice ak key.length ck, .slice av val.length cv] w fun e w' => ∃ x : Iv, e = .returned (.tuple #[x.vl, .int .i64 0]) ∧ x.it = ⟨key, val, 0, (val.length : Int)⟩ ∧ Own w w' x.aK x.cK key ∧ Own w w' x.aV x.cV val ∧ Below w.heap.size w w' := by
  have A0 := hide (al w (.cells #[.slice none 0 0, .slice none 0 0, .int .i64 0, .int .i64 0] 34))
  have X0 := hide (heap_alloc_new w (.cells #[.slice none 0 0, .slice none 0 0, .int .i64 0, .int .i64 0] 34))
  have CK := hide (Clone_own (w.alloc (.cells #[.slice none 0 0, .slice none 0 0, .int .i64 0, .int .i64 0] 34)) ak ck key (hK.keep A0.out) (by omega))
  have CV := hide fun (W : World) (hb : Below w.heap.size w W) => Clone_own W av cv val (hV.keep hb) (by omega)
  clear hK hV
  obtain ⟨n, hn⟩ : ∃ n, key.length = n := ⟨_, rfl⟩
  obtain ⟨s, hs⟩ : ∃ s, val.length = s := ⟨_, rfl⟩
  have HN := hide hn
  have HS := hide hs
  rw [hn] at h1 h2 CK ⊢
  rw [hs] at h3 ⊢
  simp only [hs] at CV
  clear hn hs
  have d1 : ((n : Int) == 0) = false := by simp; omega
  have d2 : decide ((24 : Int) < (n : Int)) = false := decide_eq_false (by omega)
  have d3 : decide ((3840 : Int) < (s : Int)) = false := decide_eq_false (by omega)
  have d4 : decide ((s : Int) ≤ 32) = true := decide_eq_true (by omega)
  go_enter Tryz.func22, Tryz.ntmps22
  go_wp2_with fail
  refine CK.out.mono ?_
  rintro _ w3 ⟨a3, c3, rfl, hO⟩
  have O3 := hide hO
  have X3 := hide (blk13 X0.out hO.b)
  have B3 := hide (bt A0.out hO.b)
  clear hO CK X0
  go_wp2_with fail
  refine (CV.out _ B3.out).mono ?_
  rintro _ w4 ⟨a4, c4, rfl, hO⟩
  have O4 := hide hO
  have X4 := hide (blk13 X3.out hO.b)
  have B4 := hide (bt B3.out hO.b)
  clear hO CV X3
  go_wp2_with (first | (refine wpList_store_row rfl 34 _ _ rfl w.heap.size _ rfl rfl 34 _ X4.out sizeItem rfl (by simp [Value.oneCell']) ?_) | fail)
  refine bodyPost_ret (v := .tuple #[.agg _, _]) (results_cell_one Tryz.results22 _ _ w.heap.size 34 _ (0, 0) _ rfl (setRow_heap _ _ _ _ _ _ X4.out) Tryz.underlying34 rfl sizeItem) rfl ?_
  have nb := setRow_butv w4 w.heap.size #[.slice a3 n c3, .slice a4 s c4, .int .i64 0, .int .i64 (s : Int)]
  have bw := below_row #[.slice a3 n c3, .slice a4 s c4, .int .i64 0, .int .i64 (s : Int)] B4.out (Nat.le_refl _)
  have r3 := (O3.out.r.keep O4.out.b).but nb (fun x hx e => (O3.out.r.keep O4.out.b).nty13 (t := 34) X4.out (by decide) hx e)
  have r4 := O4.out.r.but nb (fun x hx e => O4.out.r.nty13 (t := 34) X4.out (by decide) hx e)
  exact ⟨⟨a3, c3, key, a4, c4, val, 0, (s : Int)⟩, by unfold Iv.vl; simp only [Iv.cs, HN.out, HS.out]; rfl, rfl, ⟨r3, O3.out.n.mono A0.out.size, bw⟩, ⟨r4, O4.out.n.mono B3.out.size, bw⟩, bw⟩
set_option maxHeartbeats 8000000 in
set_option maxRecDepth 8000 in
theorem Store_long (w : World) (b : Nat) (S : Vs) (pb mb : Nat) (pc col : Nat → Nat) (h : Vw w b S pb mb pc col) (ak : Option Addr) (ck : Nat) (key : List Nat) (hK : Bs w ak key) (hkc : ∀ x, ak = some x → col x.block = 0) (k1 : 1 ≤ key.length) (k2 : key.length ≤ 24) (g off c : Nat) (l : List Nat) (hB : Bs w (some ⟨g, off, none⟩) l) (hg : col g = 0) (hgl : g < w.heap.size) (hc : l.length ≤ c) (h1 : 32 < l.length) (h2 : l.length ≤ 3840) (k : Nat) (hk : k = (l.length - 1) / 480 + 1) (hfn : Fine S.X.f) (hm1 : S.fl + S.al.length + 9 ≤ 9223372036854775807) (hm2 : S.al.length + 9 ≤ 8796093022208) (hm3 : S.X.P.mark + 9 ≤ 17592186044416) (hm4 : S.X.ch.length + 9 ≤ 1759218604441) :
    Calls Tryz.prog 22 #[.pointer (some ⟨b, 0, none⟩), .slice ak key.length ck, .slice (some ⟨g, off, none⟩) l.length c] w fun e w' =>
      (∃ (S' : Vs) (x : Iv), e = .returned (.tuple #[x.vl, .int .i64 0]) ∧ x.key = key ∧ x.val = [] ∧ x.size = (l.length : Int) ∧ Spo l k S k S' x.child ∧ ∃ pc' col', Vw w' b S' pb mb pc' col' ∧ Vf w col w' col' ∧ Rw w' x.aK x.cK key ∧ (∀ y, x.aK = some y → col' y.block = 0 ∧ w.heap.size ≤ y.block)) ∨
      (∃ (m : Nat) (S1 : Vs) (n1 er : Int), e = .returned (.tuple #[Iv.zero.vl, .int .i64 er]) ∧ er ≠ 0 ∧ m < k ∧ Spo l k S m S1 n1 ∧ (S1.makeR (mkp l (k - 1 - m) n1)).2 = er ∧ ∃ pc' col', Vw w' b S pb mb pc' col' ∧ Vf w col w' col') := by
  have A0 := hide (al w (.cells #[.slice none 0 0, .slice none 0 0, .int .i64 0, .int .i64 0] 34))
  have X0 := hide (heap_alloc_new w (.cells #[.slice none 0 0, .slice none 0 0, .int .i64 0, .int .i64 0] 34))
  have hgl1 : g < (w.alloc (.cells #[.slice none 0 0, .slice none 0 0, .int .i64 0, .int .i64 0] 34)).heap.size := Nat.lt_of_lt_of_le hgl A0.out.size
  have SP := hide (spread_any (w.alloc (.cells #[.slice none 0 0, .slice none 0 0, .int .i64 0, .int .i64 0] 34)) b S pb mb pc col (h.keep A0.out) g off c l (hB.keep A0.out) hg hgl1 hc h1 h2 k hk hfn hm1 hm2 hm3 hm4)
  have Z0 : Hid (col w.heap.size = 0) := h.z (Nat.le_refl _)
  have CL := hide fun (W : World) (col' : Nat → Nat) (hf : Vf (w.alloc (.cells #[.slice none 0 0, .slice none 0 0, .int .i64 0, .int .i64 0] 34)) col W col') => Clone_own W ak ck key (bs_vf (hK.keep A0.out) hf hkc) (by omega)
  clear h hK hkc hB hg hgl hc hk hgl1 hfn hm1 hm2 hm3 hm4
  generalize hn : key.length = n at *
  have HN := hide hn
  obtain ⟨s, hs⟩ : ∃ s, l.length = s := ⟨_, rfl⟩
  rw [hs] at h1 h2 SP ⊢
  clear hn hs
  have d1 : ((n : Int) == 0) = false := by simp; omega
  have d2 : decide ((24 : Int) < (n : Int)) = false := decide_eq_false (by omega)
  have d3 : decide ((3840 : Int) < (s : Int)) = false := decide_eq_false (by omega)
  have d4 : decide ((s : Int) ≤ 32) = false := decide_eq_false (by omega)
  go_enter Tryz.func22, Tryz.ntmps22
  go_wp2_with fail
  refine SP.out.mono ?_
  rintro _ w3 (⟨S', nx, rfl, hS, pc', col', hV, hF⟩ | ⟨m, S1, n1, er, rfl, hne, hmk, hS, hr, pc', col', hV, hF⟩)
  · have SS := hide hS
    have VV := hide hV
    have FF := hide hF
    have X3 := hide (hF.b.same X0.out (fun e => by rw [Z0.out] at e; omega))
    have Z3 : Hid (col' w.heap.size = 0) := (hF.c _ (Array.getElem?_eq_some_iff.1 X0.out).1).trans Z0.out
    have CC := hide (CL.out _ _ hF)
    have ZZ := hide fun (k : Nat) (hk : w3.heap.size ≤ k) => hV.z hk
    have L3 : Hid (w.heap.size ≤ w3.heap.size) := Nat.le_trans A0.out.size hF.b.size
    clear hS hV hF SP CL X0
    go_wp2_with fail
    refine CC.out.mono ?_
    rintro _ w4 ⟨a4, c4, rfl, hO⟩
    have O4 := hide hO
    have V4 := hide (VV.out.keep hO.b)
    have F4 := hide ((Vf.keep A0.out).trans (FF.out.trans (Vf.keep hO.b)))
    have X4 := hide (blk13 X3.out hO.b)
    clear hO CC VV FF X3
    go_wp2_with (first | (refine wpList_store_row rfl 34 _ _ rfl w.heap.size _ rfl rfl 34 _ X4.out sizeItem rfl (by simp [Value.oneCell']) ?_) | fail)
    refine bodyPost_ret (v := .tuple #[.agg _, _]) (results_cell_one Tryz.results22 _ _ w.heap.size 34 _ (0, 0) _ rfl (setRow_heap _ _ _ _ _ _ X4.out) Tryz.underlying34 rfl sizeItem) rfl ?_
    have nb := setRow_butv w4 w.heap.size #[.slice a4 n c4, .slice none 0 0, .int .i64 nx, .int .i64 (s : Int)]
    exact .inl ⟨S', ⟨a4, c4, key, none, 0, [], nx, (s : Int)⟩, by unfold Iv.vl; simp only [Iv.cs, HN.out]; rfl, rfl, rfl, rfl, SS.out, pc', col', V4.out.but13 nb (fun k hk e => hk (by rw [e]; exact Z3.out)), ⟨F4.out.b.trans nb (fun x hx e => by omega), F4.out.c⟩, O4.out.r.but nb (fun x hx e => O4.out.r.nty13 (t := 34) X4.out (by decide) hx e), fun y hy => by
      rcases O4.out.n y hy with ⟨_, h0, _⟩ | h1
      · cases h0
      · exact ⟨ZZ.out _ h1, Nat.le_trans L3.out h1⟩⟩
  · have SS := hide hS
    have VV := hide hV
    have FF := hide hF
    have HR := hide hr
    have HNE := hide hne
    have X3 := hide (hF.b.same X0.out (fun e => by rw [Z0.out] at e; omega))
    have Z3 : Hid (col' w.heap.size = 0) := (hF.c _ (Array.getElem?_eq_some_iff.1 X0.out).1).trans Z0.out
    have hnb : (er != 0) = true := by simpa using hne
    clear hS hV hF SP CL X0 hr hne
    go_wp2_with (first | (refine wpList_store_row rfl 34 _ _ rfl w.heap.size _ rfl rfl 34 _ X3.out sizeItem rfl (by simp [Value.oneCell']) ?_) | fail)
    refine bodyPost_ret (v := .tuple #[.agg _, _]) (results_cell_one Tryz.results22 _ _ w.heap.size 34 _ (0, 0) _ rfl (setRow_heap _ _ _ _ _ _ X3.out) Tryz.underlying34 rfl sizeItem) rfl ?_
    have nb := setRow_butv w3 w.heap.size #[.slice none 0 0, .slice none 0 0, .int .i64 0, .int .i64 0]
    have F4 := (Vf.keep (c := col) A0.out).trans FF.out
    exact .inr ⟨m, S1, n1, er, rfl, HNE.out, hmk, SS.out, HR.out, pc', col', VV.out.but13 nb (fun k hk e => hk (by rw [e]; exact Z3.out)), ⟨F4.b.trans nb (fun x hx e => by omega), F4.c⟩⟩
end Go.Proofs.YtbhigodjbfoeoaaGreat
