import Derived.Test.YtifhkfghjifecaaIL
namespace Go.Proofs.Ytifhkfghjifecaa
open Go.RowKit

/-! ### the superblock that is said -/
def roOf (r : Pr) : Ro := ⟨r.id, r.r, r.h, r.n⟩
def suOf (p : Pt) : Su := ⟨i64w p.gn, p.bl, p.cl, p.rf, p.nx, p.rw.map roOf⟩
theorem Bx.ne {w : World} {t u : TypeId} {g h : Nat} {cs ds : Array Value} (a : Bx w t g cs) (b : w.heap[h]? = some (.cells ds u (0, 0))) (hn : t ≠ u) : g ≠ h := by
  rintro rfl
  unfold Bx at a
  rw [a] at b
  simp only [Option.some.injEq, Obj.cells.injEq] at b
  exact hn b.2.1
theorem Jw.off {w : World} {a : Option Addr} {cap : Nat} {L : List Ro} (h : Jw w a cap L) {t : TypeId} {g : Nat} {cs : Array Value} (hb : Bx w t g cs) (hn : t ≠ 59) : ∀ k, a.map Addr.block = some k → k ≠ g := by
  intro k hk
  obtain ⟨x, hx, rfl⟩ := map_some hk
  rcases h.cases with ⟨rfl, _⟩ | ⟨g', cur, rfl, hg, _⟩
  · cases hx
  · cases hx
    exact (hb.ne hg hn).symm
def z6 : Array Value := #[.int .i64 0, .int .i64 0, .int .i64 0, .int .i64 0, .int .i64 0, .slice none 0 0]
def suH (s : Su) (v : Value) : Array Value := #[.int .i64 s.gen, .int .i64 s.bl, .int .i64 s.cl, .int .i64 s.rf, .int .i64 s.nx, v]
/-- the boxes of super -/
structure S4 (w : World) (C : Array Value) (s : Su) (W : World) (a : Option Addr) (c : Nat) (L : List Ro) : Prop where
  p : Bx W 48 w.heap.size C
  o : Bx W 28 (w.heap.size + 1) z6
  i : Bx W 28 (w.heap.size + 1 + 1) (suH s (.slice a L.length c))
  r : JOwn w W a c L
theorem S4.keep {w : World} {C : Array Value} {s : Su} {W W' : World} {a : Option Addr} {c : Nat} {L : List Ro} (h : S4 w C s W a c L) (hb : Below W.heap.size W W') : S4 w C s W' a c L := ⟨h.p.keep hb, h.o.keep hb, h.i.keep hb, h.r.keep hb⟩
theorem S4.step {w : World} {C : Array Value} {s : Su} {W W1 W2 : World} {a : Option Addr} {c g c' : Nat} {L : List Ro} {t : Ro} (h : S4 w C s W a c L) (hb : Below W.heap.size W W1) (hR : Jw W2 (some ⟨g, 0, none⟩) c' (L ++ [t])) (hN : New W1 a (some ⟨g, 0, none⟩)) (hg : W1.grownBy W2 (a.map Addr.block)) :
    S4 w C s (W2.setCell ⟨w.heap.size + 1 + 1, 5, none⟩ (.slice (some ⟨g, 0, none⟩) (L.length + 1) c')) (some ⟨g, 0, none⟩) c' (L ++ [t]) := by
  have h1 := h.keep hb
  have hB : But (fun k => a.map Addr.block = some k) W1 W2 := (But.refl _ W1).grown hg fun k hk _ => hk
  have p2 := h1.p.but hB fun e => h1.r.r.off h1.p (by decide) _ e rfl
  have o2 := h1.o.but hB fun e => h1.r.r.off h1.o (by decide) _ e rfl
  have i2 := h1.i.but hB fun e => h1.r.r.off h1.i (by decide) _ e rfl
  have r2 := h.r.step hb hR hN hg
  have hne := hR.off i2 (by decide) g rfl
  have hS : But (fun k => k = w.heap.size + 1 + 1) W2 (W2.setCell ⟨w.heap.size + 1 + 1, 5, none⟩ (.slice (some ⟨g, 0, none⟩) (L.length + 1) c')) := (But.refl (fun k => k = w.heap.size + 1 + 1) W2).setCell (p := ⟨w.heap.size + 1 + 1, 5, none⟩) (fun _ => rfl) _
  refine ⟨p2.but hS (by omega), o2.but hS (by omega), ?_, ⟨hR.but hS (fun x hx => by cases hx; exact hne), r2.n, ((But.ofBelow (S := fun _ => False) r2.b).trans hS fun x hx e => by omega).below fun _ _ h => h⟩⟩
  have := i2.setc 5 (.slice (some ⟨g, 0, none⟩) (L.length + 1) c')
  rw [List.length_append]
  exact this
theorem S4.start (w : World) (C : Array Value) (s : Su) : S4 w C s (((w.alloc (.cells C 48)).alloc (.cells z6 28)).alloc (.cells (suH s (.slice none 0 0)) 28)) none 0 [] := by
  refine ⟨((Bx.new w 48 C).keep (al _ _)).keep (al _ _), ?_, ?_, JOwn.nil w (bt (bt (al w _) (al _ _)) (al _ _))⟩
  · have := (Bx.new (w.alloc (.cells C 48)) 28 z6).keep (al _ (.cells (suH s (.slice none 0 0)) 28))
    rwa [size_alloc] at this
  · have := Bx.new ((w.alloc (.cells C 48)).alloc (.cells z6 28)) 28 (suH s (.slice none 0 0))
    rwa [size_alloc, size_alloc] at this
def roT (R : List Pr) (k : Nat) : List Ro := (R.take k).map roOf
theorem roT_succ (R : List Pr) {k : Nat} (h : k < R.length) : roT R (k + 1) = roT R k ++ [roOf (R.getD k pr0)] := by
  unfold roT
  rw [List.take_succ_eq_append_getElem h, List.map_append]; simp [h]
theorem roT_zero (R : List Pr) : roT R 0 = [] := rfl
theorem roT_all (R : List Pr) : roT R R.length = R.map roOf := by unfold roT; rw [List.take_length]
theorem roT_length (R : List Pr) {k : Nat} (h : k ≤ R.length) : (roT R k).length = k := by unfold roT; rw [List.length_map, List.length_take]; omega
theorem fresh4 (w : World) (v : Ro) : ∀ j u, v.cs.toList[j]? = some u → (w.alloc (.cells v.cs 59)).cell? ((⟨w.heap.size, 0, none⟩ : Addr).add j) = some u := by
  intro j u hu
  rw [Addr.add_mid, Nat.zero_add, cell_of_row _ _ _ _ _ _ (Ro.box w v)]
  simpa using hu
theorem i64w_wrap {x : Nat} (h : x < 18446744073709551616) : IntKind.i64.wrap (x : Int) = i64w x := by
  unfold i64w
  rw [IntKind.wrap_i64]
  split <;> omega
theorem S4.two {w : World} {C : Array Value} {s : Su} {W : World} {a : Option Addr} {c : Nat} {L : List Ro} (h : S4 w C s W a c L) (r : Pr) (x y z : Int) :
    S4 w C s ((W.alloc (.cells r.c.toArray 45)).alloc (.cells #[.int .i64 x, .int .i64 y, .int .i64 z] 57)) a c L ∧
    ((W.alloc (.cells r.c.toArray 45)).alloc (.cells #[.int .i64 x, .int .i64 y, .int .i64 z] 57)).cell? ⟨w.heap.size + 1 + 1, 5, none⟩ = some (.slice a L.length c) ∧
    ((W.alloc (.cells r.c.toArray 45)).alloc (.cells #[.int .i64 x, .int .i64 y, .int .i64 z] 57)).cell? ⟨W.heap.size, 0, none⟩ = some (.int .u32 (r.id : Int)) ∧
    ((W.alloc (.cells r.c.toArray 45)).alloc (.cells #[.int .i64 x, .int .i64 y, .int .i64 z] 57)).cell? ⟨W.heap.size + 1, 0, none⟩ = some (.int .i64 x) ∧
    ((W.alloc (.cells r.c.toArray 45)).alloc (.cells #[.int .i64 x, .int .i64 y, .int .i64 z] 57)).cell? ⟨W.heap.size + 1, 1, none⟩ = some (.int .i64 y) ∧
    ((W.alloc (.cells r.c.toArray 45)).alloc (.cells #[.int .i64 x, .int .i64 y, .int .i64 z] 57)).cell? ⟨W.heap.size + 1, 2, none⟩ = some (.int .i64 z) := by
  have h2 := h.keep (bt (al W (.cells r.c.toArray 45)) (al _ (.cells #[.int .i64 x, .int .i64 y, .int .i64 z] 57)))
  have b1 := (Prow.box W r).keep (al _ (.cells #[.int .i64 x, .int .i64 y, .int .i64 z] 57))
  have b2 := Bx.new (W.alloc (.cells r.c.toArray 45)) 57 #[.int .i64 x, .int .i64 y, .int .i64 z]
  rw [size_alloc] at b2
  exact ⟨h2, h2.i.cell 5 rfl, b1.cell 0 rfl, b2.cell 0 rfl, b2.cell 1 rfl, b2.cell 2 rfl⟩
theorem S4.grown {w : World} {C : Array Value} {s : Su} {W W1 W2 : World} {a : Option Addr} {c : Nat} {L : List Ro} (h : S4 w C s W a c L) (hb : Below W.heap.size W W1) (hg : W1.grownBy W2 (a.map Addr.block)) :
    W2.cell? ⟨w.heap.size + 1 + 1, 5, none⟩ = some (.slice a L.length c) ∧ W2.frozen? ⟨w.heap.size + 1 + 1, 5, none⟩ = false := by
  have h1 := h.keep hb
  have hB : But (fun k => a.map Addr.block = some k) W1 W2 := (But.refl _ W1).grown hg fun k hk _ => hk
  have i2 := h1.i.but hB fun e => h1.r.r.off h1.i (by decide) _ e rfl
  exact ⟨i2.cell 5 rfl, frozen_of_row _ _ 5 _ _ i2⟩
structure Pt.nums (p : Pt) : Prop where
  mq : p.mq < 4294967296
  gn : p.gn < 18446744073709551616
  bl : p.bl < 4294967296
  cl : p.cl < 256
  rf : p.rf < 4294967296
  nx : p.nx < 4294967296
  mn : p.mn < 256
  l : p.rw.length = min p.mn 16
  r : ∀ r ∈ p.rw, r.id < 4294967296 ∧ r.r < 4294967296 ∧ r.h < 256 ∧ r.n < 4294967296
set_option maxRecDepth 8000 in
set_option maxHeartbeats 6400000 in
theorem Psuper_any (w : World) (p : Pt) (hf : p.nums) :
    Calls Try.prog 15 #[.agg (pc p)] w fun y w' => ∃ a c, y = .returned (suv (suOf p) a c) ∧ JOwn w w' a c (suOf p).rs := by
  obtain ⟨_, hg, hbl, hcl, hrf, hnx, hm, hl, hr⟩ := hf
  have hl16 : p.rw.length ≤ 16 := by omega
  have HS := hide fun w1 => has_any w1 p hm
  rw [← hl] at HS
  have hsl := sliceRows w.heap.size p.rw.length hl16
  have HSP := hide (sizeParts hl16)
  have H := hide (S4.start w (pc p) (suOf p))
  have HRG := hide fun (w1 : World) (hb : Bx w1 48 w.heap.size (pc p)) (j : Nat) (hj : j < p.rw.length) => pc_range hb hl16 hj
  have c1 := i64w_wrap hg
  have y1 : (pc p)[1]? = some (.int .u64 (p.gn : Int)) := rfl
  have y2 : (pc p)[2]? = some (.int .u32 (p.bl : Int)) := rfl
  have y3 : (pc p)[3]? = some (.int .u8 (p.cl : Int)) := rfl
  have y4 : (pc p)[4]? = some (.int .u32 (p.rf : Int)) := rfl
  have y5 : (pc p)[5]? = some (.int .u32 (p.nx : Int)) := rfl
  clear hg hm hl
  have HR := hide hr
  clear hr
  unfold z6 suH suOf at *
  dsimp only at *
  go_enter Try.func15, Try.ntmps15
  go_wp2_with (first
    | (refine wpList_load_row rfl 48 _ rfl w.heap.size rfl 48 (pc p) (0, 0) _ H.out.p Try.underlying48 rfl HSP.out ?_))
  refine (HS.out _).mono ?_
  rintro y w1 ⟨rfl, hb⟩
  have H := hide (H.out.keep hb)
  clear hb
  go_wp2
  clear y1 y2 y3 y4 y5 c1 hsl hbl hcl hrf hnx
  generalize hn : p.rw.length = n at *
  have HN := hide hn
  clear hn
  have hni : (n : Int) ≤ 16 := by omega
  go_loopw [32] (fun q wx => ∃ (j : Nat) (aj : Option Addr) (cj : Nat), j ≤ n ∧ q = .int .i64 j ∧ S4 w (pc p) ⟨i64w p.gn, p.bl, p.cl, p.rf, p.nx, p.rw.map roOf⟩ wx aj cj (roT p.rw j)) (fun q _ => n - (intOf q).toNat)
  case atStart => exact ⟨0, none, 0, Nat.zero_le _, rfl, by rw [roT_zero]; exact H.out⟩
  case round =>
    obtain ⟨j, aj, cj, hj, rfl, hH⟩ := hrel
    have H := hide hH
    clear hH
    have hlen := roT_length p.rw (k := j) (by have := HN.out; omega)
    by_cases hlt : j < n
    · have hlti : (j : Int) < (n : Int) := by omega
      have HC := hide (HRG.out _ H.out.p j hlt)
      have SN := hide (roT_succ p.rw (k := j) (by have := HN.out; omega))
      obtain ⟨t1, t2, t3, t4⟩ := HR.out _ (getD_memP (R := p.rw) (j := j) (by have := HN.out; omega))
      generalize p.rw.getD j pr0 = r at *
      generalize roT p.rw j = L at *
      have FB := hide (H.out.two r r.r r.h r.n)
      unfold Pr.c at HC FB
      rw [hlen] at FB
      have hflag : True := trivial
      go_wp2_with (first
        | (conv in (World.alloc (World.alloc wr _) (Obj.cells #[Value.int IntKind.i64 (r.r : Int), _, _] _)) => skip
           clear hflag
           generalize (wr.alloc (.cells #[.int .u32 (r.id : Int), .int .u32 (r.r : Int), .int .u8 (r.h : Int), .int .u32 (r.n : Int)] 45)).alloc (.cells #[.int .i64 (r.r : Int), .int .i64 (r.h : Int), .int .i64 (r.n : Int)] 57) = W2 at *
           obtain ⟨hS2, s5, s0, q0, q1, q2⟩ := FB.out
           have S2 := hide hS2
           clear hS2)
        | (refine wpList_load_mid rfl 45 _ rfl w.heap.size (7 + j * 4) (by simp [Act.eval]) _ _ HC.out Try.underlying45 rfl sizeProw ?_)
        | (at_builtin
           refine wpList_apJ rfl _ _ rfl aj j cj L rfl hlen.symm (S2.out.keep (al _ _)).r.r ⟨W2.heap.size, 0, none⟩ 1 (roOf r) rfl (fresh4 W2 (roOf r)) (by omega) ?_
           intro g c2 w3 hR hN hg
           obtain ⟨cS, fS⟩ := S2.out.grown (al W2 _) hg
           have H3 := hide (S2.out.step (al W2 _) hR hN hg)
           rw [hlen] at H3 cS
           clear hR hN hg s5 s0 q0 q1 q2
           repeat (first | go_values | go_skip | go_guarded | go_step | go_upon)
           clear cS fS
           go_roundw
           case rel => exact ⟨j + 1, some ⟨g, 0, none⟩, c2, by omega, by go_num, by rw [SN.out]; exact H3.out⟩
           case measure => simp [intOf]; omega))
    · obtain rfl : j = n := by omega
      have e : roT p.rw j = p.rw.map roOf := by rw [← HN.out]; exact roT_all _
      have hml : (p.rw.map roOf).length = j := by rw [List.length_map]; exact HN.out
      rw [e] at H
      go_wp2_with (first
        | (refine wpList_load_row rfl 28 _ rfl (w.heap.size + 1 + 1) rfl 28 _ (0, 0) _ H.out.i Try.underlying28 rfl sizeSuper ?_)
        | (refine wpList_store_row rfl 28 _ _ rfl (w.heap.size + 1) _ rfl rfl 28 z6 H.out.o sizeSuper rfl (by simp [suH, Value.oneCell']) ?_))
      refine bodyPost_ret (v := .agg _) (results_cell_row Try.results15 _ _ (w.heap.size + 1) 28 _ (0, 0) _ rfl (setRow_heap _ _ _ _ _ _ H.out.o) Try.underlying28 rfl sizeSuper) rfl ⟨aj, cj, rfl, ?_⟩
      refine ⟨H.out.r.r.but (but_setRow _ _ _) fun x hx e2 => H.out.r.r.off H.out.o (by decide) x.block (by rw [hx]; rfl) e2, H.out.r.n, below_setRow H.out.r.b (by omega) _⟩
end Go.Proofs.Ytifhkfghjifecaa
