import Derived.Test.YtienamijmccjbabIM
import Derived.Test.YtienamijmccjbabIU
import Derived.Deep.RegionLaw
namespace Go.Proofs.Ytienamijmccjbab
open Go.RowKit

/-- the boxes of CopySuper -/
structure S5 (w : World) (C : Array Value) (s : Su) (W : World) (a : Option Addr) (c : Nat) (L : List Ro) : Prop where
  p : Bx W 28 w.heap.size C
  o : Bx W 28 (w.heap.size + 1) z6
  i : Bx W 28 (w.heap.size + 1 + 1) (suH s (.slice a L.length c))
  r : JOwn w W a c L
theorem S5.keep {w : World} {C : Array Value} {s : Su} {W W' : World} {a : Option Addr} {c : Nat} {L : List Ro} (h : S5 w C s W a c L) (hb : Below W.heap.size W W') : S5 w C s W' a c L := ⟨h.p.keep hb, h.o.keep hb, h.i.keep hb, h.r.keep hb⟩
theorem S5.step {w : World} {C : Array Value} {s : Su} {W W1 W2 : World} {a : Option Addr} {c g c' : Nat} {L : List Ro} {t : Ro} (h : S5 w C s W a c L) (hb : Below W.heap.size W W1) (hR : Jw W2 (some ⟨g, 0, none⟩) c' (L ++ [t])) (hN : New W1 a (some ⟨g, 0, none⟩)) (hg : W1.grownBy W2 (a.map Addr.block)) :
    S5 w C s (W2.setCell ⟨w.heap.size + 1 + 1, 5, none⟩ (.slice (some ⟨g, 0, none⟩) (L.length + 1) c')) (some ⟨g, 0, none⟩) c' (L ++ [t]) := by
  have h1 := h.keep hb
  have hB : But (fun k => a.map Addr.block = some k) W1 W2 := (But.refl _ W1).grown hg fun k hk _ => hk
  have p2 := h1.p.but hB fun e => h1.r.r.off h1.p (by decide) _ e rfl
  have o2 := h1.o.but hB fun e => h1.r.r.off h1.o (by decide) _ e rfl
  have i2 := h1.i.but hB fun e => h1.r.r.off h1.i (by decide) _ e rfl
  have r2 := h.r.step hb hR hN hg
  have hne := hR.off i2 (by decide) g rfl
  have hS : But (fun k => k = w.heap.size + 1 + 1) W2 (W2.setCell ⟨w.heap.size + 1 + 1, 5, none⟩ (.slice (some ⟨g, 0, none⟩) (L.length + 1) c')) := (But.refl (fun k => k = w.heap.size + 1 + 1) W2).setCell (p := ⟨w.heap.size + 1 + 1, 5, none⟩) (fun _ => rfl) _
  refine ⟨p2.but hS (by omega), o2.but hS (by omega), ?_, ⟨hR.but hS (fun x hx => by cases hx; exact hne), r2.n, ((But.ofBelow (S := fun _ => False) r2.b).trans hS fun x hx e => by omega).below fun _ _ h => h⟩⟩
  have := i2.setc 5 (.slice (some ⟨g, 0, none⟩) (L.length + 1) c')
  rw [List.length_append]
  exact this
theorem S5.start (w : World) (C : Array Value) (s : Su) : S5 w C s (((w.alloc (.cells C 28)).alloc (.cells z6 28)).alloc (.cells (suH s (.slice none 0 0)) 28)) none 0 [] := by
  refine ⟨((Bx.new w 28 C).keep (al _ _)).keep (al _ _), ?_, ?_, JOwn.nil w (bt (bt (al w _) (al _ _)) (al _ _))⟩
  · have := (Bx.new (w.alloc (.cells C 28)) 28 z6).keep (al _ (.cells (suH s (.slice none 0 0)) 28))
    rwa [size_alloc] at this
  · have := Bx.new ((w.alloc (.cells C 28)).alloc (.cells z6 28)) 28 (suH s (.slice none 0 0))
    rwa [size_alloc, size_alloc] at this
theorem S5.grown {w : World} {C : Array Value} {s : Su} {W W1 W2 : World} {a : Option Addr} {c : Nat} {L : List Ro} (h : S5 w C s W a c L) (hb : Below W.heap.size W W1) (hg : W1.grownBy W2 (a.map Addr.block)) :
    W2.cell? ⟨w.heap.size + 1 + 1, 5, none⟩ = some (.slice a L.length c) ∧ W2.frozen? ⟨w.heap.size + 1 + 1, 5, none⟩ = false := by
  have h1 := h.keep hb
  have hB : But (fun k => a.map Addr.block = some k) W1 W2 := (But.refl _ W1).grown hg fun k hk _ => hk
  have i2 := h1.i.but hB fun e => h1.r.r.off h1.i (by decide) _ e rfl
  exact ⟨i2.cell 5 rfl, frozen_of_row _ _ 5 _ _ i2⟩
theorem step_apS {w : World} {ops : Array Oper} {o : Oper} {a : Act} {K : Act → World → Prop} {Q : Exit → Act → World → Prop} {E : Prop} (hgd : o.guard = none) (s x : Operand)
    (ho : o.op = .call { callee := .builtin .append, args := #[s, x], argTypes := #[26, 26] }) (ao : Option Addr) (n cap : Nat) (L : List Ro) (hs : a.eval s = .slice ao n cap) (hn : n = L.length) (hR : Jw w ao cap L)
    (ad : Addr) (c : Nat) (v : Ro) (hx : a.eval x = .slice (some ad) 1 c) (hc : ∀ j u, v.cs.toList[j]? = some u → w.cell? (ad.add j) = some u) (hlen : L.length + 1 ≤ 4398046511000)
    (h : ∀ g cap' w', Jw w' (some ⟨g, 0, none⟩) cap' (L ++ [v]) → New w ao (some ⟨g, 0, none⟩) → w.grownBy w' (ao.map Addr.block) → K (a.put o.dst (.slice (some ⟨g, 0, none⟩) (n + 1) cap')) w') :
    if Region.wanted o (yielded ops a.tmps) = true then Oper.wp Try.prog o a w K Q else E := by
  have hw : Region.wanted o (yielded ops a.tmps) = true := by simp [Region.wanted, hgd]
  rw [if_pos hw]
  exact wp_apJ s x ho ao n cap L hs hn hR ad c v hx hc hlen h
theorem takeRo (L : List Ro) {j : Nat} (h : j < L.length) : L.take (j + 1) = L.take j ++ [L.getD j ro0] := by
  rw [List.take_succ_eq_append_getElem h]; simp [h]
set_option maxRecDepth 8000 in
set_option maxHeartbeats 6400000 in
theorem CopySuper_any (w : World) (s : Su) (a : Option Addr) (c : Nat) (hJ : Js w a s.rs) (hN : s.rs.length ≤ 4398046510976) :
    Calls Try.prog 22 #[suv s a c] w fun y w' => ∃ a' c', y = .returned (suv s a' c') ∧ JOwn w w' a' c' s.rs := by
  have H := hide (S5.start w (suC s a c) s)
  have HJ := hide hJ
  clear hJ
  unfold suv suC suH z6 at *
  generalize hn : s.rs.length = n at *
  have HN := hide hn
  clear hn
  go_enter Try.func22, Try.ntmps22
  go_wp2_with fail
  go_loopw [4] (fun q wx => ∃ (j : Nat) (aj : Option Addr) (cj : Nat), j ≤ n ∧ q = .int .i64 j ∧ S5 w #[.int .i64 s.gen, .int .i64 s.bl, .int .i64 s.cl, .int .i64 s.rf, .int .i64 s.nx, .slice a n c] s wx aj cj (s.rs.take j)) (fun q _ => n - (intOf q).toNat)
  case atStart => exact ⟨0, none, 0, Nat.zero_le _, rfl, H.out⟩
  case round =>
    obtain ⟨j, aj, cj, hj, rfl, hH⟩ := hrel
    clear H
    have H := hide hH
    clear hH
    have hlen : (s.rs.take j).length = j := by rw [List.length_take]; have := HN.out; omega
    have p5 : wr.cell? ⟨w.heap.size, 5, none⟩ = some (.slice a n c) := H.out.p.cell 5 rfl
    have hw0 : w.heap.size < wr.heap.size := (Array.getElem?_eq_some_iff.1 H.out.p).1
    by_cases hlt : j < n
    · have hlti : (j : Int) < (n : Int) := by omega
      have SN := hide (takeRo s.rs (j := j) (by have := HN.out; omega))
      obtain ⟨bk, off, rfl, hr4⟩ := (HJ.out.keep H.out.r.b).at (r := j) (by have := HN.out; omega)
      obtain ⟨q0, q1, q2, q3⟩ := range4 hr4
      clear hr4
      generalize s.rs.getD j ro0 = t at *
      generalize s.rs.take j = L at *
      have hq : bk < wr.heap.size := block_lt_of_cell q0
      have c5 : wr.cell? ⟨w.heap.size + 1 + 1, 5, none⟩ = some (.slice aj j cj) := by
        have h : wr.cell? ⟨w.heap.size + 1 + 1, 5, none⟩ = some (.slice aj L.length cj) := H.out.i.cell 5 rfl
        rwa [hlen] at h
      have hg0 : w.heap.size + 1 + 1 < wr.heap.size := (Array.getElem?_eq_some_iff.1 H.out.i).1
      have HB2 := hide (bt (al wr (.cells t.cs 53)) (dr2 _))
      have F4 := hide (fresh4 wr t)
      have J2 := hide (H.out.keep HB2.out).r.r
      unfold Ro.cs at HB2 J2
      go_wp2_with fail
      go_region_law
        (refine step_apS rfl _ _ rfl aj j cj L (by simp [Act.eval]) hlen.symm J2.out ⟨wr.heap.size, 0, none⟩ 1 t (by simp [Act.eval]) F4.out (by omega) ?_
         intro g c2 w3 hR hN hg
         obtain ⟨cS, fS⟩ := H.out.grown HB2.out hg
         have H3 := hide (H.out.step HB2.out hR hN hg)
         rw [hlen] at H3 cS
         clear hR hN hg c5)
      all_goals
        go_wp2
        clear cS fS
        go_roundw
      all_goals first
        | (simp [intOf]; omega)
        | exact ⟨j + 1, some ⟨g, 0, none⟩, c2, by omega, by go_num, by rw [SN.out]; exact H3.out⟩
    · obtain rfl : j = n := by omega
      have e : s.rs.take j = s.rs := by rw [← HN.out]; exact List.take_length
      rw [e] at H
      clear hlen e
      go_wp2_with (first
        | (refine wpList_load_row rfl 28 _ rfl (w.heap.size + 1 + 1) rfl 28 _ (0, 0) _ H.out.i Try.underlying28 rfl sizeSuper ?_)
        | (refine wpList_store_row rfl 28 _ _ rfl (w.heap.size + 1) _ rfl rfl 28 z6 H.out.o sizeSuper rfl (by simp [suH, Value.oneCell']) ?_))
      refine bodyPost_ret (v := .agg _) (results_cell_row Try.results22 _ _ (w.heap.size + 1) 28 _ (0, 0) _ rfl (setRow_heap _ _ _ _ _ _ H.out.o) Try.underlying28 rfl sizeSuper) rfl ⟨aj, cj, by rw [HN.out]; rfl, ?_⟩
      refine ⟨H.out.r.r.but (but_setRow _ _ _) fun x hx e2 => H.out.r.r.off H.out.o (by decide) x.block (by rw [hx]; rfl) e2, H.out.r.n, below_setRow H.out.r.b (by omega) _⟩
end Go.Proofs.Ytienamijmccjbab
