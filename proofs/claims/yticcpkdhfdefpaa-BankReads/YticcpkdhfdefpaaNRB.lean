import Derived.Test.YticcpkdhfdefpaaNRZ
import Derived.Test.YticcpkdhfdefpaaNO
import Derived.Deep.RegionHeld3
namespace Go.Proofs.Yticcpkdhfdefpaa
open Go.RowKit

/-- the document's reader in memory -/
def Rr (w : World) (b : Nat) (a : Option Addr) (cap : Nat) (full : List Nat) (p e : Nat) : Prop :=
  w.heap[b]? = some (.cells #[.slice a full.length cap, .int .i64 (p : Int), .int .i64 (e : Int)] 97 (0, 0)) ∧ Rw w a cap full ∧ p ≤ full.length ∧ (∀ x ∈ full, x < 256) ∧ full.length ≤ 140737488355328
section
variable {w w' : World} {b : Nat} {a : Option Addr} {cap : Nat} {full : List Nat} {p e : Nat}
theorem Rr.lt (h : Rr w b a cap full p e) : b < w.heap.size := (Array.getElem?_eq_some_iff.1 h.1).1
theorem Rr.c0 (h : Rr w b a cap full p e) : w.cell? ⟨b, 0, none⟩ = some (.slice a full.length cap) := by rw [cell_of_row _ _ _ _ _ _ h.1]; rfl
theorem Rr.c1 (h : Rr w b a cap full p e) : w.cell? ⟨b, 1, none⟩ = some (.int .i64 (p : Int)) := by rw [cell_of_row _ _ _ _ _ _ h.1]; rfl
theorem Rr.c2 (h : Rr w b a cap full p e) : w.cell? ⟨b, 2, none⟩ = some (.int .i64 (e : Int)) := by rw [cell_of_row _ _ _ _ _ _ h.1]; rfl
theorem Rr.f (h : Rr w b a cap full p e) (i : Nat) : w.frozen? ⟨b, i, none⟩ = false := frozen_of_row w b i _ _ h.1
theorem Rr.ne (h : Rr w b a cap full p e) {x : Addr} (hx : a = some x) : x.block ≠ b := by
  rcases h.2.1.cases with ⟨h0, _⟩ | ⟨g, cur, h0, hg, _⟩
  · rw [hx] at h0; cases h0
  · rw [hx, Option.some.injEq] at h0
    subst h0
    intro e'
    have e'' : g = b := e'
    subst e''
    have := h.1
    rw [hg] at this
    simp at this
theorem Rr.but {S : Nat → Prop} (h : Rr w b a cap full p e) (hb : But S w w') (hn : ∀ k, Ft b a k → ¬ S k) : Rr w' b a cap full p e :=
  ⟨(hb.block b h.lt (hn b (.inl rfl))).trans h.1, h.2.1.but hb fun x hx => hn _ (.inr ⟨x, hx, rfl⟩), h.2.2⟩
theorem Rr.keep (h : Rr w b a cap full p e) (hb : Below w.heap.size w w') : Rr w' b a cap full p e := h.but (S := fun _ => False) (But.ofBelow hb) fun _ _ hf => hf
theorem Rr.setE (h : Rr w b a cap full p e) (e' : Nat) : Rr (w.setCell ⟨b, 2, none⟩ (.int .i64 (e' : Int))) b a cap full p e' :=
  ⟨heap_setCell_same w b 2 _ _ _ h.1, h.2.1.but (But.cell1 _ _ _ _) fun _ hx => h.ne hx, h.2.2⟩
theorem Rr.setP (h : Rr w b a cap full p e) {p' : Nat} (hp : p' ≤ full.length) : Rr (w.setCell ⟨b, 1, none⟩ (.int .i64 (p' : Int))) b a cap full p' e :=
  ⟨heap_setCell_same w b 1 _ _ _ h.1, h.2.1.but (But.cell1 _ _ _ _) fun _ hx => h.ne hx, hp, h.2.2.2⟩
end
/-- the document's reader as one has it -/
def Rq (w : World) (b : Nat) (a : Option Addr) (cap : Nat) (full : List Nat) (s : RS) : Prop := ∃ p, Rr w b a cap full p s.e ∧ s.l = full.drop p
def DidQ (w w' : World) (b : Nat) (a : Option Addr) (cap : Nat) (full : List Nat) (s' : RS) : Prop := Rq w' b a cap full s' ∧ But (fun k => k = b) w w'
theorem DidQ.pre {w w1 w2 : World} {b : Nat} {a : Option Addr} {cap : Nat} {full : List Nat} {s : RS} (hb : Below w.heap.size w w1) (h : DidQ w1 w2 b a cap full s) : DidQ w w2 b a cap full s := ⟨h.1, (But.ofBelow hb).trans h.2 fun _ _ h => h⟩
theorem rLeft_any (w : World) (b : Nat) (a : Option Addr) (cap : Nat) (full : List Nat) (p e : Nat) (h : Rr w b a cap full p e) :
    Calls Try.prog 74 #[.pointer (some ⟨b, 0, none⟩)] w fun x w' => x = .returned (.int .i64 ((full.length - p : Nat) : Int)) ∧ Below w.heap.size w w' := by
  have c0 := h.c0
  have c1 := h.c1
  have hp := h.2.2.1
  have hl := h.2.2.2.2
  have hs : IntKind.i64.wrap ((full.length : Int) - (p : Int)) = ((full.length - p : Nat) : Int) := by rw [wrapI (by omega) (by omega)]; omega
  clear h
  generalize full.length - p = q at *
  go_enter Try.func74, Try.ntmps74
  go_wp2
  go_quiet (fail)
  go_wp2
  go_ret
  exact ⟨rfl, drN _ _⟩
theorem rRfail_any (w : World) (b : Nat) (a : Option Addr) (cap : Nat) (full : List Nat) (p e' : Nat) (h : Rr w b a cap full p 0) :
    Calls Try.prog 73 #[.pointer (some ⟨b, 0, none⟩), .int .i64 (e' : Int)] w fun x w' => x = .returned (.tuple #[]) ∧ w' = w.setCell ⟨b, 2, none⟩ (.int .i64 (e' : Int)) := by
  have c2 := h.c2
  have f2 := h.f 2
  clear h
  go_enter Try.func73, Try.ntmps73
  go_wp2
  go_end0
  exact ⟨rfl, rfl⟩
theorem rREnd_any (w : World) (b : Nat) (a : Option Addr) (cap : Nat) (full : List Nat) (s : RS) (h : Rq w b a cap full s) :
    Calls Try.prog 47 #[.pointer (some ⟨b, 0, none⟩)] w fun x w' => x = .returned (.int .i64 (s.fin : Int)) ∧ Below w.heap.size w w' := by
  obtain ⟨p, h, hl⟩ := h
  have c2 := h.c2
  have LF := hide (rLeft_any w b a cap full p s.e h)
  have hlen : s.l.length = full.length - p := by rw [hl, List.length_drop]
  rw [← hlen] at LF
  unfold RS.fin
  clear h hl hlen
  by_cases he : s.e = 0
  · rw [he] at c2
    rw [if_neg (by omega)]
    clear he
    by_cases h0 : s.l.length = 0
    · rw [if_pos h0]
      rw [h0] at LF
      go_enter Try.func47, Try.ntmps47
      go_wp2_with fail
      refine LF.out.mono ?_
      rintro e w1 ⟨rfl, hb1⟩
      go_wp2
      go_ret
      exact ⟨rfl, hb1⟩
    · rw [if_neg h0]
      have hp : (0 : Int) < (s.l.length : Int) := by omega
      go_enter Try.func47, Try.ntmps47
      go_wp2_with fail
      refine LF.out.mono ?_
      rintro e w1 ⟨rfl, hb1⟩
      go_wp2
      go_ret
      exact ⟨rfl, hb1⟩
  · rw [if_pos he]
    have hz : (((s.e : Nat) : Int) == 0) = false := by simp; omega
    have hz2 : (((s.e : Nat) : Int) != 0) = true := by simp; omega
    clear he
    go_enter Try.func47, Try.ntmps47
    go_wp2
    go_ret
    exact ⟨rfl, Below.refl _ _⟩
set_option maxHeartbeats 1600000 in
theorem rRRaw_any (w : World) (b : Nat) (a : Option Addr) (cap : Nat) (full : List Nat) (s : RS) (n : Int) (h : Rq w b a cap full s) (hn63 : n ≤ 9223372036854775807) :
    Calls Try.prog 72 #[.pointer (some ⟨b, 0, none⟩), .int .i64 n] w fun x w' => ∃ a' cap', x = .returned (.slice a' (s.raw n).1.length cap') ∧ Rw w' a' cap' (s.raw n).1 ∧ New w none a' ∧ DidQ w w' b a cap full (s.raw n).2 := by
  obtain ⟨p, h, hl⟩ := h
  have c0 := h.c0
  have c1 := h.c1
  have c2 := h.c2
  have H := hide h
  have HL := hide hl
  have LF := hide (rLeft_any w b a cap full p s.e h)
  have hlen : s.l.length = full.length - p := by rw [hl, List.length_drop]
  have hp := h.2.2.1
  have hfl := h.2.2.2.2
  clear h hl
  by_cases he : s.e = 0
  · have HE := hide he
    rw [he] at c2
    by_cases hn0 : n < 0
    · have hr : s.raw n = ([], ⟨s.l, 1⟩) := by
        have hf : s.fail n = 1 := by unfold RS.fail; rw [if_neg (by omega), if_pos hn0]
        unfold RS.raw; rw [hf, if_pos (by decide)]
      rw [hr]
      have FL := hide (rRfail_any w b a cap full p 1 (by rw [← he]; exact H.out))
      clear hr he
      go_enter Try.func72, Try.ntmps72
      go_wp2_with fail
      refine FL.out.mono ?_
      rintro e w1 ⟨rfl, rfl⟩
      go_wp2
      go_ret
      exact ⟨none, 0, rfl, Rw.nil _, New.none _ _, ⟨p, H.out.setE 1, HL.out⟩, But.cell1 _ _ _ _⟩
    · by_cases hn1 : ((full.length - p : Nat) : Int) < n
      · have hr : s.raw n = ([], ⟨s.l, 2⟩) := by
          have hf : s.fail n = 2 := by unfold RS.fail; rw [if_neg (by omega), if_neg hn0, if_pos (by rw [hlen]; exact hn1)]
          unfold RS.raw; rw [hf, if_pos (by decide)]
        rw [hr]
        clear hr
        go_enter Try.func72, Try.ntmps72
        go_wp2_with fail
        refine LF.out.mono ?_
        rintro e w1 ⟨rfl, hb1⟩
        have H1 := hide (H.out.keep hb1)
        have FL := hide (rRfail_any w1 b a cap full p 2 (by rw [← HE.out]; exact H1.out))
        have HB1 := hide hb1
        clear hb1 he
        go_wp2_with fail
        refine FL.out.mono ?_
        rintro e w2 ⟨rfl, rfl⟩
        go_wp2
        go_ret
        exact ⟨none, 0, rfl, Rw.nil _, New.none _ _, DidQ.pre HB1.out ⟨⟨p, H1.out.setE 2, HL.out⟩, But.cell1 _ _ _ _⟩⟩
      · obtain ⟨k, rfl⟩ : ∃ k : Nat, n = (k : Int) := ⟨n.toNat, by omega⟩
        have hk : p + k ≤ full.length := by omega
        have hlk : (s.l.take k).length = k := by rw [List.length_take]; omega
        have hr : s.raw (k : Int) = (s.l.take k, ⟨s.l.drop k, 0⟩) := by unfold RS.raw; rw [if_neg (by rw [RS.fail_ok he (by omega) (by omega)]; decide)]; rfl
        rw [hr]
        dsimp only
        rw [hlk]
        have hadd : IntKind.i64.wrap ((p : Int) + (k : Int)) = ((p + k : Nat) : Int) := by rw [wrapI (by omega) (by omega)]; omega
        have hI0 : (0 : Int) ≤ (p : Int) := by omega
        have hI1 : (p : Int) ≤ ((p + k : Nat) : Int) := by omega
        have hsub : p + k - p = k := by omega
        have HN1 : Hid (¬ ((full.length - p : Nat) : Int) < (k : Int)) := hn1
        have hkc : Hid (p ≤ full.length) := hp
        have HBS : Hid (∀ wx, Below w.heap.size w wx → Bs wx (if cap = p then a else a.map fun x => ⟨x.block, x.off + p, none⟩) (s.l.take k)) := fun wx hb => by
          by_cases hcp : cap = p
          · rw [if_pos hcp]
            have hk0 : k = 0 := by
              rcases H.out.2.1.cases with ⟨rfl, rfl, rfl⟩ | ⟨g, cur, rfl, hg, hcl, hcm, _⟩
              · simp at hk; omega
              · omega
            subst hk0
            rw [List.take_zero]
            exact Bs.empty _ _
          · rw [if_neg hcp]
            rcases H.out.2.1.cases with ⟨rfl, rfl, rfl⟩ | ⟨g, cur, rfl, hg, hcl, hcm, _⟩
            · exact absurd (by simp at hp; omega) hcp
            · rw [HL.out]
              have h7 := (((H.out.2.1.keep hb).bs H.out.2.2.2.1 H.out.2.1.len_le).drop p).take k
              exact h7
        rcases H.out.2.1.cases with ⟨rfl, rfl, rfl⟩ | ⟨g, cur, rfl, hg, hcl, hcm, _⟩
        · obtain rfl : p = 0 := by simp at hp; exact hp
          obtain rfl : k = 0 := by simp at hk; exact hk
          have HK : Hid (0 ≤ ([] : List Nat).length) := Nat.zero_le _
          have hI5 : (0 : Int) ≤ 0 := by decide
          have hw0 : IntKind.i64.wrap (0 : Int) = 0 := by decide
          clear hr hn1 hn0 hadd hI0 hI1 hsub hkc
          rw [show ((0 : Nat) : Int) = 0 from rfl] at c1
          go_enter Try.func72, Try.ntmps72
          go_wp2_with fail
          refine LF.out.mono ?_
          rintro e w1 ⟨rfl, hb1⟩
          have H1 := hide (H.out.keep hb1)
          have g0 := H1.out.c0
          have g1 := H1.out.c1
          rw [show ((0 : Nat) : Int) = 0 from rfl] at g1
          have CB := hide (CopyBytes_any w1.drew none 0 0 (s.l.take 0) (by rw [List.take_zero]; exact Bs.nil _) hlk.symm (by rw [hlk]; omega))
          have HB1 := hide hb1
          clear hb1 c0 c1
          go_wp2
          go_region_held3 (fun w' => w'.cell? ⟨b, 0, none⟩ = some (.slice none 0 0) ∧ w'.cell? ⟨b, 1, none⟩ = some (.int .i64 (0 : Int)))
            (first | exact ⟨g0, g1⟩ | exact ⟨H2.out.c0, H2.out.c1⟩)
            (first | (go_at_call 24; refine CB.out.mono ?_; rintro e w2 ⟨a2, cap2, rfl, hR2, hN2, hb2⟩; have H2 := hide (H1.out.keep (bt (Below.refl _ _).drew hb2)); have HR2 := hide hR2; have HN2 := hide hN2; have HB2 := hide hb2; clear hR2 hN2 hb2))
          have k1 := H2.out.c1
          have f1 := H2.out.f 1
          go_wp2
          go_ret
          have hNN : New w none a2 := HN2.out.mono HB1.out.size
          refine ⟨a2, cap2, rfl, HR2.out.but (But.cell1 _ _ _ _) (fun x hx e => ?_), hNN, DidQ.pre (bt HB1.out (bt (Below.refl _ _).drew HB2.out)) ⟨⟨0, ?_, ?_⟩, But.cell1 _ _ _ _⟩⟩
          · rcases hNN x hx with ⟨y, hy, _⟩ | h
            · cases hy
            · have := H.out.lt; omega
          · have h7 := H2.out.setP (p' := 0) HK.out
            rw [HE.out] at h7
            exact h7
          · dsimp only
            rw [HL.out, List.drop_drop]
        · unfold maxLen at hcm
          have hcq : p + k ≤ cap := by omega
          generalize hq : p + k = q at *
          have HQ := hide hq
          have HK : Hid (q ≤ full.length) := hk
          have hsub2 : q - p = k := by omega
          have hI1' : (p : Int) ≤ (q : Int) := by omega
          have hI2 : (q : Int) ≤ (cap : Int) := by omega
          have hI2b : (p : Int) ≤ (cap : Int) := by omega
          have hI3 : (cap : Int) ≤ 9223372036854775807 := by omega
          clear hr hn0 hn1 hg hsub hq hI1
          by_cases hcp : cap = p
          · have hbsx : ∀ wx, Below w.heap.size w wx → Bs wx (some ⟨g, 0, none⟩) (s.l.take k) := fun wx hb => by have h7 := HBS.out wx hb; rwa [if_pos hcp] at h7
            have HBX := hide hbsx
            clear hbsx
            obtain rfl : k = 0 := by omega
            obtain rfl : q = p := by omega
            subst hcp
            have hw0 : IntKind.i64.wrap (cap : Int) = (cap : Int) := wrapI (by omega) (by omega)
            have hsb : cap - cap = 0 := by omega
            clear hadd hsub2
            go_enter Try.func72, Try.ntmps72
            go_wp2_with fail
            refine LF.out.mono ?_
            rintro e w1 ⟨rfl, hb1⟩
            have H1 := hide (H.out.keep hb1)
            have g0 := H1.out.c0
            have g1 := H1.out.c1
            have CB := hide (CopyBytes_any w1.drew (some ⟨g, 0, none⟩) 0 0 (s.l.take 0) (HBX.out _ hb1.drew) hlk.symm (by rw [hlk]; omega))
            have HB1 := hide hb1
            clear hb1 c0 c1
            go_wp2
            go_region_held3 (fun w' => w'.cell? ⟨b, 0, none⟩ = some (.slice (some ⟨g, 0, none⟩) full.length cap) ∧ w'.cell? ⟨b, 1, none⟩ = some (.int .i64 (cap : Int)))
              (first | exact ⟨g0, g1⟩ | exact ⟨H2.out.c0, H2.out.c1⟩)
              (first | (go_at_call 24; refine CB.out.mono ?_; rintro e w2 ⟨a2, cap2, rfl, hR2, hN2, hb2⟩; have H2 := hide (H1.out.keep (bt (Below.refl _ _).drew hb2)); have HR2 := hide hR2; have HN2 := hide hN2; have HB2 := hide hb2; clear hR2 hN2 hb2))
            have k1 := H2.out.c1
            have f1 := H2.out.f 1
            go_wp2
            go_ret
            have hNN : New w none a2 := HN2.out.mono HB1.out.size
            refine ⟨a2, cap2, rfl, HR2.out.but (But.cell1 _ _ _ _) (fun x hx e => ?_), hNN, DidQ.pre (bt HB1.out (bt (Below.refl _ _).drew HB2.out)) ⟨⟨cap, ?_, ?_⟩, But.cell1 _ _ _ _⟩⟩
            · rcases hNN x hx with ⟨y, hy, _⟩ | h
              · cases hy
              · have := H.out.lt; omega
            · have h7 := H2.out.setP (p' := cap) HK.out
              rw [HE.out] at h7
              exact h7
            · dsimp only
              rw [HL.out, List.drop_zero]
          · have hbsx : ∀ wx, Below w.heap.size w wx → Bs wx (some ⟨g, p, none⟩) (s.l.take k) := fun wx hb => by have h7 := HBS.out wx hb; rw [if_neg hcp] at h7; simpa using h7
            have HBX := hide hbsx
            clear hbsx
            go_enter Try.func72, Try.ntmps72
            go_wp2_with fail
            refine LF.out.mono ?_
            rintro e w1 ⟨rfl, hb1⟩
            have H1 := hide (H.out.keep hb1)
            have g0 := H1.out.c0
            have g1 := H1.out.c1
            have CB := hide (CopyBytes_any w1.drew (some ⟨g, p, none⟩) k (cap - p) (s.l.take k) (HBX.out _ hb1.drew) hlk.symm (by rw [hlk]; omega))
            have HB1 := hide hb1
            clear hb1 c0 c1
            go_wp2
            go_region_held3 (fun w' => w'.cell? ⟨b, 0, none⟩ = some (.slice (some ⟨g, 0, none⟩) full.length cap) ∧ w'.cell? ⟨b, 1, none⟩ = some (.int .i64 (p : Int)))
              (first | exact ⟨g0, g1⟩ | exact ⟨H2.out.c0, H2.out.c1⟩)
              (first | (go_at_call 24; refine CB.out.mono ?_; rintro e w2 ⟨a2, cap2, rfl, hR2, hN2, hb2⟩; have H2 := hide (H1.out.keep (bt (Below.refl _ _).drew hb2)); have HR2 := hide hR2; have HN2 := hide hN2; have HB2 := hide hb2; clear hR2 hN2 hb2))
            have k1 := H2.out.c1
            have f1 := H2.out.f 1
            go_wp2
            go_ret
            have hNN : New w none a2 := HN2.out.mono HB1.out.size
            refine ⟨a2, cap2, rfl, HR2.out.but (But.cell1 _ _ _ _) (fun x hx e => ?_), hNN, DidQ.pre (bt HB1.out (bt (Below.refl _ _).drew HB2.out)) ⟨⟨q, ?_, ?_⟩, But.cell1 _ _ _ _⟩⟩
            · rcases hNN x hx with ⟨y, hy, _⟩ | h
              · cases hy
              · have := H.out.lt; omega
            · have h7 := H2.out.setP (p' := q) HK.out
              rw [HE.out] at h7
              exact h7
            · dsimp only
              rw [HL.out, List.drop_drop, HQ.out]
  · have hr : s.raw n = ([], ⟨s.l, s.e⟩) := by
      have hf : s.fail n = s.e := by unfold RS.fail; rw [if_pos he]
      unfold RS.raw; rw [hf, if_pos he]
    rw [hr]
    have hz : (((s.e : Nat) : Int) == 0) = false := by simp; omega
    have hz2 : (((s.e : Nat) : Int) != 0) = true := by simp; omega
    clear he hr LF
    go_enter Try.func72, Try.ntmps72
    go_wp2
    go_ret
    exact ⟨none, 0, rfl, Rw.nil _, New.none _ _, ⟨p, H.out, HL.out⟩, But.refl _ _⟩
theorem numV_cons (x : Nat) (r : List Nat) : numV (x :: r) = x + 256 * numV r := rfl
theorem numV_drop (l : List Nat) (i : Nat) (h : i < l.length) : numV (l.drop i) = l.getD i 0 + 256 * numV (l.drop (i + 1)) := by
  rw [List.drop_eq_getElem_cons h, getD_at l h]
  rfl
set_option maxHeartbeats 1600000 in
theorem rRGet_any (w : World) (b : Nat) (a : Option Addr) (cap : Nat) (full : List Nat) (s : RS) (k : Nat) (hk : k ≤ 8) (h : Rq w b a cap full s) :
    Calls Try.prog 45 #[.pointer (some ⟨b, 0, none⟩), .int .i64 (k : Int)] w fun x w' => x = .returned (.int .u64 (numV (s.raw (k : Int)).1 : Int)) ∧ DidQ w w' b a cap full (s.raw (k : Int)).2 := by
  have RW := hide (rRRaw_any w b a cap full s (k : Int) h (by omega))
  have hl8 : (s.raw (k : Int)).1.length ≤ 8 := by
    unfold RS.raw
    split
    · exact Nat.zero_le _
    · rw [Int.toNat_natCast, List.length_take]; omega
  have h256 : ∀ x ∈ (s.raw (k : Int)).1, x < 256 := by
    obtain ⟨p, hp, hl⟩ := h
    unfold RS.raw
    split
    · intro x hx; cases hx
    · intro x hx
      have h1 := List.mem_of_mem_take hx
      rw [hl] at h1
      exact hp.2.2.2.1 x (List.mem_of_mem_drop h1)
  generalize s.raw (k : Int) = R at *
  obtain ⟨l, s2⟩ := R
  dsimp only at *
  clear h
  go_enter Try.func45, Try.ntmps45
  go_wp2_with fail
  refine RW.out.mono ?_
  rintro e w1 ⟨a1, cap1, rfl, hR, hN, hd⟩
  have HR := hide hR
  have HD := hide hd
  have H256 := hide h256
  clear hR hN hd h256 RW
  go_wp2
  have hsub : wrap64 ((l.length : Int) - 1) = (l.length : Int) - 1 := by unfold wrap64; omega
  go_loopw [6, 7] (fun v i wx => ∃ j : Nat, j ≤ l.length ∧ i = .int .i64 ((j : Int) - 1) ∧ v = .int .u64 ((numV (l.drop j) : Nat) : Int) ∧ wx = w1) (fun _ i _ => (intOf i + 1).toNat)
  case atStart => exact ⟨l.length, Nat.le_refl _, by first | rfl | rw [hsub], by rw [List.drop_length]; rfl, rfl⟩
  case round =>
    obtain ⟨j, hj, rfl, rfl, hw⟩ := hrel
    subst hw
    by_cases h0 : j = 0
    · subst h0
      rw [List.drop_zero]
      go_wp2
      go_ret
      exact ⟨rfl, HD.out⟩
    · obtain ⟨i, rfl⟩ : ∃ i, j = i + 1 := ⟨j - 1, by omega⟩
      have hi : i < l.length := by omega
      have hii : (i : Int) < (l.length : Int) := by omega
      rw [show ((i + 1 : Nat) : Int) - 1 = (i : Int) by omega]
      obtain ⟨g, hga, _, _⟩ := HR.out.addr (by omega)
      subst hga
      have hc := HR.out.cell hi
      have hst := numV_drop l i hi
      have hlt := numV_lt (l.drop (i + 1)) fun x hx => H256.out x (List.mem_of_mem_drop hx)
      have hle : 256 ^ (l.drop (i + 1)).length ≤ 256 ^ 7 := Nat.pow_le_pow_right (by decide) (by rw [List.length_drop]; omega)
      have hy : l.getD i 0 < 256 := by rw [getD_at l hi]; exact H256.out _ (List.getElem_mem _)
      have hge : (0 : Int) ≤ (i : Int) := by omega
      have HST := hide hst
      have hV : numV (l.drop (i + 1)) < 72057594037927936 := by omega
      clear hst hlt hle
      generalize hg0 : numV (l.drop i) = V0 at *
      generalize numV (l.drop (i + 1)) = V at *
      generalize l.getD i 0 = y at *
      have hmul : IntKind.u64.wrap ((V : Int) * 256) = (V : Int) * 256 := by rw [IntKind.wrap_u64]; omega
      have hcv : IntKind.u64.wrap (y : Int) = (y : Int) := by rw [IntKind.wrap_u64]; omega
      have hadd : IntKind.u64.wrap ((V : Int) * 256 + (y : Int)) = ((V0 : Nat) : Int) := by rw [IntKind.wrap_u64, HST.out]; omega
      have hm1 : wrap64 ((i : Int) - 1) = (i : Int) - 1 := by unfold wrap64; omega
      have HG0 := hide hg0
      clear hg0
      go_wp2
      refine ⟨⟨i, by omega, rfl, by rw [HG0.out], trivial⟩, ?_⟩
      simp only [intOf]
      omega
theorem getD_drop' (full : List Nat) (p i : Nat) : (full.drop p).getD i 0 = full.getD (p + i) 0 := by simp [List.getD, List.getElem?_drop]
set_option maxHeartbeats 1600000 in
theorem rRZeros_any (w : World) (b : Nat) (a : Option Addr) (cap : Nat) (full : List Nat) (s : RS) (h : Rq w b a cap full s) :
    Calls Try.prog 46 #[.pointer (some ⟨b, 0, none⟩)] w fun x w' => x = .returned (.tuple #[]) ∧ DidQ w w' b a cap full s.zeros := by
  obtain ⟨p, h, hl⟩ := h
  have c0 := h.c0
  have c1 := h.c1
  have c2 := h.c2
  have f1 := h.f 1
  have H := hide h
  have HL := hide hl
  have hp := h.2.2.1
  have hfl := h.2.2.2.2
  have hlen : s.l.length = full.length - p := by rw [hl, List.length_drop]
  by_cases he : s.e = 0
  · have H0 : Hid (Rr w b a cap full p 0) := by show Rr w b a cap full p 0; rw [← he]; exact h
    rw [he] at c2
    by_cases hz : s.l.all (· == 0) = true
    · have hE : s.zeros = ⟨[], 0⟩ := by
        have hE : s.zerosE = 0 := by unfold RS.zerosE; rw [if_neg (by omega), if_pos hz]
        unfold RS.zeros; rw [hE, if_neg (by decide)]
      rw [hE]
      have HZ : Hid (∀ i, p ≤ i → full.getD i 0 = 0) := fun i hi => by
        have h7 := all_zero hz (i - p)
        rw [hl, getD_drop', show p + (i - p) = i by omega] at h7
        exact h7
      clear hE hz he h hl hlen
      go_enter Try.func46, Try.ntmps46
      go_wp2
      go_loopw [2] (fun i wx => ∃ j : Nat, p ≤ j ∧ j ≤ full.length ∧ i = .int .i64 j ∧ wx = w) (fun i _ => full.length - (intOf i).toNat)
      case atStart => exact ⟨p, Nat.le_refl _, hp, rfl, rfl⟩
      case round =>
        obtain ⟨j, hpj, hj, rfl, hw⟩ := hrel
        subst hw
        by_cases hlt : j < full.length
        · have hi : (j : Int) < (full.length : Int) := by omega
          obtain ⟨g, hga, _, _⟩ := H.out.2.1.addr (by omega)
          subst hga
          have hc := H.out.2.1.cell hlt
          rw [HZ.out j hpj] at hc
          go_wp2
          go_roundw
          case rel => exact ⟨j + 1, by omega, by omega, by go_num, trivial⟩
          case measure => simp [intOf]; omega
        · obtain rfl : j = full.length := by omega
          go_wp2
          go_end0
          exact ⟨rfl, ⟨full.length, H0.out.setP (Nat.le_refl _), by rw [List.drop_length]⟩, But.cell1 _ _ _ _⟩
    · have hE : s.zeros = ⟨s.l, 5⟩ := by
        have hE : s.zerosE = 5 := by unfold RS.zerosE; rw [if_neg (by omega), if_neg hz]
        unfold RS.zeros; rw [hE, if_pos (by decide)]
      rw [hE]
      obtain ⟨m, hm1, hm2, hm3⟩ := first_not (by simpa using hz)
      rw [hlen] at hm1
      rw [hl, getD_drop'] at hm2
      have HZ : Hid (∀ i, p ≤ i → i < p + m → full.getD i 0 = 0) := fun i hi hi2 => by
        have h7 := hm3 (i - p) (by omega)
        rw [hl, getD_drop', show p + (i - p) = i by omega] at h7
        exact h7
      have HNZ := hide hm2
      have FL := hide (rRfail_any w b a cap full p 5 H0.out)
      clear hE hz he h hl hlen hm2 hm3
      go_enter Try.func46, Try.ntmps46
      go_wp2
      go_loopw [2] (fun i wx => ∃ j : Nat, p ≤ j ∧ j ≤ p + m ∧ i = .int .i64 j ∧ wx = w) (fun i _ => p + m - (intOf i).toNat)
      case atStart => exact ⟨p, Nat.le_refl _, by omega, rfl, rfl⟩
      case round =>
        obtain ⟨j, hpj, hj, rfl, hw⟩ := hrel
        subst hw
        have hjl : j < full.length := by omega
        have hi : (j : Int) < (full.length : Int) := by omega
        obtain ⟨g, hga, _, _⟩ := H.out.2.1.addr (by omega)
        subst hga
        have hc := H.out.2.1.cell hjl
        by_cases hlt : j < p + m
        · rw [HZ.out j hpj hlt] at hc
          go_wp2
          go_roundw
          case rel => exact ⟨j + 1, by omega, by omega, by go_num, trivial⟩
          case measure => simp [intOf]; omega
        · obtain rfl : j = p + m := by omega
          have h0 := HNZ.out
          generalize full.getD (p + m) 0 = y at *
          have hne : ((y : Int) == 0) = false := by simp; omega
          have hne2 : ((y : Int) != 0) = true := by simp; omega
          clear h0
          go_wp2_with fail
          refine FL.out.mono ?_
          rintro e w1 ⟨rfl, rfl⟩
          go_wp2
          refine bodyPost_ret (results_none rfl _ _ _) rfl ?_
          exact ⟨rfl, ⟨p, H0.out.setE 5, HL.out⟩, But.cell1 _ _ _ _⟩
  · have hE : s.zeros = ⟨s.l, s.e⟩ := by
      have hE : s.zerosE = s.e := by unfold RS.zerosE; rw [if_pos he]
      unfold RS.zeros; rw [hE, if_pos he]
    rw [hE]
    have hz : (((s.e : Nat) : Int) == 0) = false := by simp; omega
    have hz2 : (((s.e : Nat) : Int) != 0) = true := by simp; omega
    clear he hE h hl
    go_enter Try.func46, Try.ntmps46
    go_wp2
    refine bodyPost_ret (results_none rfl _ _ _) rfl ?_
    exact ⟨rfl, ⟨p, H.out, HL.out⟩, But.refl _ _⟩
set_option maxHeartbeats 800000 in
theorem rNewReader_any (w : World) (aa : Option Addr) (n capa : Nat) (p : List Nat) (hB : Bs w aa p) (hn : n = p.length) (hlen : p.length ≤ 140737488355328) :
    Calls Try.prog 44 #[.slice aa n capa] w fun x w' => ∃ b a cap, x = .returned (.pointer (some ⟨b, 0, none⟩)) ∧ Rq w' b a cap p ⟨p, 0⟩ ∧ w.heap.size ≤ b ∧ New w none a ∧ Below w.heap.size w w' := by
  subst hn
  have C := hide (CopyBytes_any w aa p.length capa p hB rfl hlen)
  have HB := hide hB
  clear hB
  go_enter Try.func44, Try.ntmps44
  go_wp2_with fail
  refine C.out.mono ?_
  rintro e w1 ⟨a', cap', rfl, hR, hN, hb⟩
  have HR := hide hR
  clear hR
  go_wp2
  go_ret
  have hR2 := HR.out.keep ((Below.refl _ w1).alloc (Nat.le_refl _) (.cells #[.slice a' p.length cap', .int .i64 0, .int .i64 0] 97))
  exact ⟨w1.heap.size, a', cap', rfl, ⟨0, ⟨heap_alloc_new _ _, hR2, Nat.zero_le _, HB.out.1, hlen⟩, rfl⟩, hb.size, hN, hb.alloc hb.size _⟩
end Go.Proofs.Yticcpkdhfdefpaa
