import Derived.Test.YtlkjpljfbmploaaRC
import Derived.Test.YtlkjpljfbmploaaWK
import Derived.Deep.RegionHeld3
namespace Go.Proofs.Ytlkjpljfbmploaa
open Go.RowKit

/-- the document's reader in memory -/
def Rr (w : World) (b : Nat) (a : Option Addr) (cap : Nat) (full : List Nat) (p e : Nat) : Prop :=
  w.heap[b]? = some (.cells #[.slice a full.length cap, .int .i64 (p : Int), .int .i64 (e : Int)] 80 (0, 0)) ∧ Rw w a cap full ∧ p ≤ full.length ∧ (∀ x ∈ full, x < 256) ∧ full.length ≤ 140737488355328
section
variable {w w' : World} {b : Nat} {a : Option Addr} {cap : Nat} {full : List Nat} {p e : Nat}
theorem Rr.lt (h : Rr w b a cap full p e) : b < w.heap.size := (Array.getElem?_eq_some_iff.1 h.1).1
theorem Rr.c0 (h : Rr w b a cap full p e) : w.cell? ⟨b, 0, none⟩ = some (.slice a full.length cap) := by rw [cell_of_row _ _ _ _ _ _ h.1]; rfl
theorem Rr.c1 (h : Rr w b a cap full p e) : w.cell? ⟨b, 1, none⟩ = some (.int .i64 (p : Int)) := by rw [cell_of_row _ _ _ _ _ _ h.1]; rfl
theorem Rr.c2 (h : Rr w b a cap full p e) : w.cell? ⟨b, 2, none⟩ = some (.int .i64 (e : Int)) := by rw [cell_of_row _ _ _ _ _ _ h.1]; rfl
theorem Rr.f (h : Rr w b a cap full p e) (i : Nat) : w.frozen? ⟨b, i, none⟩ = false := frozen_of_row w b i _ _ h.1
theorem Rr.ne (h : Rr w b a cap full p e) {x : Addr} (hx : a = some x) : x.block ≠ b := by
  rcases h.2.1.cases with ⟨h0, _⟩ | ⟨g, cur, h0, hg, _⟩
  · rw [hx] at h0; cases h0
  · rw [hx, Option.some.injEq] at h0
    subst h0
    intro e'
    have e'' : g = b := e'
    subst e''
    have := h.1
    rw [hg] at this
    simp at this
theorem Rr.but {S : Nat → Prop} (h : Rr w b a cap full p e) (hb : But S w w') (hn : ∀ k, Ft b a k → ¬ S k) : Rr w' b a cap full p e :=
  ⟨(hb.block b h.lt (hn b (.inl rfl))).trans h.1, h.2.1.but hb fun x hx => hn _ (.inr ⟨x, hx, rfl⟩), h.2.2⟩
theorem Rr.keep (h : Rr w b a cap full p e) (hb : Below w.heap.size w w') : Rr w' b a cap full p e := h.but (S := fun _ => False) (But.ofBelow hb) fun _ _ hf => hf
theorem Rr.setE (h : Rr w b a cap full p e) (e' : Nat) : Rr (w.setCell ⟨b, 2, none⟩ (.int .i64 (e' : Int))) b a cap full p e' :=
  ⟨heap_setCell_same w b 2 _ _ _ h.1, h.2.1.but (But.cell1 _ _ _ _) fun _ hx => h.ne hx, h.2.2⟩
theorem Rr.setP (h : Rr w b a cap full p e) {p' : Nat} (hp : p' ≤ full.length) : Rr (w.setCell ⟨b, 1, none⟩ (.int .i64 (p' : Int))) b a cap full p' e :=
  ⟨heap_setCell_same w b 1 _ _ _ h.1, h.2.1.but (But.cell1 _ _ _ _) fun _ hx => h.ne hx, hp, h.2.2.2⟩
end
/-- the document's reader as one has it -/
def Rq (w : World) (b : Nat) (a : Option Addr) (cap : Nat) (full : List Nat) (s : RS) : Prop := ∃ p, Rr w b a cap full p s.e ∧ s.l = full.drop p
def DidQ (w w' : World) (b : Nat) (a : Option Addr) (cap : Nat) (full : List Nat) (s' : RS) : Prop := Rq w' b a cap full s' ∧ But (fun k => k = b) w w'
theorem DidQ.pre {w w1 w2 : World} {b : Nat} {a : Option Addr} {cap : Nat} {full : List Nat} {s : RS} (hb : Below w.heap.size w w1) (h : DidQ w1 w2 b a cap full s) : DidQ w w2 b a cap full s := ⟨h.1, (But.ofBelow hb).trans h.2 fun _ _ h => h⟩

theorem rLeft_any (w : World) (b : Nat) (a : Option Addr) (cap : Nat) (full : List Nat) (p e : Nat) (h : Rr w b a cap full p e) :
    Calls Try.prog 18 #[.pointer (some ⟨b, 0, none⟩)] w fun x w' => x = .returned (.int .i64 ((full.length - p : Nat) : Int)) ∧ Below w.heap.size w w' := by
  have c0 := h.c0
  have c1 := h.c1
  have hp := h.2.2.1
  have hl := h.2.2.2.2
  have hs : IntKind.i64.wrap ((full.length : Int) - (p : Int)) = ((full.length - p : Nat) : Int) := by rw [wrapI (by omega) (by omega)]; omega
  clear h
  generalize full.length - p = q at *
  go_enter Try.func18, Try.ntmps18
  go_wp2
  go_quiet (fail)
  go_wp2
  go_ret
  exact ⟨rfl, drN _ _⟩
theorem rRfail_any (w : World) (b : Nat) (a : Option Addr) (cap : Nat) (full : List Nat) (p e' : Nat) (h : Rr w b a cap full p 0) :
    Calls Try.prog 77 #[.pointer (some ⟨b, 0, none⟩), .int .i64 (e' : Int)] w fun x w' => x = .returned (.tuple #[]) ∧ w' = w.setCell ⟨b, 2, none⟩ (.int .i64 (e' : Int)) := by
  have c2 := h.c2
  have f2 := h.f 2
  clear h
  go_enter Try.func77, Try.ntmps77
  go_wp2
  go_end0
  exact ⟨rfl, rfl⟩
theorem rREnd_any (w : World) (b : Nat) (a : Option Addr) (cap : Nat) (full : List Nat) (s : RS) (h : Rq w b a cap full s) :
    Calls Try.prog 56 #[.pointer (some ⟨b, 0, none⟩)] w fun x w' => x = .returned (.int .i64 (s.fin : Int)) ∧ Below w.heap.size w w' := by
  obtain ⟨p, h, hl⟩ := h
  have c2 := h.c2
  have LF := hide (rLeft_any w b a cap full p s.e h)
  have hlen : s.l.length = full.length - p := by rw [hl, List.length_drop]
  rw [← hlen] at LF
  unfold RS.fin
  clear h hl hlen
  by_cases he : s.e = 0
  · rw [he] at c2
    rw [if_neg (by omega)]
    clear he
    by_cases h0 : s.l.length = 0
    · rw [if_pos h0]
      rw [h0] at LF
      go_enter Try.func56, Try.ntmps56
      go_wp2_with fail
      refine LF.out.mono ?_
      rintro e w1 ⟨rfl, hb1⟩
      go_wp2
      go_ret
      exact ⟨rfl, hb1⟩
    · rw [if_neg h0]
      have hp : (0 : Int) < (s.l.length : Int) := by omega
      go_enter Try.func56, Try.ntmps56
      go_wp2_with fail
      refine LF.out.mono ?_
      rintro e w1 ⟨rfl, hb1⟩
      go_wp2
      go_ret
      exact ⟨rfl, hb1⟩
  · rw [if_pos he]
    have hz : (((s.e : Nat) : Int) == 0) = false := by simp; omega
    have hz2 : (((s.e : Nat) : Int) != 0) = true := by simp; omega
    clear he
    go_enter Try.func56, Try.ntmps56
    go_wp2
    go_ret
    exact ⟨rfl, Below.refl _ _⟩

set_option maxHeartbeats 1600000 in
theorem rRRaw_any (w : World) (b : Nat) (a : Option Addr) (cap : Nat) (full : List Nat) (s : RS) (n : Int) (h : Rq w b a cap full s) (hn63 : n ≤ 9223372036854775807) :
    Calls Try.prog 52 #[.pointer (some ⟨b, 0, none⟩), .int .i64 n] w fun x w' => ∃ a' cap', x = .returned (.slice a' (s.raw n).1.length cap') ∧ Rw w' a' cap' (s.raw n).1 ∧ New w none a' ∧ DidQ w w' b a cap full (s.raw n).2 := by
  obtain ⟨p, h, hl⟩ := h
  have c0 := h.c0
  have c1 := h.c1
  have c2 := h.c2
  have H := hide h
  have HL := hide hl
  have LF := hide (rLeft_any w b a cap full p s.e h)
  have hlen : s.l.length = full.length - p := by rw [hl, List.length_drop]
  have hp := h.2.2.1
  have hfl := h.2.2.2.2
  clear h hl
  by_cases he : s.e = 0
  · have HE := hide he
    rw [he] at c2
    by_cases hn0 : n < 0
    · have hr : s.raw n = ([], ⟨s.l, 1⟩) := by
        have hf : s.fail n = 1 := by unfold RS.fail; rw [if_neg (by omega), if_pos hn0]
        unfold RS.raw; rw [hf, if_pos (by decide)]
      rw [hr]
      have FL := hide (rRfail_any w b a cap full p 1 (by rw [← he]; exact H.out))
      clear hr he
      go_enter Try.func52, Try.ntmps52
      go_wp2_with fail
      refine FL.out.mono ?_
      rintro e w1 ⟨rfl, rfl⟩
      go_wp2
      go_ret
      exact ⟨none, 0, rfl, Rw.nil _, New.none _ _, ⟨p, H.out.setE 1, HL.out⟩, But.cell1 _ _ _ _⟩
    · by_cases hn1 : ((full.length - p : Nat) : Int) < n
      · have hr : s.raw n = ([], ⟨s.l, 2⟩) := by
          have hf : s.fail n = 2 := by unfold RS.fail; rw [if_neg (by omega), if_neg hn0, if_pos (by rw [hlen]; exact hn1)]
          unfold RS.raw; rw [hf, if_pos (by decide)]
        rw [hr]
        clear hr
        go_enter Try.func52, Try.ntmps52
        go_wp2_with fail
        refine LF.out.mono ?_
        rintro e w1 ⟨rfl, hb1⟩
        have H1 := hide (H.out.keep hb1)
        have FL := hide (rRfail_any w1 b a cap full p 2 (by rw [← HE.out]; exact H1.out))
        have HB1 := hide hb1
        clear hb1 he
        go_wp2_with fail
        refine FL.out.mono ?_
        rintro e w2 ⟨rfl, rfl⟩
        go_wp2
        go_ret
        exact ⟨none, 0, rfl, Rw.nil _, New.none _ _, DidQ.pre HB1.out ⟨⟨p, H1.out.setE 2, HL.out⟩, But.cell1 _ _ _ _⟩⟩
      · obtain ⟨k, rfl⟩ : ∃ k : Nat, n = (k : Int) := ⟨n.toNat, by omega⟩
        have hk : p + k ≤ full.length := by omega
        have hlk : (s.l.take k).length = k := by rw [List.length_take]; omega
        have hr : s.raw (k : Int) = (s.l.take k, ⟨s.l.drop k, 0⟩) := by unfold RS.raw; rw [if_neg (by rw [RS.fail_ok he (by omega) (by omega)]; decide)]; rfl
        rw [hr]
        dsimp only
        rw [hlk]
        have hadd : IntKind.i64.wrap ((p : Int) + (k : Int)) = ((p + k : Nat) : Int) := by rw [wrapI (by omega) (by omega)]; omega
        have hI0 : (0 : Int) ≤ (p : Int) := by omega
        have hI1 : (p : Int) ≤ ((p + k : Nat) : Int) := by omega
        have hsub : p + k - p = k := by omega
        have HN1 : Hid (¬ ((full.length - p : Nat) : Int) < (k : Int)) := hn1
        have hkc : Hid (p ≤ full.length) := hp
        have HBS : Hid (∀ wx, Below w.heap.size w wx → Bs wx (if cap = p then a else a.map fun x => ⟨x.block, x.off + p, none⟩) (s.l.take k)) := fun wx hb => by
          by_cases hcp : cap = p
          · rw [if_pos hcp]
            have hk0 : k = 0 := by
              rcases H.out.2.1.cases with ⟨rfl, rfl, rfl⟩ | ⟨g, cur, rfl, hg, hcl, hcm, _⟩
              · simp at hk; omega
              · omega
            subst hk0
            rw [List.take_zero]
            exact Bs.empty _ _
          · rw [if_neg hcp]
            rcases H.out.2.1.cases with ⟨rfl, rfl, rfl⟩ | ⟨g, cur, rfl, hg, hcl, hcm, _⟩
            · exact absurd (by simp at hp; omega) hcp
            · rw [HL.out]
              have h7 := (((H.out.2.1.keep hb).bs H.out.2.2.2.1 H.out.2.1.len_le).drop p).take k
              exact h7
        rcases H.out.2.1.cases with ⟨rfl, rfl, rfl⟩ | ⟨g, cur, rfl, hg, hcl, hcm, _⟩
        · obtain rfl : p = 0 := by simp at hp; exact hp
          obtain rfl : k = 0 := by simp at hk; exact hk
          have HK : Hid (0 ≤ ([] : List Nat).length) := Nat.zero_le _
          have hI5 : (0 : Int) ≤ 0 := by decide
          have hw0 : IntKind.i64.wrap (0 : Int) = 0 := by decide
          clear hr hn1 hn0 hadd hI0 hI1 hsub hkc
          rw [show ((0 : Nat) : Int) = 0 from rfl] at c1
          go_enter Try.func52, Try.ntmps52
          go_wp2_with fail
          refine LF.out.mono ?_
          rintro e w1 ⟨rfl, hb1⟩
          have H1 := hide (H.out.keep hb1)
          have g0 := H1.out.c0
          have g1 := H1.out.c1
          rw [show ((0 : Nat) : Int) = 0 from rfl] at g1
          have CB := hide (CopyBytes_any w1.drew none 0 0 (s.l.take 0) (by rw [List.take_zero]; exact Bs.nil _) hlk.symm (by rw [hlk]; omega))
          have HB1 := hide hb1
          clear hb1 c0 c1
          go_wp2
          go_region_held3 (fun w' => w'.cell? ⟨b, 0, none⟩ = some (.slice none 0 0) ∧ w'.cell? ⟨b, 1, none⟩ = some (.int .i64 (0 : Int)))
            (first | exact ⟨g0, g1⟩ | exact ⟨H2.out.c0, H2.out.c1⟩)
            (first | (go_at_call 31; refine CB.out.mono ?_; rintro e w2 ⟨a2, cap2, rfl, hR2, hN2, hb2⟩; have H2 := hide (H1.out.keep (bt (Below.refl _ _).drew hb2)); have HR2 := hide hR2; have HN2 := hide hN2; have HB2 := hide hb2; clear hR2 hN2 hb2))
          have k1 := H2.out.c1
          have f1 := H2.out.f 1
          go_wp2
          go_ret
          have hNN : New w none a2 := HN2.out.mono HB1.out.size
          refine ⟨a2, cap2, rfl, HR2.out.but (But.cell1 _ _ _ _) (fun x hx e => ?_), hNN, DidQ.pre (bt HB1.out (bt (Below.refl _ _).drew HB2.out)) ⟨⟨0, ?_, ?_⟩, But.cell1 _ _ _ _⟩⟩
          · rcases hNN x hx with ⟨y, hy, _⟩ | h
            · cases hy
            · have := H.out.lt; omega
          · have h7 := H2.out.setP (p' := 0) HK.out
            rw [HE.out] at h7
            exact h7
          · dsimp only
            rw [HL.out, List.drop_drop]
        · unfold maxLen at hcm
          have hcq : p + k ≤ cap := by omega
          generalize hq : p + k = q at *
          have HQ := hide hq
          have HK : Hid (q ≤ full.length) := hk
          have hsub2 : q - p = k := by omega
          have hI1' : (p : Int) ≤ (q : Int) := by omega
          have hI2 : (q : Int) ≤ (cap : Int) := by omega
          have hI2b : (p : Int) ≤ (cap : Int) := by omega
          have hI3 : (cap : Int) ≤ 9223372036854775807 := by omega
          clear hr hn0 hn1 hg hsub hq hI1
          by_cases hcp : cap = p
          · have hbsx : ∀ wx, Below w.heap.size w wx → Bs wx (some ⟨g, 0, none⟩) (s.l.take k) := fun wx hb => by have h7 := HBS.out wx hb; rwa [if_pos hcp] at h7
            have HBX := hide hbsx
            clear hbsx
            obtain rfl : k = 0 := by omega
            obtain rfl : q = p := by omega
            subst hcp
            have hw0 : IntKind.i64.wrap (cap : Int) = (cap : Int) := wrapI (by omega) (by omega)
            have hsb : cap - cap = 0 := by omega
            clear hadd hsub2
            go_enter Try.func52, Try.ntmps52
            go_wp2_with fail
            refine LF.out.mono ?_
            rintro e w1 ⟨rfl, hb1⟩
            have H1 := hide (H.out.keep hb1)
            have g0 := H1.out.c0
            have g1 := H1.out.c1
            have CB := hide (CopyBytes_any w1.drew (some ⟨g, 0, none⟩) 0 0 (s.l.take 0) (HBX.out _ hb1.drew) hlk.symm (by rw [hlk]; omega))
            have HB1 := hide hb1
            clear hb1 c0 c1
            go_wp2
            go_region_held3 (fun w' => w'.cell? ⟨b, 0, none⟩ = some (.slice (some ⟨g, 0, none⟩) full.length cap) ∧ w'.cell? ⟨b, 1, none⟩ = some (.int .i64 (cap : Int)))
              (first | exact ⟨g0, g1⟩ | exact ⟨H2.out.c0, H2.out.c1⟩)
              (first | (go_at_call 31; refine CB.out.mono ?_; rintro e w2 ⟨a2, cap2, rfl, hR2, hN2, hb2⟩; have H2 := hide (H1.out.keep (bt (Below.refl _ _).drew hb2)); have HR2 := hide hR2; have HN2 := hide hN2; have HB2 := hide hb2; clear hR2 hN2 hb2))
            have k1 := H2.out.c1
            have f1 := H2.out.f 1
            go_wp2
            go_ret
            have hNN : New w none a2 := HN2.out.mono HB1.out.size
            refine ⟨a2, cap2, rfl, HR2.out.but (But.cell1 _ _ _ _) (fun x hx e => ?_), hNN, DidQ.pre (bt HB1.out (bt (Below.refl _ _).drew HB2.out)) ⟨⟨cap, ?_, ?_⟩, But.cell1 _ _ _ _⟩⟩
            · rcases hNN x hx with ⟨y, hy, _⟩ | h
              · cases hy
              · have := H.out.lt; omega
            · have h7 := H2.out.setP (p' := cap) HK.out
              rw [HE.out] at h7
              exact h7
            · dsimp only
              rw [HL.out, List.drop_zero]
          · have hbsx : ∀ wx, Below w.heap.size w wx → Bs wx (some ⟨g, p, none⟩) (s.l.take k) := fun wx hb => by have h7 := HBS.out wx hb; rw [if_neg hcp] at h7; simpa using h7
            have HBX := hide hbsx
            clear hbsx
            go_enter Try.func52, Try.ntmps52
            go_wp2_with fail
            refine LF.out.mono ?_
            rintro e w1 ⟨rfl, hb1⟩
            have H1 := hide (H.out.keep hb1)
            have g0 := H1.out.c0
            have g1 := H1.out.c1
            have CB := hide (CopyBytes_any w1.drew (some ⟨g, p, none⟩) k (cap - p) (s.l.take k) (HBX.out _ hb1.drew) hlk.symm (by rw [hlk]; omega))
            have HB1 := hide hb1
            clear hb1 c0 c1
            go_wp2
            go_region_held3 (fun w' => w'.cell? ⟨b, 0, none⟩ = some (.slice (some ⟨g, 0, none⟩) full.length cap) ∧ w'.cell? ⟨b, 1, none⟩ = some (.int .i64 (p : Int)))
              (first | exact ⟨g0, g1⟩ | exact ⟨H2.out.c0, H2.out.c1⟩)
              (first | (go_at_call 31; refine CB.out.mono ?_; rintro e w2 ⟨a2, cap2, rfl, hR2, hN2, hb2⟩; have H2 := hide (H1.out.keep (bt (Below.refl _ _).drew hb2)); have HR2 := hide hR2; have HN2 := hide hN2; have HB2 := hide hb2; clear hR2 hN2 hb2))
            have k1 := H2.out.c1
            have f1 := H2.out.f 1
            go_wp2
            go_ret
            have hNN : New w none a2 := HN2.out.mono HB1.out.size
            refine ⟨a2, cap2, rfl, HR2.out.but (But.cell1 _ _ _ _) (fun x hx e => ?_), hNN, DidQ.pre (bt HB1.out (bt (Below.refl _ _).drew HB2.out)) ⟨⟨q, ?_, ?_⟩, But.cell1 _ _ _ _⟩⟩
            · rcases hNN x hx with ⟨y, hy, _⟩ | h
              · cases hy
              · have := H.out.lt; omega
            · have h7 := H2.out.setP (p' := q) HK.out
              rw [HE.out] at h7
              exact h7
            · dsimp only
              rw [HL.out, List.drop_drop, HQ.out]
  · have hr : s.raw n = ([], ⟨s.l, s.e⟩) := by
      have hf : s.fail n = s.e := by unfold RS.fail; rw [if_pos he]
      unfold RS.raw; rw [hf, if_pos he]
    rw [hr]
    have hz : (((s.e : Nat) : Int) == 0) = false := by simp; omega
    have hz2 : (((s.e : Nat) : Int) != 0) = true := by simp; omega
    clear he hr LF
    go_enter Try.func52, Try.ntmps52
    go_wp2
    go_ret
    exact ⟨none, 0, rfl, Rw.nil _, New.none _ _, ⟨p, H.out, HL.out⟩, But.refl _ _⟩
end Go.Proofs.Ytlkjpljfbmploaa
