import Derived.Test.YtkhdbeambmfdfaaY1
import Derived.Test.YtkhdbeambmfdfaaY2
import Derived.Deep.RegionHeld3
import Derived.Deep.DrawnRows
namespace Go.Proofs.Ytkhdbeambmfdfaa
open Go.RowKit
attribute [local go_sem ↓] Go.wp_at_zero Go.wp_at_succ

/-- a call in memory, from a place on -/
abbrev OpAt (w : World) (b o : Nat) (kind : Int) (s t : Nat) (n : Int) (a : Option Addr) (len c : Nat) : Prop :=
  w.cell? ⟨b, o, none⟩ = some (.int .i64 kind) ∧ w.cell? ⟨b, o + 1, none⟩ = some (.int .u32 s) ∧ w.cell? ⟨b, o + 2, none⟩ = some (.int .u32 t) ∧ w.cell? ⟨b, o + 3, none⟩ = some (.int .i64 n) ∧ w.cell? ⟨b, o + 4, none⟩ = some (.slice a len c)
theorem OpAt.keep {w w' : World} {b o : Nat} {kind : Int} {s t : Nat} {n : Int} {a : Option Addr} {len c : Nat} (h : OpAt w b o kind s t n a len c) (hb : Below w.heap.size w w') : OpAt w' b o kind s t n a len c := by
  obtain ⟨h0, h1, h2, h3, h4⟩ := h
  have hk := block_lt_of_cell h0
  exact ⟨(hb.cell (p := ⟨b, o, none⟩) hk).trans h0, (hb.cell (p := ⟨b, o + 1, none⟩) hk).trans h1, (hb.cell (p := ⟨b, o + 2, none⟩) hk).trans h2, (hb.cell (p := ⟨b, o + 3, none⟩) hk).trans h3, (hb.cell (p := ⟨b, o + 4, none⟩) hk).trans h4⟩
abbrev OpC (w : World) (b : Nat) (kind : Int) (s t : Nat) (n : Int) (a : Option Addr) (len c : Nat) : Prop :=
  w.cell? ⟨b, 0, none⟩ = some (.int .i64 kind) ∧ w.cell? ⟨b, 1, none⟩ = some (.int .u32 s) ∧ w.cell? ⟨b, 2, none⟩ = some (.int .u32 t) ∧ w.cell? ⟨b, 3, none⟩ = some (.int .i64 n) ∧ w.cell? ⟨b, 4, none⟩ = some (.slice a len c)
theorem OpC.keep {w w' : World} {b : Nat} {kind : Int} {s t : Nat} {n : Int} {a : Option Addr} {len c : Nat} (h : OpC w b kind s t n a len c) (hb : Below w.heap.size w w') : OpC w' b kind s t n a len c := by
  obtain ⟨h0, h1, h2, h3, h4⟩ := h
  have hk := block_lt_of_cell h0
  exact ⟨(hb.cell (p := ⟨b, 0, none⟩) hk).trans h0, (hb.cell (p := ⟨b, 1, none⟩) hk).trans h1, (hb.cell (p := ⟨b, 2, none⟩) hk).trans h2, (hb.cell (p := ⟨b, 3, none⟩) hk).trans h3, (hb.cell (p := ⟨b, 4, none⟩) hk).trans h4⟩
theorem OpC.other {w : World} {b : Nat} {kind : Int} {s t : Nat} {n : Int} {a : Option Addr} {len c : Nat} (h : OpC w b kind s t n a len c) (p : Addr) (v : Value) (hne : b ≠ p.block) : OpC (w.setCell p v) b kind s t n a len c := by
  obtain ⟨h0, h1, h2, h3, h4⟩ := h
  have hk : ∀ q : Addr, q.block = b → (w.setCell p v).cell? q = w.cell? q := fun q hq => World.cell?_of_block (w := w) (heap_setCell_other w p q.block v (by rw [hq]; exact hne))
  exact ⟨(hk _ rfl).trans h0, (hk _ rfl).trans h1, (hk _ rfl).trans h2, (hk _ rfl).trans h3, (hk _ rfl).trans h4⟩
theorem OpC.row {w : World} {b : Nat} {kind : Int} {s t : Nat} {n : Int} {a : Option Addr} {len c : Nat} {ty : TypeId} {fr : Nat × Nat} (h : w.heap[b]? = some (.cells #[.int .i64 kind, .int .u32 s, .int .u32 t, .int .i64 n, .slice a len c] ty fr)) : OpC w b kind s t n a len c := by
  refine ⟨?_, ?_, ?_, ?_, ?_⟩ <;> (rw [cell_of_row _ _ _ _ _ _ h]; rfl)
theorem ops_keep {w W W' : World} {b : Nat} {kind : Int} {s t : Nat} {n : Int} {a : Option Addr} {len c : Nat} (hb : Below W.heap.size W W') (h : OpC W b kind s t n a len c ∧ Below w.heap.size w W) :
    OpC W' b kind s t n a len c ∧ Below w.heap.size w W' := ⟨h.1.keep hb, bt h.2 hb⟩
/-- a script that came in -/
def OpsAt (w : World) (b off m : Nat) (K : Nat → Int) (S T : Nat → Nat) (N : Nat → Int) (A : Nat → Option Addr) (C : Nat → Nat) (Ls : Nat → List Nat) : Prop :=
  ∀ r, r < m → OpAt w b (off + r * 5) (K r) (S r) (T r) (N r) (A r) (Ls r).length (C r) ∧ S r < 4294967296 ∧ T r < 4294967296 ∧ N r ≤ 9223372036854775807 ∧ Bs w (A r) (Ls r) ∧ (Ls r).length + 40 ≤ 140737488355328

theorem set_lt8 {c : List Nat} {i v : Nat} (hc : ∀ x ∈ c, x < 256) (hv : v < 256) : ∀ x ∈ c.set i v, x < 256 := fun x hx => by
  rcases List.mem_or_eq_of_mem_set hx with h | h
  · exact hc x h
  · omega
theorem list_eq {a b : List Nat} (hl : a.length = b.length) (h : ∀ r, r < a.length → a.getD r 0 = b.getD r 0) : a = b := by
  apply List.ext_getElem hl
  intro i h1 h2
  have h3 := h i h1
  rw [getD_at a h1, getD_at b h2] at h3
  exact h3
theorem turn8 (x j : Nat) (hx : x < 256) : ∃ v : Nat, bits .xor .u8 (x : Int) (((j : Int) * 37 + 1) % 256) = (v : Int) ∧ v < 256 := by
  refine ⟨x ^^^ ((j * 37 + 1) % 256), ?_, Nat.xor_lt_two_pow (n := 8) hx (Nat.mod_lt _ (by decide))⟩
  have h := u8_xor_nat x ((j * 37 + 1) % 256) hx (Nat.mod_lt _ (by decide))
  rw [← h]
  congr 1

set_option maxRecDepth 100000 in
set_option maxHeartbeats 4000000 in
theorem answers_some (b off m cap : Nat) (K : Nat → Int) (S T : Nat → Nat) (N : Nat → Int) (A : Nat → Option Addr) (C : Nat → Nat) (Ls : Nat → List Nat) (w : World) (hP : OpsAt w b off m K S T N A C Ls) (hm : m ≤ 9223372036854775807) :
    Calls Try.prog 3 #[.slice (some ⟨b, off, none⟩) m cap] w fun e w' => e = .returned (.bool true) ∧ Below w.heap.size w w' := by
  go_enter Try.func3, Try.ntmps3
  go_wp2_with fail
  refine (fixed_any _).mono ?_
  rintro e w1 ⟨rfl, hb1⟩
  go_wp2
  go_loopw [3] (fun i wx => ∃ k : Nat, k ≤ m ∧ i = .int .i64 k ∧ Below w.heap.size w wx) (fun i _ => m - (intOf i).toNat)
  case atStart => exact ⟨0, Nat.zero_le _, rfl, hb1⟩
  case round =>
    clear hb1
    obtain ⟨k, hk, rfl, hbel⟩ := hrel
    by_cases hlt : k < m
    · obtain ⟨hop, hs, ht, hn, hB, hlen⟩ := hP k hlt
      have hop1 := hop.keep hbel
      have hB1 := hB.keep hbel
      clear hop
      generalize K k = kind at *
      generalize S k = s at *
      generalize T k = t at *
      generalize N k = n at *
      generalize A k = ao at *
      generalize C k = co at *
      generalize Ls k = l at *
      obtain ⟨c0, c1, c2, c3, c4⟩ := hop1
      go_wp2_with fail
      have hW0 := OpC.row (heap_alloc_new wr (.cells #[.int .i64 kind, .int .u32 s, .int .u32 t, .int .i64 n, .slice ao l.length co] 27))
      have hW0b := (Below.refl _ wr).alloc (Nat.le_refl _) (.cells #[.int .i64 kind, .int .u32 s, .int .u32 t, .int .i64 n, .slice ao l.length co] 27)
      refine (roomy_any ao l.length co l _ (hB1.keep hW0b) rfl hlen).mono ?_
      rintro e w2 ⟨g, cg, rfl, hcg, hcm, hgg, hO, hb2⟩
      have hop2 := hW0.keep hb2
      have hB2 := (hB1.keep hW0b).keep hb2
      have bel2 := bt (bt hbel hW0b) hb2
      have hgw : wr.heap.size < g := by rw [size_alloc] at hgg; omega
      have hBl2 : Bs w2 (some ⟨g, 0, none⟩) l := hO.front.bs hB1.1 (by omega)
      have HA := hide fun W (h : Bs W (some ⟨g, 0, none⟩) l) => asked_any kind s t n ao l.length co (some ⟨g, 0, none⟩) l.length cg l W hs ht hn h rfl
      have HT := hide fun W (h : Bs W ao l) => told_any kind s t n ao l.length co ao l.length co l W hs ht hn h rfl
      have HU := hide fun W (h : OwnB W g (l ++ marks)) (h' : Bs W ao l) => untouched_any g cg ao l.length l.length co l W h hcg hcm h' rfl rfl
      have HLs := hide hlen
      have Hw := hide hbel
      generalize ans kind s t n l = y at HA HT
      clear hW0 hW0b hb2 hgg hbel c0 c1 c2 c3 c4 hB1 hlen
      go_wp2_with fail
      go_region_held3 (fun w' => (w'.cell? ⟨wr.heap.size, 0, none⟩ = some (.int .i64 kind) ∧ w'.cell? ⟨wr.heap.size, 1, none⟩ = some (.int .u32 s) ∧ w'.cell? ⟨wr.heap.size, 2, none⟩ = some (.int .u32 t) ∧ w'.cell? ⟨wr.heap.size, 3, none⟩ = some (.int .i64 n) ∧ w'.cell? ⟨wr.heap.size, 4, none⟩ = some (.slice ao l.length co)) ∧ Below w.heap.size w w')
        (first | exact ⟨hop2, bel2.drew⟩ | (refine ops_keep hb5 ?_; assumption) | (refine ops_keep hb4 ?_; assumption) | (refine ops_keep hb3 ?_; assumption))
        (first | (go_at_call 11; refine (HA.out _ ?_).mono ?_; exact hBl2; rintro e w3 ⟨rfl, hb3⟩) | (go_at_call 12; refine (HT.out _ ?_).mono ?_; exact (Bs.keep (w := w2.drew) hB2 hb3); rintro e w4 ⟨rfl, hb4⟩) | (go_at_call 13; refine (HU.out _ ?_ ?_).mono ?_; exact ((OwnB.keep (w := w2.drew) hO hb3).keep hb4); exact ((Bs.keep (w := w2.drew) hB2 hb3).keep hb4); rintro e w5 ⟨rfl, hb5⟩))
      have hop5 := ((OpC.keep (w := w2.drew) hop2 hb3).keep hb4).keep hb5
      have hB5 := ((Bs.keep (w := w2.drew) hB2 hb3).keep hb4).keep hb5
      have hO5 := ((OwnB.keep (w := w2.drew) hO hb3).keep hb4).keep hb5
      have bel5 := bt (bt (bt bel2.drew hb3) hb4) hb5
      clear hop2 hB2 hBl2 hO bel2 hb3 hb4 hb5 HA HT HU
      obtain ⟨d0, d1, d2, d3, d4⟩ := hop5
      go_wp2_with fail
      refine (joined_row ao l.length co l _ hB5 rfl (by have := HLs.out; omega)).mono ?_
      rintro e w6 ⟨go, cgo, cur, rfl, hgo, hh, hn1, hm1, hs1, ht1, hb6⟩
      have hop6 := OpC.keep ⟨d0, d1, d2, d3, d4⟩ hb6
      have hO6 := (hO5.keep hb6).front
      have hQ6 := ownB_row hh ht1
      have bel6 := bt bel5 hb6
      have hne : g ≠ go := by have := hO5.lt; omega
      have hnb : wr.heap.size ≠ g := by omega
      have hnb2 : wr.heap.size ≠ go := by have := hO5.lt; omega
      have hwg : w.heap.size ≤ g := by have := Hw.out.size; omega
      have hwgo : w.heap.size ≤ go := by have := bel5.size; omega
      have h8 := hB5.1
      have hlb : l.length ≤ 140737488355328 := by have := HLs.out; omega
      clear d0 d1 d2 d3 d4 hB5 hO5 bel5 hb6 hh ht1 hs1 hgo HLs Hw hgw
      generalize wr.heap.size = ob at *
      go_wp2
      go_loopw [7] (fun i wx => ∃ (j : Nat) (c d : List Nat), j ≤ l.length ∧ i = .int .i64 j ∧ c.length = l.length ∧ d.length = l.length ∧ (∀ x ∈ c, x < 256) ∧ OwnB wx go c ∧ OwnB wx g d ∧ (∀ r, r < j → d.getD r 0 = c.getD r 0) ∧ OpC wx ob kind s t n ao l.length co ∧ Below w.heap.size w wx) (fun i _ => l.length - (intOf i).toNat)
      case atStart => exact ⟨0, l, l, Nat.zero_le _, rfl, rfl, rfl, h8, hQ6, hO6, fun r hr => absurd hr (Nat.not_lt_zero _), hop6, bel6⟩
      case round =>
        clear hQ6 hO6 hop6 bel6
        obtain ⟨j, c, d, hj, rfl, hcl, hdl, hc8, hQ, hD, heq, hop, hbel⟩ := hrel
        have Hcl := hide hcl
        have Hdl := hide hdl
        have Heq := hide heq
        clear hcl hdl heq
        by_cases hlt : j < l.length
        · have hjc : j < c.length := by rw [Hcl.out]; exact hlt
          have hjd : j < d.length := by rw [Hdl.out]; exact hlt
          have q1 := hQ.cell hjc
          have q2 := hQ.frozen j
          have q3 := hD.cell hjd
          have q4 := hD.frozen j
          have hx8 : c.getD j 0 < 256 := by rw [getD_at c hjc]; exact hc8 _ (List.getElem_mem _)
          obtain ⟨v, e1, hv8⟩ := turn8 (c.getD j 0) j hx8
          have f1 := hQ.set hjc v
          have f2 := (hD.other ⟨go, j, none⟩ (.int .u8 ((v : Nat) : Int)) hne)
          have r1 := f2.cell hjd
          have r2 := f2.frozen j
          have r3 := f1.cell (i := j) (by rw [List.length_set]; exact hjc)
          rw [show (c.set j v).getD j 0 = v by simp [hjc]] at r3
          have F1 := hide f1
          have F2 := hide f2
          have Hop := hide hop
          have hjl : (j : Int) < (l.length : Int) := by omega
          have hlb2 : (l.length : Int) ≤ 140737488355328 := by omega
          have hci : (l.length : Int) ≤ (cg : Int) := by omega
          clear f1 f2 hop
          generalize d.getD j 0 = dj at *
          generalize c.getD j 0 = x at *
          go_wp2
          go_roundw
          case rel =>
            refine ⟨j + 1, c.set j v, d.set j v, by omega, by go_num, by rw [List.length_set]; exact Hcl.out, by rw [List.length_set]; exact Hdl.out, set_lt8 hc8 hv8, F1.out.other ⟨g, j, none⟩ _ (fun h => hne h.symm), F2.out.set hjd v, ?_, (Hop.out.other ⟨go, j, none⟩ _ hnb2).other ⟨g, j, none⟩ _ hnb, (hbel.setCell hwgo _).setCell hwg _⟩
            intro r hr
            by_cases e : j = r
            · subst e; simp [hjc, hjd]
            · have h := Heq.out r (by omega)
              unfold List.getD at h ⊢
              rw [List.getElem?_set_ne e, List.getElem?_set_ne e]
              exact h
          case measure => simp [intOf]; omega
        · obtain rfl : j = l.length := by omega
          have hdc : d = c := list_eq (by rw [Hcl.out, Hdl.out]) (fun r hr => Heq.out r (by rw [← Hdl.out]; exact hr))
          subst hdc
          have hlc : d.length ≤ 9223372036854775807 := by rw [Hdl.out]; omega
          have hBg := hD.bs hc8 hlc
          have hBo := hQ.bs hc8 hlc
          have HA := hide fun W (h : Bs W (some ⟨g, 0, none⟩) d) => asked_any kind s t n ao l.length co (some ⟨g, 0, none⟩) l.length cg d W hs ht hn h Hdl.out.symm
          have HT := hide fun W (h : Bs W (some ⟨go, 0, none⟩) d) => told_any kind s t n ao l.length co (some ⟨go, 0, none⟩) l.length cgo d W hs ht hn h Hdl.out.symm
          generalize ans kind s t n d = y2 at HA HT
          clear hQ hD Heq Hcl hj hlt
          go_wp2_with fail
          go_region_held3 (fun w' => (w'.cell? ⟨ob, 0, none⟩ = some (.int .i64 kind) ∧ w'.cell? ⟨ob, 1, none⟩ = some (.int .u32 s) ∧ w'.cell? ⟨ob, 2, none⟩ = some (.int .u32 t) ∧ w'.cell? ⟨ob, 3, none⟩ = some (.int .i64 n) ∧ w'.cell? ⟨ob, 4, none⟩ = some (.slice ao l.length co)) ∧ Below w.heap.size w w')
            (first | exact ⟨hop, hbel.drew⟩ | (refine ops_keep hb4 ?_; assumption) | (refine ops_keep hb3 ?_; assumption))
            (first | (go_at_call 11; refine (HA.out _ ?_).mono ?_; exact hBg; rintro e w3 ⟨rfl, hb3⟩) | (go_at_call 12; refine (HT.out _ ?_).mono ?_; exact (Bs.keep (w := wr.drew) hBo hb3); rintro e w4 ⟨rfl, hb4⟩))
          have bel4 := bt (bt hbel.drew hb3) hb4
          clear hop hbel hb3 hb4 hBg hBo HA HT
          go_wp2
          go_roundw
          case rel => exact ⟨k + 1, by omega, by go_num, bel4⟩
          case measure => simp [intOf]; omega
    · obtain rfl : k = m := by omega
      go_wp2
      go_ret
      exact ⟨rfl, hbel⟩
end Go.Proofs.Ytkhdbeambmfdfaa
