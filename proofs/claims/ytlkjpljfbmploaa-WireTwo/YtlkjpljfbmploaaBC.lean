import Derived.Test.YtlkjpljfbmploaaBB
namespace Go.Proofs.Ytlkjpljfbmploaa
open Go.RowKit

/-- the bytes of the first fields -/
def cat (F : Nat → Fd) : Nat → List Nat
  | 0 => []
  | k + 1 => cat F k ++ (F k).bytes
def tot (F : Nat → Fd) (k : Nat) : Nat := (cat F k).length
theorem tot_succ (F : Nat → Fd) (k : Nat) : tot F (k + 1) = tot F k + (F k).size := by
  unfold tot
  rw [show cat F (k + 1) = cat F k ++ (F k).bytes from rfl, List.length_append, Fd.bytes_length]
theorem cat_pre (F : Nat → Fd) (j m : Nat) (h : j ≤ m) : ∃ t, cat F m = cat F j ++ t := by
  induction m with
  | zero => obtain rfl : j = 0 := by omega
            exact ⟨[], by simp⟩
  | succ m ih =>
    by_cases e : j = m + 1
    · subst e; exact ⟨[], by simp⟩
    · obtain ⟨t, ht⟩ := ih (by omega)
      exact ⟨t ++ (F m).bytes, by rw [show cat F (m + 1) = cat F m ++ (F m).bytes from rfl, ht, List.append_assoc]⟩
theorem tot_le (F : Nat → Fd) (j m : Nat) (h : j ≤ m) : tot F j ≤ tot F m := by
  obtain ⟨t, ht⟩ := cat_pre F j m h
  unfold tot
  rw [ht, List.length_append]
  omega
theorem dta (A B : List Nat) (nn : Nat) (h : A.length ≤ nn) : ((A ++ B).take nn).drop A.length = B.take (nn - A.length) := by
  rw [List.take_append, List.take_of_length_le h, List.drop_left]
/-- the next field lies within the bytes -/
theorem next_in (F : Nat → Fd) (j m nn : Nat) (z : List Nat) (hj : j < m) (h : tot F (j + 1) ≤ nn) : ((cat F m ++ z).take nn).drop (tot F j) = (F j).bytes ++ ((cat F m ++ z).take nn).drop (tot F (j + 1)) := by
  obtain ⟨t, ht⟩ := cat_pre F (j + 1) m hj
  have e : cat F m ++ z = cat F j ++ ((F j).bytes ++ (t ++ z)) := by rw [ht, show cat F (j + 1) = cat F j ++ (F j).bytes from rfl]; simp
  have e2 : cat F m ++ z = cat F (j + 1) ++ (t ++ z) := by rw [ht]; simp
  have hs := tot_succ F j
  have hbl := (F j).bytes_length
  have h1 : ((cat F m ++ z).take nn).drop (tot F j) = ((F j).bytes ++ (t ++ z)).take (nn - tot F j) := by rw [e]; exact dta _ _ nn (by show tot F j ≤ nn; omega)
  have h2 : ((cat F m ++ z).take nn).drop (tot F (j + 1)) = (t ++ z).take (nn - tot F (j + 1)) := by rw [e2]; exact dta _ _ nn h
  rw [h1, h2, List.take_append, List.take_of_length_le (by omega)]
  congr 2
  omega
theorem next_out (F : Nat → Fd) (j m nn : Nat) (hj : j < m) (h0 : tot F j ≤ nn) (h : nn < tot F (j + 1)) : ((cat F m).take nn).drop (tot F j) = (F j).bytes.take (nn - tot F j) := by
  obtain ⟨t, ht⟩ := cat_pre F (j + 1) m hj
  have e : cat F m = cat F j ++ ((F j).bytes ++ t) := by rw [ht, show cat F (j + 1) = cat F j ++ (F j).bytes from rfl]; simp
  have hs := tot_succ F j
  have hbl := (F j).bytes_length
  have h1 : ((cat F m).take nn).drop (tot F j) = ((F j).bytes ++ t).take (nn - tot F j) := by rw [e]; exact dta _ _ nn (by show tot F j ≤ nn; omega)
  rw [h1, List.take_append_of_le_length (by omega)]
/-- fields that came in -/
def FdsO (w : World) (af : Option Addr) (m : Nat) (F : Nat → Fd) : Prop := m = 0 ∨ ∃ bf off, af = some ⟨bf, off, none⟩ ∧ Fds w bf off m F
theorem belowOf {S : Nat → Prop} {w w1 w2 : World} (h : Below w.heap.size w w1) (k : But S w1 w2) (hS : ∀ x, S x → w.heap.size ≤ x) : Below w.heap.size w w2 :=
  ⟨k.os.trans h.os, k.tape.trans h.tape, k.output.trans h.output, Nat.le_trans h.size k.size, fun i hi => (k.block i (Nat.lt_of_lt_of_le hi h.size) (fun hs => by have := hS i hs; omega)).trans (h.block i hi)⟩
theorem FdAt.keep {w w' : World} {b o : Nat} {f : Fd} (h : FdAt w b o f) (hb : Below w.heap.size w w') : FdAt w' b o f := h.but (S := fun _ => False) (But.ofBelow hb) id
theorem Fd.ok.keep {w w' : World} {f : Fd} (h : f.ok w) (hb : Below w.heap.size w w') : f.ok w' := ⟨h.1, h.2.1, h.2.2.1.keep hb, h.2.2.2⟩
theorem Fds.keep {w w' : World} {b off m : Nat} {F : Nat → Fd} (h : Fds w b off m F) (hb : Below w.heap.size w w') : Fds w' b off m F := fun r hr => ⟨(h r hr).1.keep hb, (h r hr).2.keep hb⟩
/-- a field's bytes lie in old memory -/
theorem Fd.ok.old {w : World} {f : Fd} (h : f.ok w) {x : Addr} (hx : f.a = some x) (h0 : f.l ≠ []) : x.block < w.heap.size := by
  rcases h.2.2.1.2.2 with h' | ⟨q, o, e, hc⟩
  · exact absurd h' h0
  · rw [hx, Option.some.injEq] at e; subst e; exact block_lt_of_cell (hc 0 (List.length_pos_iff.2 h0))
theorem all_any (w : World) (b : Nat) (s : WS) (af : Option Addr) (m capf : Nat) (F : Nat → Fd) (w0 : World) (hF : FdsO w0 af m F) (hb0 : Below w0.heap.size w0 w) (hb : w0.heap.size ≤ b) (h : Wt 68 w b none 0 s) (hm : m ≤ 9223372036854775807) :
    Calls Try.prog 22 #[.pointer (some ⟨b, 0, none⟩), .slice af m capf] w fun x w' => x = .returned (.tuple #[]) ∧ Did 68 w w' b none (allS s F m) := by
  rcases hF with rfl | ⟨bf, off, rfl, hF⟩
  · exact all_none w b none 0 s af capf F h
  · by_cases h0 : m = 0
    · subst h0; exact all_none w b none 0 s _ capf F h
    · have hbf := block_lt_of_cell (hF 0 (by omega)).1.1
      refine all_some w b none 0 s bf off m capf F h (hF.keep hb0) hm ?_ ?_
      · rintro (e | ⟨x, hx, _⟩)
        · have : bf < w0.heap.size := hbf; omega
        · cases hx
      · intro r hr x hx h0
        have := (hF r hr).2.old hx h0
        rintro (e | ⟨y, hy, _⟩)
        · omega
        · cases hy

set_option maxRecDepth 100000 in
set_option maxHeartbeats 4000000 in
theorem short_any (w : World) (ab : Option Addr) (nn capb : Nat) (af : Option Addr) (m capf : Nat) (F : Nat → Fd) (w0 : World) (hF : FdsO w0 af m F) (hb0 : Below w0.heap.size w0 w) (hm : m ≤ 9223372036854775807) (hT : tot F m ≤ 4398046511104) (hsh : ∀ r, r < m → isSh (F r).kind = true → (F r).l.length ≤ 255)
    (hnn : nn ≤ tot F m) (hB : Bs w ab ((cat F m).take nn)) :
    Calls Try.prog 30 #[.slice ab nn capb, .slice af m capf] w fun x w' => x = .returned (.bool true) ∧ Below w.heap.size w w' := by
  have hlen : ((cat F m).take nn).length = nn := by rw [List.length_take]; exact Nat.min_eq_left hnn
  have NR := hide (NewReader_any w ab nn capb ((cat F m).take nn) hB hlen.symm (by omega))
  have HF := hide hF
  have HB0 := hide hb0
  have HSH := hide hsh
  clear hB hF hb0 hsh
  go_enter Try.func30, Try.ntmps30
  go_wp2_with fail
  refine NR.out.mono ?_
  rintro e w1 ⟨b, a, cap, rfl, hR, hbw, hNa, hb1⟩
  have HR := hide hR
  have HNA := hide hNa
  have HBW := hide hbw
  have HB1 := hide hb1
  clear hR hNa hbw hb1 NR
  go_wp2
  go_loopw [6, 7, 8, 9] (fun t lk i _ wx => ∃ (j : Nat) (aj : Option Addr) (cj : Nat) (s : RS), j ≤ m ∧ i = .int .i64 j ∧ t = .int .i64 (tot F j : Int) ∧ lk = .bool (decide (nn < tot F j)) ∧ (Rd wx b aj cj s ∧ Below w.heap.size w wx ∧ ((tot F j ≤ nn ∧ s = ⟨((cat F m).take nn).drop (tot F j), 0⟩) ∨ (nn < tot F j ∧ s.e = 2)))) (fun _ _ i _ _ => m - (intOf i).toNat)
  case atStart => exact ⟨0, a, cap, _, Nat.zero_le _, rfl, rfl, by simp [tot, cat], HR.out, HB1.out, .inl ⟨by simp [tot, cat], rfl⟩⟩
  case round =>
    obtain ⟨j, aj, cj, s, hj, rfl, rfl, rfl, hG⟩ := hrel
    have HG := hide hG
    clear hG
    by_cases hlt : j < m
    · have hi : (j : Int) < (m : Int) := by omega
      rcases HF.out with h0 | ⟨bf, off, rfl, hFF⟩
      · omega
      obtain ⟨hat, hok⟩ := hFF j hlt
      have hbel := bt HB0.out HG.out.2.1
      have hatx := hat.keep hbel
      have hokx := hok.keep hbel
      have hsz := tot_succ F j
      have htl := tot_le F (j + 1) m hlt
      have hshj := HSH.out j hlt
      have hbs : ∀ x, (F j).a = some x → (F j).l ≠ [] → x.block ≠ b := fun x hx h0 => by have h1 := hok.old hx h0; have h2 := HB0.out.size; have h3 := HBW.out; omega
      obtain ⟨e0, e1, e2, e3⟩ := id hatx
      have hadd : IntKind.i64.wrap ((tot F j : Int) + ((F j).size : Int)) = (tot F (j + 1) : Int) := by rw [wrapI (by omega) (by omega)]; omega
      have SZ := hide (size_any wr (F j) (by have := hok.2.2.2; omega))
      unfold Fd.cells at SZ
      by_cases hlk : nn < tot F (j + 1)
      · have NT : ∀ wx, Below wr.heap.size wr wx → Hid (Calls Try.prog 64 #[.pointer (some ⟨b, 0, none⟩), .agg (F j).cells] wx fun x w' => x = .returned (.bool true) ∧ DidR wx w' b aj ⟨s.l, 2⟩) := by
          intro wx hx
          refine nothing_any wx b aj cj s (F j) (HG.out.1.keep hx) ?_ (hokx.keep hx) hshj
          rcases HG.out.2.2 with ⟨h1, rfl⟩ | ⟨h1, h2⟩
          · refine .inr ⟨rfl, ?_, ?_⟩
            · dsimp only
              rw [next_out F j m nn hlt h1 hlk, List.length_take, Fd.bytes_length]
              omega
            · dsimp only
              rw [next_out F j m nn hlt h1 hlk, List.length_take, Fd.bytes_length, Nat.min_eq_left (by omega)]
          · exact .inl h2
        unfold Fd.cells at NT
        have hgt : (nn : Int) < (tot F (j + 1) : Int) := by omega
        by_cases hl0 : nn < tot F j
        · have hd0 : decide (nn < tot F j) = true := decide_eq_true hl0
          rw [hd0]
          clear hd0
          go_wp2_with fail
          refine SZ.out.mono ?_
          rintro e w2 ⟨rfl, hb2⟩
          obtain ⟨g0, g1, g2, g3⟩ := hatx.keep hb2
          have N2 := NT w2 hb2
          have HB2 := hide hb2
          clear e0 e1 e2 e3 hb2 SZ NT
          go_wp2_with fail
          refine N2.out.mono ?_
          rintro e w3 ⟨rfl, h3⟩
          obtain ⟨a3, c3, h3r, h3n, h3b⟩ := h3
          have E3 := hide (Err_any w3 b a3 c3 _ h3r)
          have H3 := hide h3r
          have H3B := hide h3b
          clear h3r h3n h3b g0 g1 g2 g3
          go_wp2_with fail
          refine E3.out.mono ?_
          rintro e w4 ⟨rfl, hw4⟩
          subst w4
          go_wp2
          go_roundw
          case rel => exact ⟨j + 1, a3, c3, ⟨s.l, 2⟩, by omega, by go_num, congrArg (Value.int IntKind.i64) (by omega), by simp [hlk], H3.out, belowOf (bt HG.out.2.1 HB2.out) H3B.out (fun x e => by rw [e]; exact HBW.out), .inr ⟨hlk, rfl⟩⟩
          case measure => simp [intOf]; omega
        · have hd0 : decide (nn < tot F j) = false := decide_eq_false hl0
          rw [hd0]
          clear hd0
          go_wp2_with fail
          refine SZ.out.mono ?_
          rintro e w2 ⟨rfl, hb2⟩
          obtain ⟨g0, g1, g2, g3⟩ := hatx.keep hb2
          have N2 := NT w2 hb2
          have HB2 := hide hb2
          clear e0 e1 e2 e3 hb2 SZ NT
          go_wp2_with fail
          refine N2.out.mono ?_
          rintro e w3 ⟨rfl, h3⟩
          obtain ⟨a3, c3, h3r, h3n, h3b⟩ := h3
          have E3 := hide (Err_any w3 b a3 c3 _ h3r)
          have H3 := hide h3r
          have H3B := hide h3b
          clear h3r h3n h3b g0 g1 g2 g3
          go_wp2_with fail
          refine E3.out.mono ?_
          rintro e w4 ⟨rfl, hw4⟩
          subst w4
          go_wp2
          go_roundw
          case rel => exact ⟨j + 1, a3, c3, ⟨s.l, 2⟩, by omega, by go_num, congrArg (Value.int IntKind.i64) (by omega), by simp [hlk], H3.out, belowOf (bt HG.out.2.1 HB2.out) H3B.out (fun x e => by rw [e]; exact HBW.out), .inr ⟨hlk, rfl⟩⟩
          case measure => simp [intOf]; omega
      · have hle : tot F (j + 1) ≤ nn := by omega
        have hs : s = ⟨((cat F m).take nn).drop (tot F j), 0⟩ := by
          rcases HG.out.2.2 with ⟨h1, h2⟩ | ⟨h1, h2⟩
          · exact h2
          · omega
        have hnext := next_in F j m nn [] hlt hle
        rw [List.append_nil] at hnext
        have BK : ∀ wx, Below wr.heap.size wr wx → Hid (Calls Try.prog 26 #[.pointer (some ⟨b, 0, none⟩), .agg (F j).cells] wx fun x w' => x = .returned (.bool true) ∧ DidR wx w' b aj ⟨((cat F m).take nn).drop (tot F (j + 1)), 0⟩) := by
          intro wx hx
          refine back_any wx b aj cj s (F j) _ (HG.out.1.keep hx) (by rw [hs]) (by rw [hs]; exact hnext) (hokx.keep hx) hbs hshj
        unfold Fd.cells at BK
        have hgt : ¬ (nn : Int) < (tot F (j + 1) : Int) := by omega
        have hd0 : decide (nn < tot F j) = false := decide_eq_false (by omega)
        rw [hd0]
        have HLE := hide hle
        clear hd0 hs hnext hlk hle
        go_wp2_with fail
        refine SZ.out.mono ?_
        rintro e w2 ⟨rfl, hb2⟩
        obtain ⟨g0, g1, g2, g3⟩ := hatx.keep hb2
        have N2 := BK w2 hb2
        have HB2 := hide hb2
        clear e0 e1 e2 e3 hb2 SZ BK
        go_wp2_with fail
        refine N2.out.mono ?_
        rintro e w3 ⟨rfl, h3⟩
        obtain ⟨a3, c3, h3r, h3n, h3b⟩ := h3
        have E3 := hide (Err_any w3 b a3 c3 _ h3r)
        have H3 := hide h3r
        have H3B := hide h3b
        clear h3r h3n h3b g0 g1 g2 g3
        go_wp2_with fail
        refine E3.out.mono ?_
        rintro e w4 ⟨rfl, hw4⟩
        subst w4
        go_wp2
        go_roundw
        case rel => exact ⟨j + 1, a3, c3, _, by omega, by go_num, congrArg (Value.int IntKind.i64) (by omega), (by have := HLE.out; simp; omega), H3.out, belowOf (bt HG.out.2.1 HB2.out) H3B.out (fun x e => by rw [e]; exact HBW.out), .inl ⟨HLE.out, rfl⟩⟩
        case measure => simp [intOf]; omega
    · obtain rfl : m = j := by omega
      have EN := hide (End_any wr b aj cj s HG.out.1)
      rcases HG.out.2.2 with ⟨h1, h2⟩ | ⟨h1, h2⟩
      · have hd0 : decide (nn < tot F m) = false := decide_eq_false (by omega)
        rw [hd0]
        have hfin : s.fin = 0 := by
          rw [h2]
          unfold RS.fin
          rw [if_neg (by simp), if_pos (by rw [List.length_drop, hlen]; omega)]
        rw [hfin] at EN
        clear hd0 h1 h2 hfin
        go_wp2_with fail
        refine EN.out.mono ?_
        rintro e w4 ⟨rfl, hw4⟩
        subst w4
        go_wp2
        go_ret
        exact ⟨rfl, HG.out.2.1⟩
      · have hd0 : decide (nn < tot F m) = true := decide_eq_true h1
        rw [hd0]
        have hfin : s.fin = 2 := by unfold RS.fin; rw [if_pos (by omega), h2]
        rw [hfin] at EN
        clear hd0 h1 h2 hfin
        go_wp2_with fail
        refine EN.out.mono ?_
        rintro e w4 ⟨rfl, hw4⟩
        subst w4
        go_wp2
        go_ret
        exact ⟨rfl, HG.out.2.1⟩
end Go.Proofs.Ytlkjpljfbmploaa
