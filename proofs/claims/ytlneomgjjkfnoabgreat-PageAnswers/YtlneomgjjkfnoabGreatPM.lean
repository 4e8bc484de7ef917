import Derived.Test.YtlneomgjjkfnoabGreatPJX
import Derived.Test.YtlneomgjjkfnoabGreatPSF
import Derived.Test.YtlneomgjjkfnoabGreatPK
namespace Go.Proofs.YtlneomgjjkfnoabGreat
open Go.RowKit

/-! ### a row of bytes that grows, apart from v and from the blocks of G -/
structure Od (v : World) (G : Nat → Prop) (w w' : World) (a : Option Addr) (cap : Nat) (l : List Nat) : Prop where
  r : Rw w' a cap l
  b : Below v.heap.size v w'
  f : ∀ x, a = some x → v.heap.size ≤ x.block ∧ ¬ G x.block
  g : ∀ k, k < w.heap.size → G k → w'.heap[k]? = w.heap[k]?
  s : w.heap.size ≤ w'.heap.size
section
variable {v w w' w1 w2 w3 : World} {G : Nat → Prop} {a a' : Option Addr} {cap cap' : Nat} {l l' : List Nat}
theorem Od.gl (h : Od v G w w1 a cap l) (hG : Gl G w) : Gl G w1 := fun k hk => Nat.lt_of_lt_of_le (hG k hk) h.s
theorem Od.keep (h : Od v G w w1 a cap l) (hb : Below w1.heap.size w1 w2) : Od v G w w2 a cap l :=
  ⟨h.r.keep hb, bt h.b hb, h.f, fun i hi hg => (hb.block i (Nat.lt_of_lt_of_le hi h.s)).trans (h.g i hi hg), Nat.le_trans h.s hb.size⟩
theorem Od.grow (h : Od v G w w1 a cap l) (hG : Gl G w) (hR : Rw w2 a' cap' l') (hN : New w1 a a') (hg : w1.grownBy w2 (a.map Addr.block)) : Od v G w w2 a' cap' l' := by
  have hB : But (fun k => a.map Addr.block = some k) w1 w2 := (But.refl _ _).grown hg fun k hk _ => hk
  have hf : ∀ k, a.map Addr.block = some k → v.heap.size ≤ k ∧ ¬ G k := fun k hk => by
    obtain ⟨x, hx, e⟩ := map_some hk
    rw [← e]; exact h.f x hx
  refine ⟨hR, ((But.ofBelow (S := fun _ => False) h.b).trans hB fun x hx hk => by have := (hf x hk).1; omega).below fun _ _ h => h, fun x hx => ?_, fun k hk hg' => (hB.block k (Nat.lt_of_lt_of_le hk h.s) fun e => (hf k e).2 hg').trans (h.g k hk hg'), Nat.le_trans h.s hB.size⟩
  rcases hN x hx with ⟨y, hy, e⟩ | h4
  · rw [← e]; exact h.f y hy
  · have := h.b.size
    have := h.s
    exact ⟨by omega, fun hg' => by have := hG _ hg'; omega⟩
theorem Od.trans (h : Od v G w w1 a cap l) (k : Od v G w1 w2 a' cap' l') : Od v G w w2 a' cap' l' :=
  ⟨k.r, k.b, k.f, fun i hi hg => (k.g i (Nat.lt_of_lt_of_le hi h.s) hg).trans (h.g i hi hg), Nat.le_trans h.s k.s⟩
theorem Od.refl' (h : Od v G w w1 a cap l) : Od v G w1 w1 a cap l := ⟨h.r, h.b, h.f, fun _ _ _ => rfl, Nat.le_refl _⟩
theorem Od.box (h : Od v G w w1 a cap l) {g : Nat} {o : Obj} (hg : w.heap[g]? = some o) (hG : G g) : w1.heap[g]? = some o := (h.g g (Array.getElem?_eq_some_iff.1 hg).1 hG).trans hg
/-- other blocks are watched -/
theorem Od.more (h : Od v G w w1 a cap l) (hb : Below w1.heap.size w1 w2) (G' : Nat → Prop) (hg : ∀ k, G' k → G k ∨ w1.heap.size ≤ k) : Od v G' w2 w2 a cap l :=
  ⟨h.r.keep hb, bt h.b hb, fun x hx => ⟨(h.f x hx).1, fun hg' => by
    rcases hg _ hg' with h1 | h1
    · exact (h.f x hx).2 h1
    · have := h.r.lt hx; omega⟩, fun _ _ _ => rfl, Nat.le_refl _⟩
theorem Od.back {w0 : World} {G' : Nat → Prop} (h0 : Od v G w w0 a cap l) (hb : Below w0.heap.size w0 w1) (h : Od v G' w1 w2 a' cap' l') (hG : ∀ k, G k → G' k) : Od v G w w2 a' cap' l' :=
  ⟨h.r, h.b, fun x hx => ⟨(h.f x hx).1, fun hg => (h.f x hx).2 (hG _ hg)⟩, fun k hk hg => (h.g k (by have := h0.s; have := hb.size; omega) (hG k hg)).trans ((hb.block k (by have := h0.s; omega)).trans (h0.g k hk hg)), Nat.le_trans h0.s (Nat.le_trans hb.size h.s)⟩
theorem Od.own (h : Od v G w w1 a cap l) : Own v w1 a cap l := ⟨h.r, fun x hx => .inr (h.f x hx).1, h.b⟩
end
theorem Od.first {v w : World} {a : Option Addr} {cap : Nat} {l : List Nat} (h : Own v w a cap l) : Od v (fun _ => False) w w a cap l := ⟨h.r, h.b, fun _ hx => ⟨h.fresh hx, id⟩, fun _ _ h => h.elim, Nat.le_refl _⟩

theorem quo256 (x j : Nat) : (((x / 256 ^ j : Nat) : Int)).tdiv 256 = ((x / 256 ^ (j + 1) : Nat) : Int) := by
  rw [← div_step, show ((256 : Int)) = ((256 : Nat) : Int) from rfl]; rfl
theorem rem256 (y : Nat) : ((y : Nat) : Int).tmod 256 = ((y % 256 : Nat) : Int) := by
  rw [show ((256 : Int)) = ((256 : Nat) : Int) from rfl]; rfl
theorem wnat {x : Nat} (h : x < 9223372036854775808) : wrap64 (x : Int) = (x : Int) := by unfold wrap64; omega
set_option maxHeartbeats 1600000 in
theorem low_any (v w : World) (G : Nat → Prop) (a : Option Addr) (n cap : Nat) (l : List Nat) (x k : Nat) (h : Od v G w w a cap l) (hG : Gl G w) (hn : n = l.length) (hx : x < 9223372036854775808) (hk : k ≤ 8) (hl : l.length ≤ 4096) :
    Calls Tryz.prog 76 #[.slice a n cap, .int .i64 (x : Int), .int .i64 (k : Int)] w fun e w' => ∃ a' c', e = .returned (.slice a' (l.length + k) c') ∧ Od v G w w' a' c' (l ++ numB x k) := by
  subst hn
  have H := hide h
  have HG := hide hG
  have HLN := hide (numB_length x k)
  clear h hG
  go_enter Tryz.func76, Tryz.ntmps76
  go_wp2
  go_loopw [0, 1, 7] (fun o y i wx => ∃ (j : Nat) (aj : Option Addr) (cj : Nat), j ≤ k ∧ i = .int .i64 j ∧ y = .int .i64 ((x / 256 ^ j : Nat) : Int) ∧ o = .slice aj (l.length + j) cj ∧ Od v G w wx aj cj (l ++ (numB x k).take j)) (fun _ _ i _ => k - (intOf i).toNat)
  case atStart => exact ⟨0, a, cap, Nat.zero_le _, rfl, by simp, rfl, by simpa using H.out⟩
  case round =>
    obtain ⟨j, aj, cj, hj, rfl, rfl, rfl, hO⟩ := hrel
    have HO := hide hO
    clear hO
    by_cases hlt : j < k
    · have hlti : (j : Int) < (k : Int) := by omega
      have hj1 := w64 (j := j) (by omega)
      have e1 := quo256 x j
      have HGT := hide (numB_get x k j hlt)
      have hy : x / 256 ^ j < 9223372036854775808 := Nat.lt_of_le_of_lt (Nat.div_le_self _ _) hx
      have e2 := rem256 (x / 256 ^ j)
      generalize x / 256 ^ j = y at *
      have e3 : IntKind.u8.wrap ((y % 256 : Nat) : Int) = ((y % 256 : Nat) : Int) := by rw [IntKind.wrap_u8']; omega
      have hyl : y % 256 < 256 := by omega
      have hy2 : x / 256 ^ (j + 1) < 9223372036854775808 := Nat.lt_of_le_of_lt (Nat.div_le_self _ _) hx
      generalize hy2e : x / 256 ^ (j + 1) = y2 at *
      have HY2 := hide hy2e
      have e4 := wnat (x := y2) hy2
      clear hy2e
      generalize y % 256 = z at *
      have HS : Hid (l ++ (numB x k).take j ++ [(numB x k).getD j 0] = l ++ (numB x k).take (j + 1)) := by show _ = _; rw [List.append_assoc, take_snoc _ (by have := HLN.out; omega)]
      rw [HGT.out] at HS
      have hz : (l ++ (numB x k).take j).length = l.length + j := by have := HLN.out; simp only [List.length_append, List.length_take]; omega
      generalize l ++ (numB x k).take j = L at *
      go_wp2_with (at_builtin; refine wpList_ap1 rfl _ _ rfl aj (l.length + j) cj L rfl hz.symm (HO.out.r.keep ((Below.refl _ _).alloc (Nat.le_refl _) _)) ⟨wr.heap.size, 0, none⟩ 1 z rfl ?c1 (by omega) ?_)
      try case c1 => simp
      intro g c2 w2 hR hN hg hlt2
      have H2 := hide ((HO.out.keep (al wr _)).grow HG.out hR hN hg)
      rw [HS.out] at H2
      clear hR hN hg
      go_wp2
      go_roundw
      case rel => exact ⟨j + 1, _, c2, by omega, by first | (go_num; done) | exact congrArg (Value.int IntKind.i64) (by omega), by rw [HY2.out], rfl, H2.out⟩
      case measure => first | exact meas_up _ _ _ hj1 hlt | exact meas_up _ _ _ rfl hlt | (simp [intOf]; omega)
    · obtain rfl : j = k := by omega
      go_wp2
      go_ret
      exact ⟨aj, cj, rfl, by have := HO.out; rw [List.take_of_length_le (by have := HLN.out; omega)] at this; exact this⟩
end Go.Proofs.YtlneomgjjkfnoabGreat
