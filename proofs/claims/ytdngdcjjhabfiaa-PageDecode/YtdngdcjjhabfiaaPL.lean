import Derived.Test.YtdngdcjjhabfiaaPK
import Derived.Test.YtdngdcjjhabfiaaPE
namespace Go.Proofs.Ytdngdcjjhabfiaa
open Go.RowKit

/-! ### tags -/
/-- a row of tags -/
def Tg (w : World) (g : Nat) (ts : List Int) : Prop := w.heap[g]? = some (.cells (ts.map fun t => Value.int .i64 t).toArray 3 (0, 0))
set_option maxHeartbeats 400000 in
theorem headParts_any (w : World) : Calls Try.prog 55 #[] w fun e w' => e = .returned (.slice (some ⟨w.heap.size, 0, none⟩) 4 4) ∧ w' = w.alloc (.cells #[.int .i64 0, .int .i64 1, .int .i64 2, .int .i64 3] 3) := by
  go_enter Try.func55, Try.ntmps55
  go_wp2
  go_ret
  exact ⟨rfl, rfl⟩
set_option maxHeartbeats 400000 in
theorem bodyParts_node (w : World) (k : Int) (hk : k = 1 ∨ k = 2) : Calls Try.prog 57 #[.int .i64 k] w fun e w' => e = .returned (.slice (some ⟨w.heap.size, 0, none⟩) 1 1) ∧ w' = w.alloc (.cells #[.int .i64 4] 3) := by
  rcases hk with rfl | rfl
  · go_enter Try.func57, Try.ntmps57
    go_wp2
    go_ret
    exact ⟨rfl, rfl⟩
  · go_enter Try.func57, Try.ntmps57
    go_wp2
    go_ret
    exact ⟨rfl, rfl⟩
set_option maxHeartbeats 400000 in
theorem bodyParts_blob (w : World) : Calls Try.prog 57 #[.int .i64 3] w fun e w' => e = .returned (.slice (some ⟨w.heap.size, 0, none⟩) 1 1) ∧ w' = w.alloc (.cells #[.int .i64 9] 3) := by
  go_enter Try.func57, Try.ntmps57
  go_wp2
  go_ret
  exact ⟨rfl, rfl⟩
set_option maxHeartbeats 400000 in
theorem bodyParts_none (w : World) (k : Int) (h1 : k ≠ 1) (h2 : k ≠ 2) (h3 : k ≠ 3) : Calls Try.prog 57 #[.int .i64 k] w fun e w' => e = .returned (.slice none 0 0) ∧ w' = w := by
  have h1' : (k == 1) = false := by simpa using h1
  have h2' : (k == 2) = false := by simpa using h2
  have h3' : (k == 3) = false := by simpa using h3
  go_enter Try.func57, Try.ntmps57
  go_wp2
  go_ret
  exact ⟨rfl, rfl⟩
set_option maxHeartbeats 400000 in
theorem itemParts_index (w : World) : Calls Try.prog 90 #[.int .i64 2] w fun e w' => e = .returned (.slice (some ⟨w.heap.size, 0, none⟩) 2 2) ∧ w' = w.alloc (.cells #[.int .i64 5, .int .i64 8] 3) := by
  go_enter Try.func90, Try.ntmps90
  go_wp2
  go_ret
  exact ⟨rfl, rfl⟩
set_option maxHeartbeats 400000 in
theorem itemParts_leaf (w : World) (k : Int) (h : k ≠ 2) : Calls Try.prog 90 #[.int .i64 k] w fun e w' => e = .returned (.slice (some ⟨w.heap.size, 0, none⟩) 3 3) ∧ w' = w.alloc (.cells #[.int .i64 5, .int .i64 6, .int .i64 7] 3) := by
  have h' : (k == 2) = false := by simpa using h
  go_enter Try.func90, Try.ntmps90
  go_wp2
  go_ret
  exact ⟨rfl, rfl⟩
theorem Bx.lt2 {w : World} {t : TypeId} {g : Nat} {cs : Array Value} (h : Bx w t g cs) : g < w.heap.size := (Array.getElem?_eq_some_iff.1 h).1
theorem bx2 (w : World) (t1 t2 : TypeId) (c1 c2 : Array Value) : Bx ((w.alloc (.cells c1 t1)).alloc (.cells c2 t2)) t1 w.heap.size c1 ∧ Bx ((w.alloc (.cells c1 t1)).alloc (.cells c2 t2)) t2 (w.heap.size + 1) c2 := by
  refine ⟨(Bx.new w t1 c1).keep (al _ _), ?_⟩
  have := Bx.new (w.alloc (.cells c1 t1)) t2 c2
  rwa [size_alloc] at this
set_option maxRecDepth 8000 in
set_option maxHeartbeats 3200000 in
theorem writeItem_index (v w : World) (G : Nat → Prop) (b : Nat) (l : List Nat) (x : Iv) (h : Wk v G w b l) (hG : Gl G w) (hx : Ii v x) (hf : Fits 2 x.it) (hl : l.length + (It.bytes 2 x.it).length ≤ 512) :
    Calls Try.prog 76 #[.pointer (some ⟨b, 0, none⟩), .int .i64 2, x.vl] w fun y w' => y = .returned (.tuple #[]) ∧ Dk v G w w' b (l ++ It.bytes 2 x.it) := by
  obtain ⟨h1, h2, h3, h4⟩ := hf.index rfl
  have hkey := hf.key
  obtain ⟨c, hc⟩ : ∃ c : Nat, x.child = c := ⟨x.child.toNat, by have : x.it.child = x.child := rfl; omega⟩
  have hc' : c ≤ 65536 := by have : x.it.child = x.child := rfl; omega
  have hby : It.bytes 2 x.it = (numB x.key.length 1 ++ x.key) ++ numB c 4 := by
    unfold It.bytes
    rw [if_neg (by decide)]
    show numB x.key.length 1 ++ x.key ++ numB x.child.toNat 4 = _
    rw [hc, Int.toNat_natCast]
  rw [hby] at hl ⊢
  have hl' : l.length + 1 + x.key.length + 4 ≤ 512 := by simp only [List.length_append, numB_length] at hl; omega
  have hk24 : x.key.length ≤ 24 := hkey
  have hcv : IntKind.u32.wrap (c : Int) = (c : Int) := by rw [IntKind.wrap_u32]; omega
  have HBK := hide hx.bk
  have hb2 := bt (al w (.cells x.cs 47)) (al (w.alloc (.cells x.cs 47)) (.cells #[.int .i64 5, .int .i64 8] 3))
  have HB2 := hide hb2
  obtain ⟨q1, q2⟩ := bx2 w 47 3 x.cs #[.int .i64 5, .int .i64 8]
  have IP := hide (itemParts_index (w.alloc (.cells x.cs 47)))
  rw [size_alloc] at IP
  have hsz : ((w.alloc (.cells x.cs 47)).alloc (.cells #[.int .i64 5, .int .i64 8] 3)).heap.size = w.heap.size + 2 := by rw [size_alloc, size_alloc]
  obtain ⟨G', hG'⟩ : ∃ G' : Nat → Prop, G' = fun k => G k ∨ k = w.heap.size ∨ k = w.heap.size + 1 := ⟨_, rfl⟩
  obtain ⟨w2, hw2⟩ : ∃ w2, (w.alloc (.cells x.cs 47)).alloc (.cells #[.int .i64 5, .int .i64 8] 3) = w2 := ⟨_, rfl⟩
  rw [hw2] at q1 q2 hb2 hsz HB2
  have D0 := hide (Dk.refl (h.more hb2 G' (by subst hG'; exact fun k hk => hk.elim .inl (fun h => .inr (by omega)))))
  have HGL : Hid (Gl G' w2) := by subst hG'; exact fun k hk => hk.elim (fun h => by have := hG k h; omega) (fun h => by omega)
  have HQ := hide (fun (w3 : World) (l' : List Nat) (hd : Dk v G' w2 w3 b l') => (⟨Bx.item (hd.box q1 (by subst hG'; exact .inr (.inl rfl))), Bx.cell (hd.box q2 (by subst hG'; exact .inr (.inr rfl))) 0 rfl, Bx.cell (hd.box q2 (by subst hG'; exact .inr (.inr rfl))) 1 rfl⟩ : _ ∧ w3.cell? ⟨w.heap.size + 1, 0, none⟩ = some (.int .i64 5) ∧ w3.cell? ⟨w.heap.size + 1, 1, none⟩ = some (.int .i64 8)))
  have HFIN := hide (fun (w3 : World) (l' : List Nat) (hd : Dk v G' w2 w3 b l') => hd.back (G := G) HB2.out (by subst hG'; exact fun k hk => .inl hk))
  clear h hx hf hby hl h1 h2 h3 h4 hkey hb2 hsz q1 q2 hG' hG
  obtain ⟨aK, cK, key, aV, cV, val, child, size⟩ := x
  simp only [Iv.cs, Iv.vl] at *
  subst hc
  go_enter Try.func76, Try.ntmps76
  go_wp2_with fail
  refine IP.out.mono ?_
  rintro y w3 ⟨rfl, hw3⟩
  rw [hw2] at hw3
  subst hw3
  clear hw2 IP
  obtain ⟨⟨c0, c1, c2, c3⟩, t0, t1⟩ := HQ.out _ _ D0.out
  go_wp2
  go_loopw [7, 11] (fun _ i wx => ∃ (k : Nat) (l' : List Nat), k ≤ 2 ∧ i = .int .i64 k ∧ (k = 0 ∧ l' = l ∨ k = 1 ∧ l' = l ++ (numB key.length 1 ++ key) ∨ k = 2 ∧ l' = l ++ (numB key.length 1 ++ key) ++ numB c 4) ∧ Dk v G' w3 wx b l') (fun _ i _ => 2 - (intOf i).toNat)
  case atStart => exact ⟨0, l, by decide, rfl, .inl ⟨rfl, rfl⟩, D0.out⟩
  case round =>
    clear D0 c0 c1 c2 c3 t0 t1
    obtain ⟨k, l', hk, rfl, hl2, hd⟩ := hrel
    have D0 := hide hd
    obtain ⟨⟨c0, c1, c2, c3⟩, t0, t1⟩ := HQ.out _ _ hd
    clear hd
    rcases hl2 with ⟨rfl, rfl⟩ | ⟨rfl, rfl⟩ | ⟨rfl, rfl⟩
    · go_wp2_with (go_at_call 91; refine (wShort D0.out.k (D0.out.gl HGL.out) aK key.length cK key HBK.out rfl hk24 (by omega)).mono ?_; rintro y w4 ⟨rfl, hd⟩; have D0 := hide (D0.out.trans hd); clear hd)
      go_roundw
      case rel => exact ⟨1, _, by decide, rfl, .inr (.inl ⟨rfl, rfl⟩), D0.out⟩
      case measure => decide
    · go_wp2_with (go_at_call 37; refine (wPut32 D0.out.k (D0.out.gl HGL.out) c (by omega) (by simp only [List.length_append, numB_length]; omega)).mono ?_; rintro y w4 ⟨rfl, hd⟩; have D0 := hide (D0.out.trans hd); clear hd)
      go_roundw
      case rel => exact ⟨2, _, by decide, rfl, .inr (.inr ⟨rfl, rfl⟩), D0.out⟩
      case measure => decide
    · go_wp2
      go_end0
      exact ⟨rfl, by rw [← List.append_assoc]; exact HFIN.out _ _ D0.out⟩
end Go.Proofs.Ytdngdcjjhabfiaa
