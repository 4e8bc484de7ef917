import Derived.Test.YtlneomgjjkfnoabGreatPK
import Derived.Test.YtlneomgjjkfnoabGreatPEX
import Derived.Test.YtlneomgjjkfnoabGreatPMX
namespace Go.Proofs.YtlneomgjjkfnoabGreat
open Go.RowKit

/-! ### tags -/
/-- a row of tags -/
def Tg (w : World) (g : Nat) (ts : List Int) : Prop := w.heap[g]? = some (.cells (ts.map fun t => Value.int .i64 t).toArray 3 (0, 0))
set_option maxHeartbeats 400000 in
theorem headParts_any (w : World) : Calls Tryz.prog 57 #[] w fun e w' => e = .returned (.slice (some ⟨w.heap.size, 0, none⟩) 4 4) ∧ w' = w.alloc (.cells #[.int .i64 0, .int .i64 1, .int .i64 2, .int .i64 3] 3) := by
  go_enter Tryz.func57, Tryz.ntmps57
  go_wp2
  go_ret
  exact ⟨rfl, rfl⟩
set_option maxHeartbeats 400000 in
theorem bodyParts_node (w : World) (k : Int) (hk : k = 1 ∨ k = 2) : Calls Tryz.prog 59 #[.int .i64 k] w fun e w' => e = .returned (.slice (some ⟨w.heap.size, 0, none⟩) 1 1) ∧ w' = w.alloc (.cells #[.int .i64 4] 3) := by
  rcases hk with rfl | rfl
  · go_enter Tryz.func59, Tryz.ntmps59
    go_wp2
    go_ret
    exact ⟨rfl, rfl⟩
  · go_enter Tryz.func59, Tryz.ntmps59
    go_wp2
    go_ret
    exact ⟨rfl, rfl⟩
set_option maxHeartbeats 400000 in
theorem bodyParts_blob (w : World) : Calls Tryz.prog 59 #[.int .i64 3] w fun e w' => e = .returned (.slice (some ⟨w.heap.size, 0, none⟩) 1 1) ∧ w' = w.alloc (.cells #[.int .i64 9] 3) := by
  go_enter Tryz.func59, Tryz.ntmps59
  go_wp2
  go_ret
  exact ⟨rfl, rfl⟩
set_option maxHeartbeats 400000 in
theorem bodyParts_none (w : World) (k : Int) (h1 : k ≠ 1) (h2 : k ≠ 2) (h3 : k ≠ 3) : Calls Tryz.prog 59 #[.int .i64 k] w fun e w' => e = .returned (.slice none 0 0) ∧ w' = w := by
  have h1' : (k == 1) = false := by simpa using h1
  have h2' : (k == 2) = false := by simpa using h2
  have h3' : (k == 3) = false := by simpa using h3
  go_enter Tryz.func59, Tryz.ntmps59
  go_wp2
  go_ret
  exact ⟨rfl, rfl⟩
set_option maxHeartbeats 400000 in
theorem itemParts_index (w : World) : Calls Tryz.prog 100 #[.int .i64 2] w fun e w' => e = .returned (.slice (some ⟨w.heap.size, 0, none⟩) 2 2) ∧ w' = w.alloc (.cells #[.int .i64 5, .int .i64 8] 3) := by
  go_enter Tryz.func100, Tryz.ntmps100
  go_wp2
  go_ret
  exact ⟨rfl, rfl⟩
set_option maxHeartbeats 400000 in
theorem itemParts_leaf (w : World) (k : Int) (h : k ≠ 2) : Calls Tryz.prog 100 #[.int .i64 k] w fun e w' => e = .returned (.slice (some ⟨w.heap.size, 0, none⟩) 3 3) ∧ w' = w.alloc (.cells #[.int .i64 5, .int .i64 6, .int .i64 7] 3) := by
  have h' : (k == 2) = false := by simpa using h
  go_enter Tryz.func100, Tryz.ntmps100
  go_wp2
  go_ret
  exact ⟨rfl, rfl⟩
theorem Bx.lt2 {w : World} {t : TypeId} {g : Nat} {cs : Array Value} (h : Bx w t g cs) : g < w.heap.size := (Array.getElem?_eq_some_iff.1 h).1
theorem bx2 (w : World) (t1 t2 : TypeId) (c1 c2 : Array Value) : Bx ((w.alloc (.cells c1 t1)).alloc (.cells c2 t2)) t1 w.heap.size c1 ∧ Bx ((w.alloc (.cells c1 t1)).alloc (.cells c2 t2)) t2 (w.heap.size + 1) c2 := by
  refine ⟨(Bx.new w t1 c1).keep (al _ _), ?_⟩
  have := Bx.new (w.alloc (.cells c1 t1)) t2 c2
  rwa [size_alloc] at this
set_option maxRecDepth 8000 in
set_option maxHeartbeats 3200000 in
theorem writeItem_index (v w : World) (G : Nat → Prop) (b : Nat) (l : List Nat) (x : Iv) (h : Wk v G w b l) (hG : Gl G w) (hx : Ii v x) (hf : Fits 2 x.it) (hl : l.length + (It.bytes 2 x.it).length ≤ 512) :
    Calls Tryz.prog 81 #[.pointer (some ⟨b, 0, none⟩), .int .i64 2, x.vl] w fun y w' => y = .returned (.tuple #[]) ∧ Dk v G w w' b (l ++ It.bytes 2 x.it) := by
  obtain ⟨h1, h2, h3, h4⟩ := hf.index rfl
  have hkey := hf.key
  obtain ⟨c, hc⟩ : ∃ c : Nat, x.child = c := ⟨x.child.toNat, by have : x.it.child = x.child := rfl; omega⟩
  have hc' : c ≤ 65536 := by have : x.it.child = x.child := rfl; omega
  have hby : It.bytes 2 x.it = (numB x.key.length 1 ++ x.key) ++ numB c 4 := by
    unfold It.bytes
    rw [if_neg (by decide)]
    show numB x.key.length 1 ++ x.key ++ numB x.child.toNat 4 = _
    rw [hc, Int.toNat_natCast]
  rw [hby] at hl ⊢
  have hl' : l.length + 1 + x.key.length + 4 ≤ 512 := by simp only [List.length_append, numB_length] at hl; omega
  have hk24 : x.key.length ≤ 24 := hkey
  have hcv : IntKind.u32.wrap (c : Int) = (c : Int) := by rw [IntKind.wrap_u32]; omega
  have HBK := hide hx.bk
  have hb2 := bt (al w (.cells x.cs 55)) (al (w.alloc (.cells x.cs 55)) (.cells #[.int .i64 5, .int .i64 8] 3))
  have HB2 := hide hb2
  obtain ⟨q1, q2⟩ := bx2 w 55 3 x.cs #[.int .i64 5, .int .i64 8]
  have IP := hide (itemParts_index (w.alloc (.cells x.cs 55)))
  rw [size_alloc] at IP
  have hsz : ((w.alloc (.cells x.cs 55)).alloc (.cells #[.int .i64 5, .int .i64 8] 3)).heap.size = w.heap.size + 2 := by rw [size_alloc, size_alloc]
  obtain ⟨G', hG'⟩ : ∃ G' : Nat → Prop, G' = fun k => G k ∨ k = w.heap.size ∨ k = w.heap.size + 1 := ⟨_, rfl⟩
  obtain ⟨w2, hw2⟩ : ∃ w2, (w.alloc (.cells x.cs 55)).alloc (.cells #[.int .i64 5, .int .i64 8] 3) = w2 := ⟨_, rfl⟩
  rw [hw2] at q1 q2 hb2 hsz HB2
  have D0 := hide (Dk.refl (h.more hb2 G' (by subst hG'; exact fun k hk => hk.elim .inl (fun h => .inr (by omega)))))
  have HGL : Hid (Gl G' w2) := by subst hG'; exact fun k hk => hk.elim (fun h => by have := hG k h; omega) (fun h => by omega)
  have HQ := hide (fun (w3 : World) (l' : List Nat) (hd : Dk v G' w2 w3 b l') => (⟨Bx.item (hd.box q1 (by subst hG'; exact .inr (.inl rfl))), Bx.cell (hd.box q2 (by subst hG'; exact .inr (.inr rfl))) 0 rfl, Bx.cell (hd.box q2 (by subst hG'; exact .inr (.inr rfl))) 1 rfl⟩ : _ ∧ w3.cell? ⟨w.heap.size + 1, 0, none⟩ = some (.int .i64 5) ∧ w3.cell? ⟨w.heap.size + 1, 1, none⟩ = some (.int .i64 8)))
  have HFIN := hide (fun (w3 : World) (l' : List Nat) (hd : Dk v G' w2 w3 b l') => hd.back (G := G) HB2.out (by subst hG'; exact fun k hk => .inl hk))
  clear h hx hf hby hl h1 h2 h3 h4 hkey hb2 hsz q1 q2 hG' hG
  obtain ⟨aK, cK, key, aV, cV, val, child, size⟩ := x
  simp only [Iv.cs, Iv.vl] at *
  subst hc
  go_enter Tryz.func81, Tryz.ntmps81
  go_wp2_with fail
  refine IP.out.mono ?_
  rintro y w3 ⟨rfl, hw3⟩
  rw [hw2] at hw3
  subst hw3
  clear hw2 IP
  obtain ⟨⟨c0, c1, c2, c3⟩, t0, t1⟩ := HQ.out _ _ D0.out
  go_wp2
  go_loopw [7, 11] (fun _ i wx => ∃ (k : Nat) (l' : List Nat), k ≤ 2 ∧ i = .int .i64 k ∧ (k = 0 ∧ l' = l ∨ k = 1 ∧ l' = l ++ (numB key.length 1 ++ key) ∨ k = 2 ∧ l' = l ++ (numB key.length 1 ++ key) ++ numB c 4) ∧ Dk v G' w3 wx b l') (fun _ i _ => 2 - (intOf i).toNat)
  case atStart => exact ⟨0, l, by decide, rfl, .inl ⟨rfl, rfl⟩, D0.out⟩
  case round =>
    clear D0 c0 c1 c2 c3 t0 t1
    obtain ⟨k, l', hk, rfl, hl2, hd⟩ := hrel
    have D0 := hide hd
    obtain ⟨⟨c0, c1, c2, c3⟩, t0, t1⟩ := HQ.out _ _ hd
    clear hd
    rcases hl2 with ⟨rfl, rfl⟩ | ⟨rfl, rfl⟩ | ⟨rfl, rfl⟩
    · go_wp2_with (go_at_call 101; refine (wShort D0.out.k (D0.out.gl HGL.out) aK key.length cK key HBK.out rfl hk24 (by omega)).mono ?_; rintro y w4 ⟨rfl, hd⟩; have D0 := hide (D0.out.trans hd); clear hd)
      go_roundw
      case rel => exact ⟨1, _, by decide, rfl, .inr (.inl ⟨rfl, rfl⟩), D0.out⟩
      case measure => decide
    · go_wp2_with (go_at_call 62; refine (wPut32 D0.out.k (D0.out.gl HGL.out) c (by omega) (by simp only [List.length_append, numB_length]; omega)).mono ?_; rintro y w4 ⟨rfl, hd⟩; have D0 := hide (D0.out.trans hd); clear hd)
      go_roundw
      case rel => exact ⟨2, _, by decide, rfl, .inr (.inr ⟨rfl, rfl⟩), D0.out⟩
      case measure => decide
    · go_wp2
      go_end0
      exact ⟨rfl, by rw [← List.append_assoc]; exact HFIN.out _ _ D0.out⟩
end Go.Proofs.YtlneomgjjkfnoabGreat

namespace Go.Proofs.YtlneomgjjkfnoabGreat
open Go.RowKit

set_option maxRecDepth 8000 in
set_option maxHeartbeats 3200000 in
theorem writeItem_near (v w : World) (G : Nat → Prop) (b : Nat) (l : List Nat) (x : Iv) (h : Wk v G w b l) (hG : Gl G w) (hx : Ii v x) (hf : Fits 1 x.it) (h32 : x.size ≤ 32) (hl : l.length + (It.bytes 1 x.it).length ≤ 512) :
    Calls Tryz.prog 81 #[.pointer (some ⟨b, 0, none⟩), .int .i64 1, x.vl] w fun y w' => y = .returned (.tuple #[]) ∧ Dk v G w w' b (l ++ It.bytes 1 x.it) := by
  obtain ⟨h1, h2, h3, _⟩ := hf.leaf rfl
  obtain ⟨h3, h4⟩ := h3 h32
  have hkey := hf.key
  obtain ⟨z, hz⟩ : ∃ z : Nat, x.size = z := ⟨x.size.toNat, by have : x.it.size = x.size := rfl; omega⟩
  have hz' : z ≤ 32 := by omega
  have hvz : x.val.length = z := by have h5 : ((x.it.val.length : Nat) : Int) = x.it.size := h3; have h6 : x.it.size = x.size := rfl; have h7 : x.it.val = x.val := rfl; rw [h7] at h5; omega
  have hby : It.bytes 1 x.it = (numB x.key.length 1 ++ x.key) ++ numB z 2 ++ x.val := by
    unfold It.bytes
    rw [if_pos rfl, if_pos (show x.it.size ≤ 32 from h32)]
    show numB x.key.length 1 ++ x.key ++ (numB x.size.toNat 2 ++ x.val) = _
    rw [hz, Int.toNat_natCast, List.append_assoc, List.append_assoc, List.append_assoc]
  rw [hby] at hl ⊢
  have hl' : l.length + 1 + x.key.length + 2 + x.val.length ≤ 512 := by simp only [List.length_append, numB_length] at hl; omega
  have hk24 : x.key.length ≤ 24 := hkey
  have hzv : IntKind.u16.wrap (z : Int) = (z : Int) := by rw [IntKind.wrap_u16]; omega
  have SH := hide fun (w1 : World) => standsHere_any w1 x
  rw [show decide (x.size ≤ 32) = true from by rw [hz]; simp; omega] at SH
  have HBV := hide hx.bv
  have HBK := hide hx.bk
  have hb2 := bt (al w (.cells x.cs 55)) (al (w.alloc (.cells x.cs 55)) (.cells #[.int .i64 5, .int .i64 6, .int .i64 7] 3))
  have HB2 := hide hb2
  obtain ⟨q1, q2⟩ := bx2 w 55 3 x.cs #[.int .i64 5, .int .i64 6, .int .i64 7]
  have IP := hide (itemParts_leaf (w.alloc (.cells x.cs 55)) 1 (by decide))
  rw [size_alloc] at IP
  have hsz : ((w.alloc (.cells x.cs 55)).alloc (.cells #[.int .i64 5, .int .i64 6, .int .i64 7] 3)).heap.size = w.heap.size + 2 := by rw [size_alloc, size_alloc]
  obtain ⟨G', hG'⟩ : ∃ G' : Nat → Prop, G' = fun k => G k ∨ k = w.heap.size ∨ k = w.heap.size + 1 := ⟨_, rfl⟩
  obtain ⟨w2, hw2⟩ : ∃ w2, (w.alloc (.cells x.cs 55)).alloc (.cells #[.int .i64 5, .int .i64 6, .int .i64 7] 3) = w2 := ⟨_, rfl⟩
  rw [hw2] at q1 q2 hb2 hsz HB2
  have D0 := hide (Dk.refl (h.more hb2 G' (by subst hG'; exact fun k hk => hk.elim .inl (fun h => .inr (by omega)))))
  have HGL : Hid (Gl G' w2) := by subst hG'; exact fun k hk => hk.elim (fun h => by have := hG k h; omega) (fun h => by omega)
  have HQ := hide (fun (w3 : World) (l' : List Nat) (hd : Dk v G' w2 w3 b l') => (⟨Bx.item (hd.box q1 (by subst hG'; exact .inr (.inl rfl))), Bx.cell (hd.box q2 (by subst hG'; exact .inr (.inr rfl))) 0 rfl, Bx.cell (hd.box q2 (by subst hG'; exact .inr (.inr rfl))) 1 rfl, Bx.cell (hd.box q2 (by subst hG'; exact .inr (.inr rfl))) 2 rfl⟩ : _ ∧ w3.cell? ⟨w.heap.size + 1, 0, none⟩ = some (.int .i64 5) ∧ w3.cell? ⟨w.heap.size + 1, 1, none⟩ = some (.int .i64 6) ∧ w3.cell? ⟨w.heap.size + 1, 2, none⟩ = some (.int .i64 7)))
  have HFIN := hide (fun (w3 : World) (l' : List Nat) (hd : Dk v G' w2 w3 b l') => hd.back (G := G) HB2.out (by subst hG'; exact fun k hk => .inl hk))
  clear hvz h hx hf hby hl h1 h2 h3 h4 hkey hb2 hsz q1 q2 hG' hG
  obtain ⟨aK, cK, key, aV, cV, val, child, size⟩ := x
  simp only [Iv.cs, Iv.vl] at *
  subst hz
  go_enter Tryz.func81, Tryz.ntmps81
  go_wp2_with fail
  refine IP.out.mono ?_
  rintro y w3 ⟨rfl, hw3⟩
  rw [hw2] at hw3
  subst hw3
  clear hw2 IP
  obtain ⟨⟨c0, c1, c2, c3⟩, t0, t1, t2⟩ := HQ.out _ _ D0.out
  go_wp2
  go_loopw [7, 11] (fun _ i wx => ∃ (k : Nat) (l' : List Nat), k ≤ 3 ∧ i = .int .i64 k ∧ (k = 0 ∧ l' = l ∨ k = 1 ∧ l' = l ++ (numB key.length 1 ++ key) ∨ k = 2 ∧ l' = l ++ (numB key.length 1 ++ key) ++ numB z 2 ∨ k = 3 ∧ l' = l ++ (numB key.length 1 ++ key) ++ numB z 2 ++ val) ∧ Dk v G' w3 wx b l') (fun _ i _ => 3 - (intOf i).toNat)
  case atStart => exact ⟨0, l, by decide, rfl, .inl ⟨rfl, rfl⟩, D0.out⟩
  case round =>
    clear D0 c0 c1 c2 c3 t0 t1 t2
    obtain ⟨k, l', hk, rfl, hl2, hd⟩ := hrel
    have D0 := hide hd
    obtain ⟨⟨c0, c1, c2, c3⟩, t0, t1, t2⟩ := HQ.out _ _ hd
    clear hd
    rcases hl2 with ⟨rfl, rfl⟩ | ⟨rfl, rfl⟩ | ⟨rfl, rfl⟩ | ⟨rfl, rfl⟩
    · go_wp2_with (go_at_call 101; refine (wShort D0.out.k (D0.out.gl HGL.out) aK key.length cK key HBK.out rfl hk24 (by omega)).mono ?_; rintro y w4 ⟨rfl, hd⟩; have D0 := hide (D0.out.trans hd); clear hd)
      go_roundw
      case rel => exact ⟨1, _, by decide, rfl, .inr (.inl ⟨rfl, rfl⟩), D0.out⟩
      case measure => decide
    · go_wp2_with (go_at_call 82; refine (wPut16 D0.out.k (D0.out.gl HGL.out) z (by omega) (by simp only [List.length_append, numB_length]; omega)).mono ?_; rintro y w4 ⟨rfl, hd⟩; have D0 := hide (D0.out.trans hd); clear hd)
      go_roundw
      case rel => exact ⟨2, _, by decide, rfl, .inr (.inr (.inl ⟨rfl, rfl⟩)), D0.out⟩
      case measure => decide
    · go_wp2_with (first | (go_at_call 96; refine (SH.out _).mono ?_; rintro y w4 ⟨rfl, o4, rfl⟩; have D0 := hide (D0.out.keep (al _ o4)); obtain ⟨⟨c0, c1, c2, c3⟩, t0, t1, t2⟩ := HQ.out _ _ D0.out) | (go_at_call 83; refine (wRaw D0.out.k (D0.out.gl HGL.out) aV val.length cV val HBV.out rfl (by simp only [List.length_append, numB_length]; omega)).mono ?_; rintro y w4 ⟨rfl, hd⟩; have D0 := hide (D0.out.trans hd); clear hd))
      go_roundw
      case rel => exact ⟨3, _, by decide, rfl, .inr (.inr (.inr ⟨rfl, rfl⟩)), D0.out⟩
      case measure => decide
    · go_wp2
      go_end0
      exact ⟨rfl, by rw [← List.append_assoc, ← List.append_assoc]; exact HFIN.out _ _ D0.out⟩
end Go.Proofs.YtlneomgjjkfnoabGreat

namespace Go.Proofs.YtlneomgjjkfnoabGreat
open Go.RowKit

set_option maxRecDepth 8000 in
set_option maxHeartbeats 3200000 in
theorem writeItem_far (v w : World) (G : Nat → Prop) (b : Nat) (l : List Nat) (x : Iv) (h : Wk v G w b l) (hG : Gl G w) (hx : Ii v x) (hf : Fits 1 x.it) (h32 : 32 < x.size) (hl : l.length + (It.bytes 1 x.it).length ≤ 512) :
    Calls Tryz.prog 81 #[.pointer (some ⟨b, 0, none⟩), .int .i64 1, x.vl] w fun y w' => y = .returned (.tuple #[]) ∧ Dk v G w w' b (l ++ It.bytes 1 x.it) := by
  obtain ⟨h1, h2, _, h3⟩ := hf.leaf rfl
  obtain ⟨_, h3, h4⟩ := h3 h32
  have hkey := hf.key
  obtain ⟨z, hz⟩ : ∃ z : Nat, x.size = z := ⟨x.size.toNat, by have : x.it.size = x.size := rfl; omega⟩
  have hz' : z ≤ 3840 := by have : x.it.size = x.size := rfl; omega
  have hz2 : 32 < z := by omega
  obtain ⟨c, hc⟩ : ∃ c : Nat, x.child = c := ⟨x.child.toNat, by have : x.it.child = x.child := rfl; omega⟩
  have hc' : c ≤ 65536 := by have : x.it.child = x.child := rfl; omega
  have hby : It.bytes 1 x.it = (numB x.key.length 1 ++ x.key) ++ numB z 2 ++ numB c 4 := by
    unfold It.bytes
    rw [if_pos rfl, if_neg (show ¬ x.it.size ≤ 32 from by have : x.it.size = x.size := rfl; omega)]
    show numB x.key.length 1 ++ x.key ++ (numB x.size.toNat 2 ++ numB x.child.toNat 4) = _
    rw [hz, hc, Int.toNat_natCast, Int.toNat_natCast, List.append_assoc, List.append_assoc, List.append_assoc]
  rw [hby] at hl ⊢
  have hl' : l.length + 1 + x.key.length + 2 + 4 ≤ 512 := by simp only [List.length_append, numB_length] at hl; omega
  have hk24 : x.key.length ≤ 24 := hkey
  have hcv : IntKind.u32.wrap (c : Int) = (c : Int) := by rw [IntKind.wrap_u32]; omega
  have hzv : IntKind.u16.wrap (z : Int) = (z : Int) := by rw [IntKind.wrap_u16]; omega
  have SH := hide fun (w1 : World) => standsHere_any w1 x
  rw [show decide (x.size ≤ 32) = false from by rw [hz]; simp; omega] at SH
  have HBK := hide hx.bk
  have hb2 := bt (al w (.cells x.cs 55)) (al (w.alloc (.cells x.cs 55)) (.cells #[.int .i64 5, .int .i64 6, .int .i64 7] 3))
  have HB2 := hide hb2
  obtain ⟨q1, q2⟩ := bx2 w 55 3 x.cs #[.int .i64 5, .int .i64 6, .int .i64 7]
  have IP := hide (itemParts_leaf (w.alloc (.cells x.cs 55)) 1 (by decide))
  rw [size_alloc] at IP
  have hsz : ((w.alloc (.cells x.cs 55)).alloc (.cells #[.int .i64 5, .int .i64 6, .int .i64 7] 3)).heap.size = w.heap.size + 2 := by rw [size_alloc, size_alloc]
  obtain ⟨G', hG'⟩ : ∃ G' : Nat → Prop, G' = fun k => G k ∨ k = w.heap.size ∨ k = w.heap.size + 1 := ⟨_, rfl⟩
  obtain ⟨w2, hw2⟩ : ∃ w2, (w.alloc (.cells x.cs 55)).alloc (.cells #[.int .i64 5, .int .i64 6, .int .i64 7] 3) = w2 := ⟨_, rfl⟩
  rw [hw2] at q1 q2 hb2 hsz HB2
  have D0 := hide (Dk.refl (h.more hb2 G' (by subst hG'; exact fun k hk => hk.elim .inl (fun h => .inr (by omega)))))
  have HGL : Hid (Gl G' w2) := by subst hG'; exact fun k hk => hk.elim (fun h => by have := hG k h; omega) (fun h => by omega)
  have HQ := hide (fun (w3 : World) (l' : List Nat) (hd : Dk v G' w2 w3 b l') => (⟨Bx.item (hd.box q1 (by subst hG'; exact .inr (.inl rfl))), Bx.cell (hd.box q2 (by subst hG'; exact .inr (.inr rfl))) 0 rfl, Bx.cell (hd.box q2 (by subst hG'; exact .inr (.inr rfl))) 1 rfl, Bx.cell (hd.box q2 (by subst hG'; exact .inr (.inr rfl))) 2 rfl⟩ : _ ∧ w3.cell? ⟨w.heap.size + 1, 0, none⟩ = some (.int .i64 5) ∧ w3.cell? ⟨w.heap.size + 1, 1, none⟩ = some (.int .i64 6) ∧ w3.cell? ⟨w.heap.size + 1, 2, none⟩ = some (.int .i64 7)))
  have HFIN := hide (fun (w3 : World) (l' : List Nat) (hd : Dk v G' w2 w3 b l') => hd.back (G := G) HB2.out (by subst hG'; exact fun k hk => .inl hk))
  clear h hx hf hby hl h1 h2 h3 h4 hkey hb2 hsz q1 q2 hG' hG
  obtain ⟨aK, cK, key, aV, cV, val, child, size⟩ := x
  simp only [Iv.cs, Iv.vl] at *
  subst hz hc
  go_enter Tryz.func81, Tryz.ntmps81
  go_wp2_with fail
  refine IP.out.mono ?_
  rintro y w3 ⟨rfl, hw3⟩
  rw [hw2] at hw3
  subst hw3
  clear hw2 IP
  obtain ⟨⟨c0, c1, c2, c3⟩, t0, t1, t2⟩ := HQ.out _ _ D0.out
  go_wp2
  go_loopw [7, 11] (fun _ i wx => ∃ (k : Nat) (l' : List Nat), k ≤ 3 ∧ i = .int .i64 k ∧ (k = 0 ∧ l' = l ∨ k = 1 ∧ l' = l ++ (numB key.length 1 ++ key) ∨ k = 2 ∧ l' = l ++ (numB key.length 1 ++ key) ++ numB z 2 ∨ k = 3 ∧ l' = l ++ (numB key.length 1 ++ key) ++ numB z 2 ++ numB c 4) ∧ Dk v G' w3 wx b l') (fun _ i _ => 3 - (intOf i).toNat)
  case atStart => exact ⟨0, l, by decide, rfl, .inl ⟨rfl, rfl⟩, D0.out⟩
  case round =>
    clear D0 c0 c1 c2 c3 t0 t1 t2
    obtain ⟨k, l', hk, rfl, hl2, hd⟩ := hrel
    have D0 := hide hd
    obtain ⟨⟨c0, c1, c2, c3⟩, t0, t1, t2⟩ := HQ.out _ _ hd
    clear hd
    rcases hl2 with ⟨rfl, rfl⟩ | ⟨rfl, rfl⟩ | ⟨rfl, rfl⟩ | ⟨rfl, rfl⟩
    · go_wp2_with (go_at_call 101; refine (wShort D0.out.k (D0.out.gl HGL.out) aK key.length cK key HBK.out rfl hk24 (by omega)).mono ?_; rintro y w4 ⟨rfl, hd⟩; have D0 := hide (D0.out.trans hd); clear hd)
      go_roundw
      case rel => exact ⟨1, _, by decide, rfl, .inr (.inl ⟨rfl, rfl⟩), D0.out⟩
      case measure => decide
    · go_wp2_with (go_at_call 82; refine (wPut16 D0.out.k (D0.out.gl HGL.out) z (by omega) (by simp only [List.length_append, numB_length]; omega)).mono ?_; rintro y w4 ⟨rfl, hd⟩; have D0 := hide (D0.out.trans hd); clear hd)
      go_roundw
      case rel => exact ⟨2, _, by decide, rfl, .inr (.inr (.inl ⟨rfl, rfl⟩)), D0.out⟩
      case measure => decide
    · go_wp2_with (first | (go_at_call 96; refine (SH.out _).mono ?_; rintro y w4 ⟨rfl, o4, rfl⟩; have D0 := hide (D0.out.keep (al _ o4)); obtain ⟨⟨c0, c1, c2, c3⟩, t0, t1, t2⟩ := HQ.out _ _ D0.out) | (go_at_call 62; refine (wPut32 D0.out.k (D0.out.gl HGL.out) c (by omega) (by simp only [List.length_append, numB_length]; omega)).mono ?_; rintro y w4 ⟨rfl, hd⟩; have D0 := hide (D0.out.trans hd); clear hd))
      go_roundw
      case rel => exact ⟨3, _, by decide, rfl, .inr (.inr (.inr ⟨rfl, rfl⟩)), D0.out⟩
      case measure => decide
    · go_wp2
      go_end0
      exact ⟨rfl, by rw [← List.append_assoc, ← List.append_assoc]; exact HFIN.out _ _ D0.out⟩
end Go.Proofs.YtlneomgjjkfnoabGreat

namespace Go.Proofs.YtlneomgjjkfnoabGreat
open Go.RowKit

theorem writeItem_any (v w : World) (G : Nat → Prop) (b : Nat) (l : List Nat) (kind : Int) (hk : kind = 1 ∨ kind = 2) (x : Iv) (h : Wk v G w b l) (hG : Gl G w) (hx : Ii v x) (hf : Fits kind x.it) (hl : l.length + (It.bytes kind x.it).length ≤ 512) :
    Calls Tryz.prog 81 #[.pointer (some ⟨b, 0, none⟩), .int .i64 kind, x.vl] w fun y w' => y = .returned (.tuple #[]) ∧ Dk v G w w' b (l ++ It.bytes kind x.it) := by
  rcases hk with rfl | rfl
  · by_cases h32 : x.size ≤ 32
    · exact writeItem_near v w G b l x h hG hx hf h32 hl
    · exact writeItem_far v w G b l x h hG hx hf (by omega) hl
  · exact writeItem_index v w G b l x h hG hx hf hl
/-- the content of a block in memory -/
def ctc (no gen : Int) (p : Pv) : Array Value := #[.int .i64 no, .int .i64 gen, .int .i64 p.kind, .int .i64 p.level, .slice p.aI p.items.length p.cI, .slice p.aD p.data.length p.cD, .int .i64 p.next]
theorem Bx.ct {w : World} {g : Nat} {no gen : Int} {p : Pv} (h : Bx w 62 g (ctc no gen p)) : w.cell? ⟨g, 0, none⟩ = some (.int .i64 no) ∧ w.cell? ⟨g, 1, none⟩ = some (.int .i64 gen) ∧ w.cell? ⟨g, 2, none⟩ = some (.int .i64 p.kind) ∧ w.cell? ⟨g, 3, none⟩ = some (.int .i64 p.level) ∧ w.cell? ⟨g, 4, none⟩ = some (.slice p.aI p.items.length p.cI) ∧ w.cell? ⟨g, 5, none⟩ = some (.slice p.aD p.data.length p.cD) ∧ w.cell? ⟨g, 6, none⟩ = some (.int .i64 p.next) :=
  ⟨h.cell 0 rfl, h.cell 1 rfl, h.cell 2 rfl, h.cell 3 rfl, h.cell 4 rfl, h.cell 5 rfl, h.cell 6 rfl⟩
theorem flat_snoc (kind : Int) (L : List Iv) (k : Nat) (hk : k < L.length) : ((L.map Iv.it).take (k + 1)).flatMap (It.bytes kind) = ((L.map Iv.it).take k).flatMap (It.bytes kind) ++ It.bytes kind (L.getD k Iv.zero).it := by
  rw [List.take_succ_eq_append_getElem (by simpa using hk), List.flatMap_append, List.flatMap_cons, List.flatMap_nil, List.append_nil]
  simp [hk]
theorem flat_part (kind : Int) (L : List Iv) (k : Nat) (hk : k < L.length) : (((L.map Iv.it).take k).flatMap (It.bytes kind)).length + (It.bytes kind (L.getD k Iv.zero).it).length ≤ ((L.map Iv.it).flatMap (It.bytes kind)).length := by
  rw [← List.length_append, ← flat_snoc kind L k hk]
  conv => rhs; rw [← List.take_append_drop (k + 1) (L.map Iv.it), List.flatMap_append, List.length_append]
  omega
/-- a block that can be written -/
structure Wd (v : World) (no gen : Int) (p : Pv) : Prop where
  s : Sound p.pg
  n : isNum no = true
  g : isGen gen = true
  i : Pi v p
/-- the bytes of a part -/
def partB (no gen : Int) (p : Pg) (tag : Nat) : List Nat :=
  if tag = 0 then numB p.kind.toNat 1 else if tag = 1 then numB p.level.toNat 1 else if tag = 2 then numB no.toNat 4 else if tag = 3 then numB gen.toNat 8
  else if tag = 4 then numB p.items.length 1 ++ p.items.flatMap (It.bytes p.kind) else numB p.data.length 2 ++ numB p.next.toNat 4 ++ p.data
theorem Wd.nats {v : World} {no gen : Int} {p : Pv} (h : Wd v no gen p) : ∃ kn ln nn gg : Nat, p.kind = kn ∧ p.level = ln ∧ no = nn ∧ gen = gg ∧ kn ≤ 3 ∧ ln ≤ 11 ∧ nn ≤ 65536 ∧ gg ≤ 1099511627776 := by
  obtain ⟨a, b, c, d⟩ := h.s.nums
  have h1 := isNum_iff.1 h.n
  have h2 := isGen_iff.1 h.g
  have hk := Pg.kindOk_iff.1 h.s.k
  have hl : p.pg.level ≤ 11 ∧ 0 ≤ p.pg.level := by
    rcases hk with hk | hk | hk
    · have := h.s.node (.inl hk); omega
    · have := h.s.node (.inr hk); omega
    · have := h.s.blob hk; omega
  have e1 : p.pg.kind = p.kind := rfl
  have e2 : p.pg.level = p.level := rfl
  exact ⟨p.kind.toNat, p.level.toNat, no.toNat, gen.toNat, by omega, by omega, by omega, by omega, by omega, by omega, by omega, by omega⟩
set_option maxRecDepth 8000 in
set_option maxHeartbeats 1600000 in
theorem writePart_0 (v w : World) (G : Nat → Prop) (b : Nat) (l : List Nat) (no gen : Int) (p : Pv) (h : Wk v G w b l) (hG : Gl G w) (hW : Wd v no gen p) (hl : l.length + (partB no gen p.pg 0).length ≤ 512) :
    Calls Tryz.prog 58 #[.agg (ctc no gen p), .pointer (some ⟨b, 0, none⟩), .int .i64 0] w fun y w' => y = .returned (.tuple #[]) ∧ Dk v G w w' b (l ++ partB no gen p.pg 0) := by
  obtain ⟨kn, ln, nn, gg, hkn, hln, hnn, hgg, bk, bl, bn, bg⟩ := hW.nats
  have hb2 := al w (.cells (ctc no gen p) 62)
  have HB2 := hide hb2
  have q1 := Bx.new w 62 (ctc no gen p)
  have hsz := size_alloc w (.cells (ctc no gen p) 62)
  obtain ⟨G', hG'⟩ : ∃ G' : Nat → Prop, G' = fun k => G k ∨ k = w.heap.size := ⟨_, rfl⟩
  obtain ⟨w2, hw2⟩ : ∃ w2, w.alloc (.cells (ctc no gen p) 62) = w2 := ⟨_, rfl⟩
  rw [hw2] at q1 hb2 hsz HB2
  have D0 := hide (Dk.refl (h.more hb2 G' (by subst hG'; exact fun k hk => hk.elim .inl (fun h => .inr (by omega)))))
  have HGL : Hid (Gl G' w2) := by subst hG'; exact fun k hk => hk.elim (fun h => by have := hG k h; omega) (fun h => by omega)
  have HQ := hide (fun (w3 : World) (l' : List Nat) (hd : Dk v G' w2 w3 b l') => Bx.ct (hd.box q1 (by subst hG'; exact .inr rfl)))
  have HFIN := hide (fun (w3 : World) (l' : List Nat) (hd : Dk v G' w2 w3 b l') => hd.back (G := G) HB2.out (by subst hG'; exact fun k hk => .inl hk))
  have hby : partB no gen p.pg 0 = numB kn 1 := by
    unfold partB
    rw [if_pos rfl]
    first | (show numB p.kind.toNat 1 = _; rw [hkn, Int.toNat_natCast]) | (show numB p.level.toNat 1 = _; rw [hln, Int.toNat_natCast]) | (show numB no.toNat 4 = _; rw [hnn, Int.toNat_natCast]) | (show numB gen.toNat 8 = _; rw [hgg, Int.toNat_natCast])
  rw [hby] at hl ⊢
  rw [numB_length] at hl
  have hcv : IntKind.u8.wrap (kn : Int) = (kn : Int) := by rw [IntKind.wrap_u8']; omega
  clear h hW hby hsz hG' hG q1 hb2
  obtain ⟨kind, level, aI, cI, items, aD, cD, data, next⟩ := p
  simp only [ctc] at *
  subst hkn hln hnn hgg
  go_enter Tryz.func58, Tryz.ntmps58
  obtain ⟨c0, c1, c2, c3, c4, c5, c6⟩ := HQ.out _ _ D0.out
  go_wp2_with (go_at_call 79; refine (wPut8 D0.out.k (D0.out.gl HGL.out) kn (by omega) (by first | omega | (simp only [List.length_append, numB_length]; omega))).mono ?_; rintro y w4 ⟨rfl, hd⟩; have D0 := hide (D0.out.trans hd); obtain ⟨c0, c1, c2, c3, c4, c5, c6⟩ := HQ.out _ _ D0.out; clear hd)
  go_end0
  exact ⟨rfl, HFIN.out _ _ D0.out⟩
set_option maxRecDepth 8000 in
set_option maxHeartbeats 1600000 in
theorem writePart_1 (v w : World) (G : Nat → Prop) (b : Nat) (l : List Nat) (no gen : Int) (p : Pv) (h : Wk v G w b l) (hG : Gl G w) (hW : Wd v no gen p) (hl : l.length + (partB no gen p.pg 1).length ≤ 512) :
    Calls Tryz.prog 58 #[.agg (ctc no gen p), .pointer (some ⟨b, 0, none⟩), .int .i64 1] w fun y w' => y = .returned (.tuple #[]) ∧ Dk v G w w' b (l ++ partB no gen p.pg 1) := by
  obtain ⟨kn, ln, nn, gg, hkn, hln, hnn, hgg, bk, bl, bn, bg⟩ := hW.nats
  have hb2 := al w (.cells (ctc no gen p) 62)
  have HB2 := hide hb2
  have q1 := Bx.new w 62 (ctc no gen p)
  have hsz := size_alloc w (.cells (ctc no gen p) 62)
  obtain ⟨G', hG'⟩ : ∃ G' : Nat → Prop, G' = fun k => G k ∨ k = w.heap.size := ⟨_, rfl⟩
  obtain ⟨w2, hw2⟩ : ∃ w2, w.alloc (.cells (ctc no gen p) 62) = w2 := ⟨_, rfl⟩
  rw [hw2] at q1 hb2 hsz HB2
  have D0 := hide (Dk.refl (h.more hb2 G' (by subst hG'; exact fun k hk => hk.elim .inl (fun h => .inr (by omega)))))
  have HGL : Hid (Gl G' w2) := by subst hG'; exact fun k hk => hk.elim (fun h => by have := hG k h; omega) (fun h => by omega)
  have HQ := hide (fun (w3 : World) (l' : List Nat) (hd : Dk v G' w2 w3 b l') => Bx.ct (hd.box q1 (by subst hG'; exact .inr rfl)))
  have HFIN := hide (fun (w3 : World) (l' : List Nat) (hd : Dk v G' w2 w3 b l') => hd.back (G := G) HB2.out (by subst hG'; exact fun k hk => .inl hk))
  have hby : partB no gen p.pg 1 = numB ln 1 := by
    unfold partB
    rw [if_neg (by decide), if_pos rfl]
    first | (show numB p.kind.toNat 1 = _; rw [hkn, Int.toNat_natCast]) | (show numB p.level.toNat 1 = _; rw [hln, Int.toNat_natCast]) | (show numB no.toNat 4 = _; rw [hnn, Int.toNat_natCast]) | (show numB gen.toNat 8 = _; rw [hgg, Int.toNat_natCast])
  rw [hby] at hl ⊢
  rw [numB_length] at hl
  have hcv : IntKind.u8.wrap (ln : Int) = (ln : Int) := by rw [IntKind.wrap_u8']; omega
  clear h hW hby hsz hG' hG q1 hb2
  obtain ⟨kind, level, aI, cI, items, aD, cD, data, next⟩ := p
  simp only [ctc] at *
  subst hkn hln hnn hgg
  go_enter Tryz.func58, Tryz.ntmps58
  obtain ⟨c0, c1, c2, c3, c4, c5, c6⟩ := HQ.out _ _ D0.out
  go_wp2_with (go_at_call 79; refine (wPut8 D0.out.k (D0.out.gl HGL.out) ln (by omega) (by first | omega | (simp only [List.length_append, numB_length]; omega))).mono ?_; rintro y w4 ⟨rfl, hd⟩; have D0 := hide (D0.out.trans hd); obtain ⟨c0, c1, c2, c3, c4, c5, c6⟩ := HQ.out _ _ D0.out; clear hd)
  go_end0
  exact ⟨rfl, HFIN.out _ _ D0.out⟩
set_option maxRecDepth 8000 in
set_option maxHeartbeats 1600000 in
theorem writePart_2 (v w : World) (G : Nat → Prop) (b : Nat) (l : List Nat) (no gen : Int) (p : Pv) (h : Wk v G w b l) (hG : Gl G w) (hW : Wd v no gen p) (hl : l.length + (partB no gen p.pg 2).length ≤ 512) :
    Calls Tryz.prog 58 #[.agg (ctc no gen p), .pointer (some ⟨b, 0, none⟩), .int .i64 2] w fun y w' => y = .returned (.tuple #[]) ∧ Dk v G w w' b (l ++ partB no gen p.pg 2) := by
  obtain ⟨kn, ln, nn, gg, hkn, hln, hnn, hgg, bk, bl, bn, bg⟩ := hW.nats
  have hb2 := al w (.cells (ctc no gen p) 62)
  have HB2 := hide hb2
  have q1 := Bx.new w 62 (ctc no gen p)
  have hsz := size_alloc w (.cells (ctc no gen p) 62)
  obtain ⟨G', hG'⟩ : ∃ G' : Nat → Prop, G' = fun k => G k ∨ k = w.heap.size := ⟨_, rfl⟩
  obtain ⟨w2, hw2⟩ : ∃ w2, w.alloc (.cells (ctc no gen p) 62) = w2 := ⟨_, rfl⟩
  rw [hw2] at q1 hb2 hsz HB2
  have D0 := hide (Dk.refl (h.more hb2 G' (by subst hG'; exact fun k hk => hk.elim .inl (fun h => .inr (by omega)))))
  have HGL : Hid (Gl G' w2) := by subst hG'; exact fun k hk => hk.elim (fun h => by have := hG k h; omega) (fun h => by omega)
  have HQ := hide (fun (w3 : World) (l' : List Nat) (hd : Dk v G' w2 w3 b l') => Bx.ct (hd.box q1 (by subst hG'; exact .inr rfl)))
  have HFIN := hide (fun (w3 : World) (l' : List Nat) (hd : Dk v G' w2 w3 b l') => hd.back (G := G) HB2.out (by subst hG'; exact fun k hk => .inl hk))
  have hby : partB no gen p.pg 2 = numB nn 4 := by
    unfold partB
    rw [if_neg (by decide), if_neg (by decide), if_pos rfl]
    first | (show numB p.kind.toNat 1 = _; rw [hkn, Int.toNat_natCast]) | (show numB p.level.toNat 1 = _; rw [hln, Int.toNat_natCast]) | (show numB no.toNat 4 = _; rw [hnn, Int.toNat_natCast]) | (show numB gen.toNat 8 = _; rw [hgg, Int.toNat_natCast])
  rw [hby] at hl ⊢
  rw [numB_length] at hl
  have hcv : IntKind.u32.wrap (nn : Int) = (nn : Int) := by rw [IntKind.wrap_u32]; omega
  clear h hW hby hsz hG' hG q1 hb2
  obtain ⟨kind, level, aI, cI, items, aD, cD, data, next⟩ := p
  simp only [ctc] at *
  subst hkn hln hnn hgg
  go_enter Tryz.func58, Tryz.ntmps58
  obtain ⟨c0, c1, c2, c3, c4, c5, c6⟩ := HQ.out _ _ D0.out
  go_wp2_with (go_at_call 62; refine (wPut32 D0.out.k (D0.out.gl HGL.out) nn (by omega) (by first | omega | (simp only [List.length_append, numB_length]; omega))).mono ?_; rintro y w4 ⟨rfl, hd⟩; have D0 := hide (D0.out.trans hd); obtain ⟨c0, c1, c2, c3, c4, c5, c6⟩ := HQ.out _ _ D0.out; clear hd)
  go_end0
  exact ⟨rfl, HFIN.out _ _ D0.out⟩
set_option maxRecDepth 8000 in
set_option maxHeartbeats 1600000 in
theorem writePart_3 (v w : World) (G : Nat → Prop) (b : Nat) (l : List Nat) (no gen : Int) (p : Pv) (h : Wk v G w b l) (hG : Gl G w) (hW : Wd v no gen p) (hl : l.length + (partB no gen p.pg 3).length ≤ 512) :
    Calls Tryz.prog 58 #[.agg (ctc no gen p), .pointer (some ⟨b, 0, none⟩), .int .i64 3] w fun y w' => y = .returned (.tuple #[]) ∧ Dk v G w w' b (l ++ partB no gen p.pg 3) := by
  obtain ⟨kn, ln, nn, gg, hkn, hln, hnn, hgg, bk, bl, bn, bg⟩ := hW.nats
  have hb2 := al w (.cells (ctc no gen p) 62)
  have HB2 := hide hb2
  have q1 := Bx.new w 62 (ctc no gen p)
  have hsz := size_alloc w (.cells (ctc no gen p) 62)
  obtain ⟨G', hG'⟩ : ∃ G' : Nat → Prop, G' = fun k => G k ∨ k = w.heap.size := ⟨_, rfl⟩
  obtain ⟨w2, hw2⟩ : ∃ w2, w.alloc (.cells (ctc no gen p) 62) = w2 := ⟨_, rfl⟩
  rw [hw2] at q1 hb2 hsz HB2
  have D0 := hide (Dk.refl (h.more hb2 G' (by subst hG'; exact fun k hk => hk.elim .inl (fun h => .inr (by omega)))))
  have HGL : Hid (Gl G' w2) := by subst hG'; exact fun k hk => hk.elim (fun h => by have := hG k h; omega) (fun h => by omega)
  have HQ := hide (fun (w3 : World) (l' : List Nat) (hd : Dk v G' w2 w3 b l') => Bx.ct (hd.box q1 (by subst hG'; exact .inr rfl)))
  have HFIN := hide (fun (w3 : World) (l' : List Nat) (hd : Dk v G' w2 w3 b l') => hd.back (G := G) HB2.out (by subst hG'; exact fun k hk => .inl hk))
  have hby : partB no gen p.pg 3 = numB gg 8 := by
    unfold partB
    rw [if_neg (by decide), if_neg (by decide), if_neg (by decide), if_pos rfl]
    first | (show numB p.kind.toNat 1 = _; rw [hkn, Int.toNat_natCast]) | (show numB p.level.toNat 1 = _; rw [hln, Int.toNat_natCast]) | (show numB no.toNat 4 = _; rw [hnn, Int.toNat_natCast]) | (show numB gen.toNat 8 = _; rw [hgg, Int.toNat_natCast])
  rw [hby] at hl ⊢
  rw [numB_length] at hl
  have hcv : IntKind.u64.wrap (gg : Int) = (gg : Int) := by rw [IntKind.wrap_u64]; omega
  clear h hW hby hsz hG' hG q1 hb2
  obtain ⟨kind, level, aI, cI, items, aD, cD, data, next⟩ := p
  simp only [ctc] at *
  subst hkn hln hnn hgg
  go_enter Tryz.func58, Tryz.ntmps58
  obtain ⟨c0, c1, c2, c3, c4, c5, c6⟩ := HQ.out _ _ D0.out
  go_wp2_with (go_at_call 80; refine (wPut64 D0.out.k (D0.out.gl HGL.out) gg (by omega) (by first | omega | (simp only [List.length_append, numB_length]; omega))).mono ?_; rintro y w4 ⟨rfl, hd⟩; have D0 := hide (D0.out.trans hd); obtain ⟨c0, c1, c2, c3, c4, c5, c6⟩ := HQ.out _ _ D0.out; clear hd)
  go_end0
  exact ⟨rfl, HFIN.out _ _ D0.out⟩
set_option maxRecDepth 8000 in
set_option maxHeartbeats 1600000 in
theorem writePart_9 (v w : World) (G : Nat → Prop) (b : Nat) (l : List Nat) (no gen : Int) (p : Pv) (h : Wk v G w b l) (hG : Gl G w) (hW : Wd v no gen p) (hk3 : p.kind = 3) (hl : l.length + (partB no gen p.pg 9).length ≤ 512) :
    Calls Tryz.prog 58 #[.agg (ctc no gen p), .pointer (some ⟨b, 0, none⟩), .int .i64 9] w fun y w' => y = .returned (.tuple #[]) ∧ Dk v G w w' b (l ++ partB no gen p.pg 9) := by
  obtain ⟨kn, ln, nn, gg, hkn, hln, hnn, hgg, bk, bl, bn, bg⟩ := hW.nats
  have hb2 := al w (.cells (ctc no gen p) 62)
  have HB2 := hide hb2
  have q1 := Bx.new w 62 (ctc no gen p)
  have hsz := size_alloc w (.cells (ctc no gen p) 62)
  obtain ⟨G', hG'⟩ : ∃ G' : Nat → Prop, G' = fun k => G k ∨ k = w.heap.size := ⟨_, rfl⟩
  obtain ⟨w2, hw2⟩ : ∃ w2, w.alloc (.cells (ctc no gen p) 62) = w2 := ⟨_, rfl⟩
  rw [hw2] at q1 hb2 hsz HB2
  have D0 := hide (Dk.refl (h.more hb2 G' (by subst hG'; exact fun k hk => hk.elim .inl (fun h => .inr (by omega)))))
  have HGL : Hid (Gl G' w2) := by subst hG'; exact fun k hk => hk.elim (fun h => by have := hG k h; omega) (fun h => by omega)
  have HQ := hide (fun (w3 : World) (l' : List Nat) (hd : Dk v G' w2 w3 b l') => Bx.ct (hd.box q1 (by subst hG'; exact .inr rfl)))
  have HFIN := hide (fun (w3 : World) (l' : List Nat) (hd : Dk v G' w2 w3 b l') => hd.back (G := G) HB2.out (by subst hG'; exact fun k hk => .inl hk))
  obtain ⟨_, _, _, hd4, hd5, hd6⟩ := hW.s.blob hk3
  obtain ⟨xn, hxn⟩ : ∃ xn : Nat, p.next = xn := ⟨p.next.toNat, by have : p.pg.next = p.next := rfl; omega⟩
  have hxn' : xn ≤ 65536 := by have : p.pg.next = p.next := rfl; omega
  have hdl : p.data.length ≤ 480 := hd4
  have hby : partB no gen p.pg 9 = numB p.data.length 2 ++ numB xn 4 ++ p.data := by
    unfold partB
    rw [if_neg (by decide), if_neg (by decide), if_neg (by decide), if_neg (by decide), if_neg (by decide)]
    show numB p.data.length 2 ++ numB p.next.toNat 4 ++ p.data = _
    rw [hxn, Int.toNat_natCast]
  rw [hby] at hl ⊢
  simp only [List.length_append, numB_length] at hl
  have hcv : IntKind.u32.wrap (xn : Int) = (xn : Int) := by rw [IntKind.wrap_u32]; omega
  have hcd : IntKind.u16.wrap ((p.data.length : Nat) : Int) = ((p.data.length : Nat) : Int) := by rw [IntKind.wrap_u16]; omega
  have HBD := hide hW.i.bd
  clear h hW hby hsz hG' hG q1 hb2 hd4 hd5 hd6 hkn
  obtain ⟨kind, level, aI, cI, items, aD, cD, data, next⟩ := p
  simp only [ctc] at *
  subst hk3 hln hnn hgg hxn
  go_enter Tryz.func58, Tryz.ntmps58
  obtain ⟨c0, c1, c2, c3, c4, c5, c6⟩ := HQ.out _ _ D0.out
  go_wp2_with (first | (go_at_call 82; refine (wPut16 D0.out.k (D0.out.gl HGL.out) data.length (by omega) (by first | omega | (simp only [List.length_append, numB_length]; omega))).mono ?_; rintro y w4 ⟨rfl, hd⟩; have D0 := hide (D0.out.trans hd); obtain ⟨c0, c1, c2, c3, c4, c5, c6⟩ := HQ.out _ _ D0.out; clear hd) | (go_at_call 62; refine (wPut32 D0.out.k (D0.out.gl HGL.out) xn (by omega) (by first | omega | (simp only [List.length_append, numB_length]; omega))).mono ?_; rintro y w4 ⟨rfl, hd⟩; have D0 := hide (D0.out.trans hd); obtain ⟨c0, c1, c2, c3, c4, c5, c6⟩ := HQ.out _ _ D0.out; clear hd) | (go_at_call 83; refine (wRaw D0.out.k (D0.out.gl HGL.out) aD data.length cD data HBD.out rfl (by simp only [List.length_append, numB_length]; omega)).mono ?_; rintro y w4 ⟨rfl, hd⟩; have D0 := hide (D0.out.trans hd); clear hd))
  go_end0
  exact ⟨rfl, by rw [← List.append_assoc, ← List.append_assoc]; exact HFIN.out _ _ D0.out⟩
set_option maxRecDepth 8000 in
set_option maxHeartbeats 3200000 in
theorem writePart_4 (v w : World) (G : Nat → Prop) (b : Nat) (l : List Nat) (no gen : Int) (p : Pv) (h : Wk v G w b l) (hG : Gl G w) (hW : Wd v no gen p) (hk12 : p.kind = 1 ∨ p.kind = 2) (hl : l.length + (partB no gen p.pg 4).length ≤ 512) :
    Calls Tryz.prog 58 #[.agg (ctc no gen p), .pointer (some ⟨b, 0, none⟩), .int .i64 4] w fun y w' => y = .returned (.tuple #[]) ∧ Dk v G w w' b (l ++ partB no gen p.pg 4) := by
  obtain ⟨kn, ln, nn, gg, hkn, hln, hnn, hgg, bk, bl, bn, bg⟩ := hW.nats
  have hb2 := al w (.cells (ctc no gen p) 62)
  have HB2 := hide hb2
  have q1 := Bx.new w 62 (ctc no gen p)
  have hsz := size_alloc w (.cells (ctc no gen p) 62)
  obtain ⟨G', hG'⟩ : ∃ G' : Nat → Prop, G' = fun k => G k ∨ k = w.heap.size := ⟨_, rfl⟩
  obtain ⟨w2, hw2⟩ : ∃ w2, w.alloc (.cells (ctc no gen p) 62) = w2 := ⟨_, rfl⟩
  rw [hw2] at q1 hb2 hsz HB2
  have D0 := hide (Dk.refl (h.more hb2 G' (by subst hG'; exact fun k hk => hk.elim .inl (fun h => .inr (by omega)))))
  have HGL : Hid (Gl G' w2) := by subst hG'; exact fun k hk => hk.elim (fun h => by have := hG k h; omega) (fun h => by omega)
  have HQ := hide (fun (w3 : World) (l' : List Nat) (hd : Dk v G' w2 w3 b l') => Bx.ct (hd.box q1 (by subst hG'; exact .inr rfl)))
  have HFIN := hide (fun (w3 : World) (l' : List Nat) (hd : Dk v G' w2 w3 b l') => hd.back (G := G) HB2.out (by subst hG'; exact fun k hk => .inl hk))
  have hn8 : p.items.length ≤ 8 := by
    have h5 := (hW.s.node hk12).2.2.1
    have h6 : p.pg.items.length = p.items.length := by simp [Pv.pg]
    omega
  have hby : partB no gen p.pg 4 = numB p.items.length 1 ++ (p.items.map Iv.it).flatMap (It.bytes p.kind) := by
    unfold partB
    rw [if_neg (by decide), if_neg (by decide), if_neg (by decide), if_neg (by decide), if_pos rfl]
    show numB (p.items.map Iv.it).length 1 ++ (p.items.map Iv.it).flatMap (It.bytes p.kind) = _
    rw [List.length_map]
  rw [hby] at hl ⊢
  simp only [List.length_append, numB_length] at hl
  have hcd : IntKind.u8.wrap ((p.items.length : Nat) : Int) = ((p.items.length : Nat) : Int) := by rw [IntKind.wrap_u8']; omega
  have HLE := hide fun (k : Nat) (hk : k < p.items.length) => (show (((p.items.map Iv.it).take k).flatMap (It.bytes p.kind)).length + (It.bytes p.kind (p.items.getD k Iv.zero).it).length ≤ ((p.items.map Iv.it).flatMap (It.bytes p.kind)).length from flat_part _ p.items k hk)
  have HST := hide fun (k : Nat) (hk : k < p.items.length) => (show ((p.items.map Iv.it).take (k + 1)).flatMap (It.bytes p.kind) = ((p.items.map Iv.it).take k).flatMap (It.bytes p.kind) ++ It.bytes p.kind (p.items.getD k Iv.zero).it from flat_snoc _ p.items k hk)
  have WI := hide fun (w1 : World) (l' : List Nat) (k : Nat) (hk : k < p.items.length) (h : Wk v G' w1 b l') (hG : Gl G' w1) (hl : l'.length + (It.bytes p.kind (p.items.getD k Iv.zero).it).length ≤ 512) => writeItem_any v w1 G' b l' p.kind hk12 (p.items.getD k Iv.zero) h hG (hW.i.it.1 _ (getD_memR hk)) (hW.s.fits (by show (p.items.getD k Iv.zero).it ∈ p.items.map Iv.it; exact List.mem_map_of_mem (getD_memR hk))) hl
  have HR := hide fun (w1 : World) (hb : Below v.heap.size v w1) (k : Nat) (hk : k < p.items.length) => (hW.i.it.keep hb).at hk
  have HALL : Hid (((p.items.map Iv.it).take p.items.length).flatMap (It.bytes p.kind) = (p.items.map Iv.it).flatMap (It.bytes p.kind)) := by show _ = _; rw [List.take_of_length_le (by simp)]
  have HL := hide hl
  clear h hW hby hsz hG' hG q1 hb2 hkn hl
  obtain ⟨kind, level, aI, cI, items, aD, cD, data, next⟩ := p
  simp only [ctc] at *
  subst hln hnn hgg
  go_enter Tryz.func58, Tryz.ntmps58
  obtain ⟨c0, c1, c2, c3, c4, c5, c6⟩ := HQ.out _ _ D0.out
  go_wp2_with (go_at_call 79; refine (wPut8 D0.out.k (D0.out.gl HGL.out) items.length (by omega) (by have := HL.out; omega)).mono ?_; rintro y w4 ⟨rfl, hd⟩; have D0 := hide (D0.out.trans hd); obtain ⟨c0, c1, c2, c3, c4, c5, c6⟩ := HQ.out _ _ D0.out; clear hd)
  go_loopw [7, 52] (fun _ i wx => ∃ k : Nat, k ≤ items.length ∧ i = .int .i64 k ∧ Dk v G' w2 wx b (l ++ numB items.length 1 ++ ((items.map Iv.it).take k).flatMap (It.bytes kind))) (fun _ i _ => items.length - (intOf i).toNat)
  case atStart => exact ⟨0, Nat.zero_le _, rfl, by simpa using D0.out⟩
  case round =>
    clear D0 c0 c1 c2 c3 c4 c5 c6
    obtain ⟨k, hk, rfl, hd⟩ := hrel
    have D0 := hide hd
    obtain ⟨c0, c1, c2, c3, c4, c5, c6⟩ := HQ.out _ _ hd
    clear hd
    by_cases hlt : k < items.length
    · have hlti : (k : Int) < (items.length : Int) := by omega
      have hj1 := w64 (j := k) (by omega)
      obtain ⟨bI, off, rfl, hr⟩ := HR.out _ D0.out.k.1 k hlt
      obtain ⟨k0, k1, k2, k3⟩ := range4 hr
      have W1 := hide fun (w1 : World) (l' : List Nat) => WI.out w1 l' k hlt
      have HS1 := hide (HST.out k hlt)
      have HE1 := hide (HLE.out k hlt)
      clear hr WI HST HLE HR
      generalize items.getD k Iv.zero = x at *
      have D1 := hide (D0.out.keep (al _ (.cells x.cs 55)))
      obtain ⟨e0, e1, e2, e3, e4, e5, e6⟩ := HQ.out _ _ D1.out
      obtain ⟨aK, cK, key, aV, cV, val, child, size⟩ := x
      simp only [Iv.cs, Iv.vl] at *
      go_wp2_with (go_at_call 81; refine (W1.out _ _ D1.out.k (D1.out.gl HGL.out) (by have := HE1.out; have := HL.out; simp only [List.length_append, numB_length]; omega)).mono ?_; rintro y w4 ⟨rfl, hd⟩; have D0 := hide (D1.out.trans hd); clear hd)
      go_roundw
      case rel => exact ⟨k + 1, by omega, by first | (go_num; done) | exact congrArg (Value.int IntKind.i64) (by omega), by rw [HS1.out, ← List.append_assoc]; exact D0.out⟩
      case measure => first | exact meas_up _ _ _ hj1 hlt | exact meas_up _ _ _ rfl hlt | (simp [intOf]; omega)
    · obtain rfl : k = items.length := by omega
      go_wp2
      go_end0
      exact ⟨rfl, by have := HFIN.out _ _ D0.out; rw [HALL.out, List.append_assoc] at this; exact this⟩
end Go.Proofs.YtlneomgjjkfnoabGreat
