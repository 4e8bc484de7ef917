import Derived.Test.YtdngdcjjhabfiaaPL
namespace Go.Proofs.Ytdngdcjjhabfiaa
open Go.RowKit

set_option maxRecDepth 8000 in
set_option maxHeartbeats 3200000 in
theorem writeItem_near (v w : World) (G : Nat → Prop) (b : Nat) (l : List Nat) (x : Iv) (h : Wk v G w b l) (hG : Gl G w) (hx : Ii v x) (hf : Fits 1 x.it) (h32 : x.size ≤ 32) (hl : l.length + (It.bytes 1 x.it).length ≤ 512) :
    Calls Try.prog 76 #[.pointer (some ⟨b, 0, none⟩), .int .i64 1, x.vl] w fun y w' => y = .returned (.tuple #[]) ∧ Dk v G w w' b (l ++ It.bytes 1 x.it) := by
  obtain ⟨h1, h2, h3, _⟩ := hf.leaf rfl
  obtain ⟨h3, h4⟩ := h3 h32
  have hkey := hf.key
  obtain ⟨z, hz⟩ : ∃ z : Nat, x.size = z := ⟨x.size.toNat, by have : x.it.size = x.size := rfl; omega⟩
  have hz' : z ≤ 32 := by omega
  have hvz : x.val.length = z := by have h5 : ((x.it.val.length : Nat) : Int) = x.it.size := h3; have h6 : x.it.size = x.size := rfl; have h7 : x.it.val = x.val := rfl; rw [h7] at h5; omega
  have hby : It.bytes 1 x.it = (numB x.key.length 1 ++ x.key) ++ numB z 2 ++ x.val := by
    unfold It.bytes
    rw [if_pos rfl, if_pos (show x.it.size ≤ 32 from h32)]
    show numB x.key.length 1 ++ x.key ++ (numB x.size.toNat 2 ++ x.val) = _
    rw [hz, Int.toNat_natCast, List.append_assoc, List.append_assoc, List.append_assoc]
  rw [hby] at hl ⊢
  have hl' : l.length + 1 + x.key.length + 2 + x.val.length ≤ 512 := by simp only [List.length_append, numB_length] at hl; omega
  have hk24 : x.key.length ≤ 24 := hkey
  have hzv : IntKind.u16.wrap (z : Int) = (z : Int) := by rw [IntKind.wrap_u16]; omega
  have SH := hide fun (w1 : World) => standsHere_any w1 x
  rw [show decide (x.size ≤ 32) = true from by rw [hz]; simp; omega] at SH
  have HBV := hide hx.bv
  have HBK := hide hx.bk
  have hb2 := bt (al w (.cells x.cs 47)) (al (w.alloc (.cells x.cs 47)) (.cells #[.int .i64 5, .int .i64 6, .int .i64 7] 3))
  have HB2 := hide hb2
  obtain ⟨q1, q2⟩ := bx2 w 47 3 x.cs #[.int .i64 5, .int .i64 6, .int .i64 7]
  have IP := hide (itemParts_leaf (w.alloc (.cells x.cs 47)) 1 (by decide))
  rw [size_alloc] at IP
  have hsz : ((w.alloc (.cells x.cs 47)).alloc (.cells #[.int .i64 5, .int .i64 6, .int .i64 7] 3)).heap.size = w.heap.size + 2 := by rw [size_alloc, size_alloc]
  obtain ⟨G', hG'⟩ : ∃ G' : Nat → Prop, G' = fun k => G k ∨ k = w.heap.size ∨ k = w.heap.size + 1 := ⟨_, rfl⟩
  obtain ⟨w2, hw2⟩ : ∃ w2, (w.alloc (.cells x.cs 47)).alloc (.cells #[.int .i64 5, .int .i64 6, .int .i64 7] 3) = w2 := ⟨_, rfl⟩
  rw [hw2] at q1 q2 hb2 hsz HB2
  have D0 := hide (Dk.refl (h.more hb2 G' (by subst hG'; exact fun k hk => hk.elim .inl (fun h => .inr (by omega)))))
  have HGL : Hid (Gl G' w2) := by subst hG'; exact fun k hk => hk.elim (fun h => by have := hG k h; omega) (fun h => by omega)
  have HQ := hide (fun (w3 : World) (l' : List Nat) (hd : Dk v G' w2 w3 b l') => (⟨Bx.item (hd.box q1 (by subst hG'; exact .inr (.inl rfl))), Bx.cell (hd.box q2 (by subst hG'; exact .inr (.inr rfl))) 0 rfl, Bx.cell (hd.box q2 (by subst hG'; exact .inr (.inr rfl))) 1 rfl, Bx.cell (hd.box q2 (by subst hG'; exact .inr (.inr rfl))) 2 rfl⟩ : _ ∧ w3.cell? ⟨w.heap.size + 1, 0, none⟩ = some (.int .i64 5) ∧ w3.cell? ⟨w.heap.size + 1, 1, none⟩ = some (.int .i64 6) ∧ w3.cell? ⟨w.heap.size + 1, 2, none⟩ = some (.int .i64 7)))
  have HFIN := hide (fun (w3 : World) (l' : List Nat) (hd : Dk v G' w2 w3 b l') => hd.back (G := G) HB2.out (by subst hG'; exact fun k hk => .inl hk))
  clear hvz h hx hf hby hl h1 h2 h3 h4 hkey hb2 hsz q1 q2 hG' hG
  obtain ⟨aK, cK, key, aV, cV, val, child, size⟩ := x
  simp only [Iv.cs, Iv.vl] at *
  subst hz
  go_enter Try.func76, Try.ntmps76
  go_wp2_with fail
  refine IP.out.mono ?_
  rintro y w3 ⟨rfl, hw3⟩
  rw [hw2] at hw3
  subst hw3
  clear hw2 IP
  obtain ⟨⟨c0, c1, c2, c3⟩, t0, t1, t2⟩ := HQ.out _ _ D0.out
  go_wp2
  go_loopw [7, 11] (fun _ i wx => ∃ (k : Nat) (l' : List Nat), k ≤ 3 ∧ i = .int .i64 k ∧ (k = 0 ∧ l' = l ∨ k = 1 ∧ l' = l ++ (numB key.length 1 ++ key) ∨ k = 2 ∧ l' = l ++ (numB key.length 1 ++ key) ++ numB z 2 ∨ k = 3 ∧ l' = l ++ (numB key.length 1 ++ key) ++ numB z 2 ++ val) ∧ Dk v G' w3 wx b l') (fun _ i _ => 3 - (intOf i).toNat)
  case atStart => exact ⟨0, l, by decide, rfl, .inl ⟨rfl, rfl⟩, D0.out⟩
  case round =>
    clear D0 c0 c1 c2 c3 t0 t1 t2
    obtain ⟨k, l', hk, rfl, hl2, hd⟩ := hrel
    have D0 := hide hd
    obtain ⟨⟨c0, c1, c2, c3⟩, t0, t1, t2⟩ := HQ.out _ _ hd
    clear hd
    rcases hl2 with ⟨rfl, rfl⟩ | ⟨rfl, rfl⟩ | ⟨rfl, rfl⟩ | ⟨rfl, rfl⟩
    · go_wp2_with (go_at_call 91; refine (wShort D0.out.k (D0.out.gl HGL.out) aK key.length cK key HBK.out rfl hk24 (by omega)).mono ?_; rintro y w4 ⟨rfl, hd⟩; have D0 := hide (D0.out.trans hd); clear hd)
      go_roundw
      case rel => exact ⟨1, _, by decide, rfl, .inr (.inl ⟨rfl, rfl⟩), D0.out⟩
      case measure => decide
    · go_wp2_with (go_at_call 77; refine (wPut16 D0.out.k (D0.out.gl HGL.out) z (by omega) (by simp only [List.length_append, numB_length]; omega)).mono ?_; rintro y w4 ⟨rfl, hd⟩; have D0 := hide (D0.out.trans hd); clear hd)
      go_roundw
      case rel => exact ⟨2, _, by decide, rfl, .inr (.inr (.inl ⟨rfl, rfl⟩)), D0.out⟩
      case measure => decide
    · go_wp2_with (first | (go_at_call 73; refine (SH.out _).mono ?_; rintro y w4 ⟨rfl, o4, rfl⟩; have D0 := hide (D0.out.keep (al _ o4)); obtain ⟨⟨c0, c1, c2, c3⟩, t0, t1, t2⟩ := HQ.out _ _ D0.out) | (go_at_call 78; refine (wRaw D0.out.k (D0.out.gl HGL.out) aV val.length cV val HBV.out rfl (by simp only [List.length_append, numB_length]; omega)).mono ?_; rintro y w4 ⟨rfl, hd⟩; have D0 := hide (D0.out.trans hd); clear hd))
      go_roundw
      case rel => exact ⟨3, _, by decide, rfl, .inr (.inr (.inr ⟨rfl, rfl⟩)), D0.out⟩
      case measure => decide
    · go_wp2
      go_end0
      exact ⟨rfl, by rw [← List.append_assoc, ← List.append_assoc]; exact HFIN.out _ _ D0.out⟩
end Go.Proofs.Ytdngdcjjhabfiaa
