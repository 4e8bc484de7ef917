import Derived.Test.YtdngdcjjhabfiaaPG
namespace Go.Proofs.Ytdngdcjjhabfiaa
open Go.RowKit

theorem dr1 (w : World) : Below w.heap.size w w.drew := (Below.refl _ _).drew
theorem tell2 (w0 : World) (w : World) (kb e : Nat) (g g2 : Nat) (cs cs2 : Array Value) (h : Kt w0 kb w e) (hg : Bx w 25 g cs) (hg2 : Bx w 47 g2 cs2) (ne : g ≠ kb) (ne2 : g2 ≠ kb) (wrong : Bool) (xi : Int) (hx : 0 ≤ xi) :
    Calls Try.prog 50 #[.bool wrong, .int .i64 xi, .pointer (some ⟨kb, 0, none⟩)] w fun y w' => y = .returned (.tuple #[]) ∧ Kt w0 kb w' (tel e wrong xi.toNat) ∧ Bx w' 25 g cs ∧ Bx w' 47 g2 cs2 := by
  refine (tell_any w0 w kb e 25 g cs h hg ne wrong xi xi.toNat (by omega)).mono ?_
  rintro y w' ⟨rfl, h1, h2, h3⟩
  exact ⟨rfl, h1, h2, hg2.but h3 ne2⟩
theorem item_new (w : World) (cs cs2 : Array Value) : Bx ((w.alloc (.cells cs 25)).alloc (.cells cs2 47)) 47 (w.heap.size + 1) cs2 := by
  have := Bx.new (w.alloc (.cells cs 25)) 47 cs2
  rwa [size_alloc] at this
/-- what is wrong with an item, behind a key -/
def itmE (kind : Int) (i : Nat) (x : It) (prev : List Nat) : Nat :=
  if (if kind = 2 ∧ i = 0 then decide (x.key.length = 0) else decide (1 ≤ x.key.length) && decide (x.key.length ≤ 24)) = false then 7
  else if (decide (i = 0) || decide (cmpB prev x.key < 0)) = false then 11 else if x.valOk kind = false then 8 else if x.kidOk kind = false then 15 else 0
theorem itmE_eq (p : Pg) (i : Nat) : p.itemE i = itmE p.kind i (p.at i) (p.at (i - 1)).key := by
  unfold Pg.itemE itmE Pg.keyOk Pg.ordOk
  have h : decide (0 < cmpB (p.at i).key (p.at (i - 1)).key) = decide (cmpB (p.at (i - 1)).key (p.at i).key < 0) := by
    rw [cmpB_flip (p.at (i - 1)).key (p.at i).key, decide_eq_decide]; omega
  rw [h]
theorem fin4 (e : Nat) (k o v c : Bool) : tel (tel (tel (tel e (!k) 7) (!o) 11) (!v) 8) (!c) 15 = els e (if k = false then 7 else if o = false then 11 else if v = false then 8 else if c = false then 15 else 0) := by
  unfold tel els
  by_cases he : e = 0 <;> cases k <;> cases o <;> cases v <;> cases c <;> simp [he]
theorem fin2 (e : Nat) (k o v c : Bool) : els (tel (tel e (!k) 7) (!o) 11) (if v = false then 8 else if c = false then 15 else 0) = els e (if k = false then 7 else if o = false then 11 else if v = false then 8 else if c = false then 15 else 0) := by
  unfold tel els
  by_cases he : e = 0 <;> cases k <;> cases o <;> cases v <;> cases c <;> simp [he]
theorem idx_fin (e i : Nat) (x : It) (prev : List Nat) (a b c d : Bool) (ha : a = !(if (2 : Int) = 2 ∧ i = 0 then decide (x.key.length = 0) else decide (1 ≤ x.key.length) && decide (x.key.length ≤ 24))) (hb : b = !(decide (i = 0) || decide (cmpB prev x.key < 0)))
    (hc : c = !(decide (x.val.length = 0) && decide (x.size = 0))) (hd : d = !isNum x.child) : tel (tel (tel (tel e a (Int.toNat 7)) b (Int.toNat 11)) c (Int.toNat 8)) d (Int.toNat 15) = els e (itmE 2 i x prev) := by
  have hv : x.valOk 2 = (decide (x.val.length = 0) && decide (x.size = 0)) := by unfold It.valOk; rw [if_pos rfl]
  have hk : x.kidOk 2 = isNum x.child := by unfold It.kidOk; rw [if_neg (by simp)]
  rw [← hv] at hc
  rw [← hk] at hd
  rw [ha, hb, hc, hd]
  unfold itmE
  exact fin4 _ _ _ _ _
theorem leaf_fin (e i : Nat) (x : It) (prev : List Nat) (a b : Bool) (ha : a = !(decide (1 ≤ x.key.length) && decide (x.key.length ≤ 24))) (hb : b = !(decide (i = 0) || decide (cmpB prev x.key < 0))) :
    els (tel (tel e a (Int.toNat 7)) b (Int.toNat 11)) x.leafE = els e (itmE 1 i x prev) := by
  rw [ha, hb]
  unfold itmE It.leafE
  rw [if_neg (show ¬ ((1 : Int) = 2 ∧ i = 0) by simp)]
  exact fin2 _ _ _ _ _
end Go.Proofs.Ytdngdcjjhabfiaa
