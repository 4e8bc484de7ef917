import Derived.Test.YtbhigodjbfoeoaaGreatWpPD
namespace Go.Proofs.YtbhigodjbfoeoaaGreat
open Go.RowKit
theorem beqd (a b : Int) : (a == b) = decide (a = b) := by
  by_cases h : a = b
  · subst h; simp
  · simp [h]
set_option maxHeartbeats 400000 in
theorem isNumber_any (w : World) (n : Int) : Calls Tryz.prog 121 #[.int .i64 n] w fun e w' => e = .returned (.bool (isNum n)) ∧ w' = w := by
  unfold isNum
  by_cases h1 : 1 ≤ n
  · have h1' : decide (1 ≤ n) = true := by simpa using h1
    go_enter Tryz.func121, Tryz.ntmps121
    go_wp2
    go_ret
    exact ⟨by simp [h1], rfl⟩
  · have h1' : decide (1 ≤ n) = false := by simpa using h1
    go_enter Tryz.func121, Tryz.ntmps121
    go_wp2
    go_ret
    exact ⟨by simp, rfl⟩
set_option maxHeartbeats 400000 in
theorem standsHere_any (w : World) (r : Iv) : Calls Tryz.prog 161 #[r.vl] w fun e w' => e = .returned (.bool (decide (r.size ≤ 32))) ∧ ∃ o, w' = w.alloc o := by
  unfold Iv.vl Iv.cs
  go_enter Tryz.func161, Tryz.ntmps161
  go_wp2
  go_ret
  exact ⟨rfl, _, rfl⟩
/-! ### what keeps the first fault -/
def Kp (w : World) (kb : Nat) (e : Nat) : Prop := w.heap[kb]? = some (.cells #[.int .i64 (e : Int)] 59 (0, 0))
theorem Kp.cell {w : World} {kb e : Nat} (h : Kp w kb e) : w.cell? ⟨kb, 0, none⟩ = some (.int .i64 (e : Int)) := by rw [cell_of_row _ _ _ _ _ _ h]; rfl
theorem Kp.frozen {w : World} {kb e : Nat} (h : Kp w kb e) : w.frozen? ⟨kb, 0, none⟩ = false := frozen_of_row w kb 0 _ _ h
theorem Kp.lt {w : World} {kb e : Nat} (h : Kp w kb e) : kb < w.heap.size := (Array.getElem?_eq_some_iff.1 h).1
theorem Kp.set {w : World} {kb e : Nat} (h : Kp w kb e) (x : Nat) : Kp (w.setCell ⟨kb, 0, none⟩ (.int .i64 (x : Int))) kb x := heap_setCell_same w kb 0 _ _ _ h
theorem Kp.keep {w w' : World} {kb e : Nat} (h : Kp w kb e) (hb : Below w.heap.size w w') : Kp w' kb e := (hb.block kb h.lt).trans h
/-- the first of two -/
def tel (e : Nat) (wrong : Bool) (x : Nat) : Nat := if wrong = true ∧ e = 0 then x else e
/-- the tellers -/
def tv (kb : Nat) : Value := .func (.func 140) #[] #[.pointer (some ⟨kb, 0, none⟩)]
def fv (kb : Nat) : Value := .func (.func 141) #[] #[.pointer (some ⟨kb, 0, none⟩)]
set_option maxHeartbeats 400000 in
theorem faults_any (w : World) : Calls Tryz.prog 118 #[] w fun e w' => e = .returned (.tuple #[tv w.heap.size, fv w.heap.size]) ∧ w' = w.alloc (.cells #[.int .i64 0] 59) := by
  go_enter Tryz.func118, Tryz.ntmps118
  go_wp2
  go_ret2
  exact ⟨rfl, rfl⟩
set_option maxHeartbeats 400000 in
theorem first_any (w : World) (kb e : Nat) (h : Kp w kb e) : Calls Tryz.prog 141 #[.pointer (some ⟨kb, 0, none⟩)] w fun x w' => x = .returned (.int .i64 (e : Int)) ∧ w' = w := by
  have c := h.cell
  clear h
  go_enter Tryz.func141, Tryz.ntmps141
  go_wp2
  go_ret
  exact ⟨rfl, rfl⟩
set_option maxHeartbeats 400000 in
theorem tell_raw (w : World) (kb e : Nat) (h : Kp w kb e) (wrong : Bool) (x : Nat) : Calls Tryz.prog 140 #[.bool wrong, .int .i64 (x : Int), .pointer (some ⟨kb, 0, none⟩)] w fun y w' => y = .returned (.tuple #[]) ∧ Kp w' kb (tel e wrong x) ∧ But (fun k => k = kb) w w' := by
  have c := h.cell
  have f := h.frozen
  have H := hide h
  clear h
  cases wrong with
  | false =>
    go_enter Tryz.func140, Tryz.ntmps140
    go_wp2
    go_end0
    exact ⟨rfl, by simpa [tel] using H.out, But.refl _ _⟩
  | true =>
    by_cases he : e = 0
    · subst he
      rw [show ((0 : Nat) : Int) = 0 from rfl] at c
      go_enter Tryz.func140, Tryz.ntmps140
      go_wp2
      go_end0
      exact ⟨rfl, by simpa [tel] using H.out.set x, (But.refl (fun k => k = kb) w).setCell (p := ⟨kb, 0, none⟩) (fun _ => rfl) _⟩
    · have he' : (((e : Nat) : Int) == 0) = false := by simpa using he
      go_enter Tryz.func140, Tryz.ntmps140
      go_wp2
      go_end0
      exact ⟨rfl, by simpa [tel, he] using H.out, But.refl _ _⟩
/-- a teller whose cell is new, and memory below as it was -/
structure Kt (w0 : World) (kb : Nat) (w : World) (e : Nat) : Prop where
  c : Kp w kb e
  b : Below w0.heap.size w0 w
  l : w0.heap.size ≤ kb
theorem Kt.keep {w0 w w' : World} {kb e : Nat} (h : Kt w0 kb w e) (hb : Below w.heap.size w w') : Kt w0 kb w' e := ⟨h.c.keep hb, bt h.b hb, h.l⟩
theorem Kt.but {w0 w w' : World} {kb e e' : Nat} (h : Kt w0 kb w e) (hb : But (fun k => k = kb) w w') (hc : Kp w' kb e') : Kt w0 kb w' e' :=
  ⟨hc, ((But.ofBelow (S := fun _ => False) h.b).trans hb fun x hx e => by have := h.l; omega).below fun _ _ h => h, h.l⟩
/-- a struct that is boxed -/
def Bx (w : World) (t : TypeId) (g : Nat) (cs : Array Value) : Prop := w.heap[g]? = some (.cells cs t (0, 0))
theorem Bx.cell {w : World} {t : TypeId} {g : Nat} {cs : Array Value} (h : Bx w t g cs) (i : Nat) {v : Value} (hv : cs[i]? = some v) : w.cell? ⟨g, i, none⟩ = some v := by rw [cell_of_row _ _ _ _ _ _ h]; exact hv
theorem Bx.lt {w : World} {t : TypeId} {g : Nat} {cs : Array Value} (h : Bx w t g cs) : g < w.heap.size := (Array.getElem?_eq_some_iff.1 h).1
theorem Bx.keep {w w' : World} {t : TypeId} {g : Nat} {cs : Array Value} (h : Bx w t g cs) (hb : Below w.heap.size w w') : Bx w' t g cs := (hb.block g h.lt).trans h
theorem Bx.but {S : Nat → Prop} {w w' : World} {t : TypeId} {g : Nat} {cs : Array Value} (h : Bx w t g cs) (hb : But S w w') (hn : ¬ S g) : Bx w' t g cs := (hb.block g h.lt hn).trans h
theorem Bx.new (w : World) (t : TypeId) (cs : Array Value) : Bx (w.alloc (.cells cs t)) t w.heap.size cs := heap_alloc_new _ _
theorem Bx.page {w : World} {g : Nat} {p : Pv} (h : Bx w 93 g p.cs) : w.cell? ⟨g, 0, none⟩ = some (.int .i64 p.kind) ∧ w.cell? ⟨g, 1, none⟩ = some (.int .i64 p.level) ∧ w.cell? ⟨g, 2, none⟩ = some (.slice p.aI p.items.length p.cI) ∧ w.cell? ⟨g, 3, none⟩ = some (.slice p.aD p.data.length p.cD) ∧ w.cell? ⟨g, 4, none⟩ = some (.int .i64 p.next) :=
  ⟨h.cell 0 rfl, h.cell 1 rfl, h.cell 2 rfl, h.cell 3 rfl, h.cell 4 rfl⟩
theorem Bx.item {w : World} {g : Nat} {p : Iv} (h : Bx w 34 g p.cs) : w.cell? ⟨g, 0, none⟩ = some (.slice p.aK p.key.length p.cK) ∧ w.cell? ⟨g, 1, none⟩ = some (.slice p.aV p.val.length p.cV) ∧ w.cell? ⟨g, 2, none⟩ = some (.int .i64 p.child) ∧ w.cell? ⟨g, 3, none⟩ = some (.int .i64 p.size) :=
  ⟨h.cell 0 rfl, h.cell 1 rfl, h.cell 2 rfl, h.cell 3 rfl⟩
/-- one call of a teller: what is boxed stays -/
theorem tell_any (w0 : World) (w : World) (kb e : Nat) (t : TypeId) (g : Nat) (cs : Array Value) (h : Kt w0 kb w e) (hg : Bx w t g cs) (ne : g ≠ kb) (wrong : Bool) (xi : Int) (x : Nat) (hx : xi = x) :
    Calls Tryz.prog 140 #[.bool wrong, .int .i64 xi, .pointer (some ⟨kb, 0, none⟩)] w fun y w' => y = .returned (.tuple #[]) ∧ Kt w0 kb w' (tel e wrong x) ∧ Bx w' t g cs ∧ But (fun k => k = kb) w w' := by
  subst hx
  refine (tell_raw w kb e h.c wrong x).mono ?_
  rintro y w' ⟨rfl, h1, h2⟩
  exact ⟨rfl, h.but h2 h1, hg.but h2 ne, h2⟩
set_option maxHeartbeats 800000 in
theorem hasItemsAlone_any (w : World) (p : Pv) (f : Int) : Calls Tryz.prog 142 #[p.vl, .int .i64 f] w fun e w' => e = .returned (.bool (decide (f ≤ p.items.length) && decide (p.items.length ≤ 8) && decide (p.data.length = 0) && decide (p.next = 0))) ∧ Below w.heap.size w w' := by
  unfold Pv.vl Pv.cs
  obtain ⟨kind, level, aI, cI, items, aD, cD, data, next⟩ := p
  dsimp only
  generalize items.length = n
  generalize data.length = d
  by_cases h1 : f ≤ (n : Int)
  · by_cases h2 : (n : Int) ≤ 8
    · by_cases h3 : d = 0
      · subst h3
        have h1' : decide (f ≤ (n : Int)) = true := by simpa using h1
        have h2' : decide ((n : Int) ≤ 8) = true := by simpa using h2
        have h2n : decide (n ≤ 8) = true := by simp; omega
        go_enter Tryz.func142, Tryz.ntmps142
        go_wp2
        go_ret
        exact ⟨by simp [h1', h2n, beqd], al _ _⟩
      · have h1' : decide (f ≤ (n : Int)) = true := by simpa using h1
        have h2' : decide ((n : Int) ≤ 8) = true := by simpa using h2
        have h3' : (((d : Nat) : Int) == 0) = false := by simpa using h3
        go_enter Tryz.func142, Tryz.ntmps142
        go_wp2
        go_ret
        exact ⟨by simp [h3], al _ _⟩
    · have h1' : decide (f ≤ (n : Int)) = true := by simpa using h1
      have h2' : decide ((n : Int) ≤ 8) = false := by simpa using h2
      have h2n : decide (n ≤ 8) = false := by simp; omega
      go_enter Tryz.func142, Tryz.ntmps142
      go_wp2
      go_ret
      exact ⟨by simp, al _ _⟩
  · have h1' : decide (f ≤ (n : Int)) = false := by simpa using h1
    go_enter Tryz.func142, Tryz.ntmps142
    go_wp2
    go_ret
    exact ⟨by simp, al _ _⟩
end Go.Proofs.YtbhigodjbfoeoaaGreat
namespace Go.Proofs.YtbhigodjbfoeoaaGreat
open Go.RowKit
theorem box_ne {w0 w : World} {kb e : Nat} (h : Kt w0 kb w e) : w.heap.size ≠ kb := by have := h.c.lt; omega
/-- what is wrong with a page's kind and form -/
def Pg.formE (p : Pg) : Nat := if p.kindOk = false then 22 else if p.form = false then 5 else 0
set_option maxHeartbeats 1600000 in
theorem checkForm_any (w0 w : World) (kb : Nat) (p : Pv) (h : Kt w0 kb w 0) : Calls Tryz.prog 119 #[p.vl, tv kb] w fun x w' => x = .returned (.tuple #[]) ∧ Kt w0 kb w' p.pg.formE := by
  have hne := box_ne h
  have H := hide (h.keep (al w (.cells p.cs 93)))
  have B := hide (Bx.new w 93 p.cs)
  have TN := hide fun (w1 : World) (e : Nat) (hk : Kt w0 kb w1 e) (hB : Bx w1 93 w.heap.size p.cs) (wrong : Bool) (xi : Int) (x : Nat) (hx : xi = x) => tell_any w0 w1 kb e 93 w.heap.size p.cs hk hB hne wrong xi x hx
  have HA := hide fun (w1 : World) (f : Int) => hasItemsAlone_any w1 p f
  have PG := hide fun (w1 : World) (hB : Bx w1 93 w.heap.size p.cs) => Bx.page hB
  clear h
  obtain ⟨kind, level, aI, cI, items, aD, cD, data, next⟩ := p
  unfold Pv.vl tv
  simp only [Pv.cs, Pv.vl] at *
  by_cases k1 : kind = 1
  · subst k1
    go_enter Tryz.func119, Tryz.ntmps119
    go_wp2_with (first | (go_at_call 140; refine (TN.out _ _ H.out B.out _ _ 5 rfl).mono ?_; rintro y w1 ⟨rfl, hk, hb, _⟩; have H := hide hk; have B := hide hb; obtain ⟨c0, c1, c2, c3, c4⟩ := PG.out _ hb; clear hk hb) | (go_at_call 142; refine (HA.out _ _).mono ?_; rintro y w1 ⟨rfl, hbl⟩; have H := hide (H.out.keep hbl); have B := hide (B.out.keep hbl); obtain ⟨c0, c1, c2, c3, c4⟩ := PG.out _ B.out; clear hbl))
    all_goals (go_end0; refine ⟨rfl, (congrArg (Kt w0 kb _) ?_).mp H.out⟩; simp [tel, Pg.formE, Pg.kindOk, Pg.form, Pv.pg]; grind)
  · by_cases k2 : kind = 2
    · subst k2
      go_enter Tryz.func119, Tryz.ntmps119
      go_wp2_with (first | (go_at_call 140; refine (TN.out _ _ H.out B.out _ _ 5 rfl).mono ?_; rintro y w1 ⟨rfl, hk, hb, _⟩; have H := hide hk; have B := hide hb; obtain ⟨c0, c1, c2, c3, c4⟩ := PG.out _ hb; clear hk hb) | (go_at_call 142; refine (HA.out _ _).mono ?_; rintro y w1 ⟨rfl, hbl⟩; have H := hide (H.out.keep hbl); have B := hide (B.out.keep hbl); obtain ⟨c0, c1, c2, c3, c4⟩ := PG.out _ B.out; clear hbl))
      all_goals (go_end0; refine ⟨rfl, (congrArg (Kt w0 kb _) ?_).mp H.out⟩; simp [tel, Pg.formE, Pg.kindOk, Pg.form, Pv.pg]; grind)
    · by_cases k3 : kind = 3
      · subst k3
        go_enter Tryz.func119, Tryz.ntmps119
        go_wp2_with (first | (go_at_call 140; refine (TN.out _ _ H.out B.out _ _ 5 rfl).mono ?_; rintro y w1 ⟨rfl, hk, hb, _⟩; have H := hide hk; have B := hide hb; obtain ⟨c0, c1, c2, c3, c4⟩ := PG.out _ hb; clear hk hb) | (go_at_call 142; refine (HA.out _ _).mono ?_; rintro y w1 ⟨rfl, hbl⟩; have H := hide (H.out.keep hbl); have B := hide (B.out.keep hbl); obtain ⟨c0, c1, c2, c3, c4⟩ := PG.out _ B.out; clear hbl))
        all_goals (go_end0; refine ⟨rfl, (congrArg (Kt w0 kb _) ?_).mp H.out⟩; clear H B TN HA PG; have hi : (0 < items.length) = ¬ items = [] := (by rw [List.length_pos_iff]); simp [tel, Pg.formE, Pg.kindOk, Pg.form, Pv.pg]; grind)
      · have k1' : (kind == 1) = false := by simpa using k1
        have k2' : (kind == 2) = false := by simpa using k2
        have k3' : (kind == 3) = false := by simpa using k3
        go_enter Tryz.func119, Tryz.ntmps119
        go_wp2_with (go_at_call 140; refine (TN.out _ _ H.out B.out _ _ 22 rfl).mono ?_; rintro y w1 ⟨rfl, hk, hb, _⟩; have H := hide hk)
        all_goals (go_end0; refine ⟨rfl, (congrArg (Kt w0 kb _) ?_).mp H.out⟩; simp [tel, Pg.formE, Pg.kindOk, Pg.form, Pv.pg]; grind)
end Go.Proofs.YtbhigodjbfoeoaaGreat
namespace Go.Proofs.YtbhigodjbfoeoaaGreat
open Go.RowKit
/-- what is wrong with a leaf's value and child -/
def It.leafE (x : It) : Nat := if x.valOk 1 = false then 8 else if x.kidOk 1 = false then 15 else 0
/-- the first of two faults -/
def els (e x : Nat) : Nat := if e ≠ 0 then e else x
set_option maxHeartbeats 1600000 in
theorem checkValue_any (w0 w : World) (kb e : Nat) (p : Iv) (h : Kt w0 kb w e) : Calls Tryz.prog 144 #[p.vl, tv kb] w fun x w' => x = .returned (.tuple #[]) ∧ Kt w0 kb w' (els e p.it.leafE) ∧ But (fun k => k = kb) w w' := by
  have hne := box_ne h
  have H := hide (h.keep (al w (.cells p.cs 34)))
  have B := hide (Bx.new w 34 p.cs)
  have U := hide (But.ofBelow (S := fun k => k = kb) (al w (.cells p.cs 34)))
  have TN := hide fun (w1 : World) (e : Nat) (hk : Kt w0 kb w1 e) (hB : Bx w1 34 w.heap.size p.cs) (wrong : Bool) (xi : Int) (hx : 0 ≤ xi) => tell_any w0 w1 kb e 34 w.heap.size p.cs hk hB hne wrong xi xi.toNat (by omega)
  have SH := hide fun (w1 : World) => standsHere_any w1 p
  have PG := hide fun (w1 : World) (hB : Bx w1 34 w.heap.size p.cs) => Bx.item hB
  clear h
  obtain ⟨aK, cK, key, aV, cV, val, child, size⟩ := p
  unfold Iv.vl tv
  simp only [Iv.cs, Iv.vl] at *
  by_cases h32 : size ≤ 32
  · have h32' : decide (size ≤ 32) = true := by simpa using h32
    rw [h32'] at SH
    go_enter Tryz.func144, Tryz.ntmps144
    go_wp2_with (first | (go_at_call 140; refine (TN.out _ _ H.out B.out _ _ (by decide)).mono ?_; rintro y w1 ⟨rfl, hk, hb, UU⟩; have U := hide (U.out.trans UU (fun _ _ h => h)); have H := hide hk; have B := hide hb; obtain ⟨c0, c1, c2, c3⟩ := PG.out _ hb; clear hk hb) | (go_at_call 161; refine (SH.out _).mono ?_; rintro y w1 ⟨rfl, o1, rfl⟩; have U := hide (U.out.andBelow (al _ o1)); have H := hide (H.out.keep (al _ o1)); have B := hide (B.out.keep (al _ o1)); obtain ⟨c0, c1, c2, c3⟩ := PG.out _ B.out) | (go_at_call 121; refine (isNumber_any _ _).mono ?_; rintro y w1 ⟨rfl, hww⟩; obtain rfl := hww.symm))
    all_goals (go_end0; refine ⟨rfl, (congrArg (Kt w0 kb _) ?_).mp H.out, U.out⟩; clear H B TN SH PG; have hi : (0 < val.length) = ¬ val = [] := (by rw [List.length_pos_iff]); simp [tel, els, It.leafE, It.valOk, It.kidOk, Iv.it, h32]; grind)
  · have h32' : decide (size ≤ 32) = false := by simpa using h32
    rw [h32'] at SH
    go_enter Tryz.func144, Tryz.ntmps144
    go_wp2_with (first | (go_at_call 140; refine (TN.out _ _ H.out B.out _ _ (by decide)).mono ?_; rintro y w1 ⟨rfl, hk, hb, UU⟩; have U := hide (U.out.trans UU (fun _ _ h => h)); have H := hide hk; have B := hide hb; obtain ⟨c0, c1, c2, c3⟩ := PG.out _ hb; clear hk hb) | (go_at_call 161; refine (SH.out _).mono ?_; rintro y w1 ⟨rfl, o1, rfl⟩; have U := hide (U.out.andBelow (al _ o1)); have H := hide (H.out.keep (al _ o1)); have B := hide (B.out.keep (al _ o1)); obtain ⟨c0, c1, c2, c3⟩ := PG.out _ B.out) | (go_at_call 121; refine (isNumber_any _ _).mono ?_; rintro y w1 ⟨rfl, hww⟩; obtain rfl := hww.symm))
    all_goals (go_end0; refine ⟨rfl, (congrArg (Kt w0 kb _) ?_).mp H.out, U.out⟩; clear H B TN SH PG; have hi : (0 < val.length) = ¬ val = [] := (by rw [List.length_pos_iff]); simp [tel, els, It.leafE, It.valOk, It.kidOk, Iv.it]; grind)
end Go.Proofs.YtbhigodjbfoeoaaGreat
