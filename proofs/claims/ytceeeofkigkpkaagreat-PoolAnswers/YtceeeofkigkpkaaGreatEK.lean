import Derived.Test.YtceeeofkigkpkaaGreatEF
import Derived.Test.YtceeeofkigkpkaaGreatUT
namespace Go.Proofs.YtceeeofkigkpkaaGreat
set_option linter.unusedVariables false
open Go.RowKit

/-! ### a pool is made -/
def Po.start (r : Int) (C : List Int) : Po := ⟨r, C.map fun c => (c, decide (0 < c)), [], 0⟩
def nilPd (g : Nat) : Pd := ⟨g, fun _ => 0, fun _ => none, fun _ => 0, fun _ => [], none, 0, []⟩
def inQ (D : Pd) (s t : Nat) : Value := if t < s then .pointer (some ⟨D.s t, 0, none⟩) else .pointer none
def boxZ (r : Int) (n : Nat) (D : Pd) (s : Nat) : Array Value := #[.int .i64 r, .slice (some ⟨D.g, 0, none⟩) n n, inQ D s 0, inQ D s 1, inQ D s 2, inQ D s 3, inQ D s 4, .slice none 0 0, .int .i64 0]
/-- a pool some of whose sets are there -/
structure Pz (w0 w : World) (b : Nat) (r : Int) (n : Nat) (D : Pd) (s : Nat) (col : Nat → Nat) : Prop where
  box : w.heap[b]? = some (.cells (boxZ r n D s) 70 (0, 0))
  pgs : w.heap[D.g]? = some (.cells (pgc (List.replicate n Pg.zero)).toArray 74 (0, 0))
  set : ∀ t, t < s → St w (D.s t) (D.a t) (D.c t) (D.L t)
  emp : ∀ t, t < s → ∀ z, has (D.L t) z = false
  na : D.aa = none ∧ D.ac = 0 ∧ D.B = []
  cb : col b = 1
  cg : col D.g = 2
  cs : ∀ t, t < s → col (D.s t) = 3 + t
  ca : ∀ t, t < s → ∀ x, D.a t = some x → col x.block = 3 + t
  lt : ∀ k, col k ≠ 0 → k < w.heap.size ∧ w0.heap.size ≤ k
  bl : Below w0.heap.size w0 w
theorem zeroPg : ∀ w, (zeroValue 74).run Tryz.prog w = .ok (.agg #[.int .i64 0, .bool false]) w := Tryz.zeroValue74
theorem infoPg : (Tryz.prog.info? 74).map (fun i => (i.zero, i.size, i.bytes)) = some (some (.agg #[.int .i64 0, .bool false]), 2, 16) := by kernel_rfl
theorem make_pgs (n : Nat) (hc : n ≤ 65536) (w : World) : (Instr.makeSlice 66 (.int .i64 (n : Int)) (.int .i64 (n : Int))).run Tryz.prog w = .ok (.slice (some ⟨w.heap.size, 0, none⟩) n n) (w.alloc (.cells (madeCells #[.int .i64 0, .bool false] (n * 2)) 74)) := by
  obtain ⟨i0, hi, hz0, hz1, hz2⟩ := info_parts infoPg
  have hr := run_make (P := Tryz.prog) w 66 74 i0 (.agg #[.int .i64 0, .bool false]) Tryz.underlying66 hi hz0 .i64 .i64 n n (by omega) (by omega) (by rw [hz2]; omega) (by omega)
  simp only [Int.toNat_natCast, hz1] at hr
  exact hr
theorem made_pgs (n : Nat) : madeCells #[Value.int .i64 0, Value.bool false] (n * 2) = (pgc (List.replicate n Pg.zero)).toArray := by
  unfold madeCells
  apply Array.ext
  · simp [pgc_length]
  · intro i h1 h2
    have hi : i / 2 < n := by simp at h1; omega
    have hg := pgc_get (List.replicate n Pg.zero) (i / 2) (by rw [List.length_replicate]; exact hi)
    have e : (List.replicate n Pg.zero).getD (i / 2) Pg.zero = Pg.zero := by simp [List.getD_eq_getElem?_getD, hi]
    rw [e] at hg
    have h2' : i < (pgc (List.replicate n Pg.zero)).length := by simpa using h2
    rcases Nat.mod_two_eq_zero_or_one i with m | m
    · have e2 : i = i / 2 * 2 := by omega
      have := hg.1
      rw [← e2, List.getElem?_eq_getElem h2'] at this
      simp only [Option.some.injEq] at this
      simp [m]
      exact this.symm
    · have e2 : i = i / 2 * 2 + 1 := by omega
      have := hg.2
      rw [← e2, List.getElem?_eq_getElem h2'] at this
      simp only [Option.some.injEq] at this
      simp [m]
      exact this.symm
/-- one set more -/
theorem Pz.next {w0 w W w' : World} {b : Nat} {r : Int} {n : Nat} {D : Pd} {s : Nat} {col : Nat → Nat} (h : Pz w0 w b r n D s col) (hs : s < 5) (hW : Below w.heap.size w W) {b' : Nat} {a' : Option Addr} {c' : Nat} {R : List Rn} (hN : Nw W w' b' a' c' R) (hR : ∀ z, has R z = false) :
    Pz w0 (w'.setCell ⟨b, 2 + s, none⟩ (.pointer (some ⟨b', 0, none⟩))) b r n { D with s := upd D.s s b', a := upd D.a s a', c := upd D.c s c', L := upd D.L s R } (s + 1) (recol col w w' (3 + s)) := by
  have bw : Below w.heap.size w w' := bt hW hN.w
  have old : ∀ {k : Nat}, col k ≠ 0 → recol col w w' (3 + s) k = col k := fun hk => recol_old (h.lt _ hk).1
  have lb := (h.lt b (by rw [h.cb]; decide))
  have bS : But (fun k => k = b) w (w'.setCell ⟨b, 2 + s, none⟩ (.pointer (some ⟨b', 0, none⟩))) := (But.ofBelow (S := fun k => k = b) bw).setCell (p := ⟨b, 2 + s, none⟩) (fun _ => rfl) _
  have bS' : But (fun k => k = b) w' (w'.setCell ⟨b, 2 + s, none⟩ (.pointer (some ⟨b', 0, none⟩))) := (But.refl (fun k => k = b) _).setCell (p := ⟨b, 2 + s, none⟩) (fun _ => rfl) _
  have hsz := hW.size
  have nb : ∀ k, w.heap.size ≤ k → k ≠ b := fun k hk e => by omega
  have hb' : w'.heap[b]? = _ := (bw.block b lb.1).trans h.box
  refine ⟨?_, bS.same h.pgs (fun e => by have := h.cg; rw [e, h.cb] at this; cases this), fun t ht => ?_, fun t ht z => ?_, h.na, (old (by rw [h.cb]; decide)).trans h.cb, (old (by rw [h.cg]; decide)).trans h.cg, fun t ht => ?_, fun t ht x hx => ?_, fun k hk => ?_, ?_⟩
  · rw [heap_setCell_same _ _ _ _ _ _ hb']
    rcases lt5 hs with rfl | rfl | rfl | rfl | rfl <;> rfl
  · show St _ (upd D.s s b' t) (upd D.a s a' t) (upd D.c s c' t) (upd D.L s R t)
    by_cases e : t = s
    · subst e
      rw [upd_same, upd_same, upd_same, upd_same]
      exact hN.st.but bS' (nb _ (Nat.le_trans hsz hN.b)) (fun x hx => nb _ (Nat.le_trans hsz (hN.a x hx)))
    · rw [upd_ne _ _ e, upd_ne _ _ e, upd_ne _ _ e, upd_ne _ _ e]
      have ht' : t < s := by omega
      exact (h.set t ht').but bS (fun e2 => by have := h.cs t ht'; rw [e2, h.cb] at this; omega) (fun x hx e2 => by have := h.ca t ht' x hx; rw [e2, h.cb] at this; omega)
  · show has (upd D.L s R t) z = false
    by_cases e : t = s
    · subst e; rw [upd_same]; exact hR z
    · rw [upd_ne _ _ e]; exact h.emp t (by omega) z
  · show recol col w w' (3 + s) (upd D.s s b' t) = 3 + t
    by_cases e : t = s
    · subst e; rw [upd_same]; exact recol_new (Nat.le_trans hsz hN.b) hN.st.lt
    · rw [upd_ne _ _ e, old (by rw [h.cs t (by omega)]; omega)]; exact h.cs t (by omega)
  · have hx : upd D.a s a' t = some x := hx
    by_cases e : t = s
    · subst e; rw [upd_same] at hx; exact recol_new (Nat.le_trans hsz (hN.a x hx)) (hN.st.row.lt hx)
    · rw [upd_ne _ _ e] at hx
      rw [old (by rw [h.ca t (by omega) x hx]; omega)]; exact h.ca t (by omega) x hx
  · by_cases e : k < w.heap.size
    · rw [recol_old e] at hk
      exact ⟨Nat.lt_of_lt_of_le e bS.size, (h.lt k hk).2⟩
    · exact ⟨Nat.lt_of_lt_of_le (recol_lt bw.size hk) bS'.size, by have := h.bl.size; omega⟩
  · exact ((But.ofBelow (S := fun _ => False) (bt h.bl bw)).setCell (p := ⟨b, 2 + s, none⟩) (fun e => by have e : b < w0.heap.size := e; omega) _).below (fun _ _ h => h)
theorem Pz.done {w0 w : World} {b : Nat} {r : Int} {n : Nat} {D : Pd} {col : Nat → Nat} (h : Pz w0 w b r n D 5 col) : Pq w b ⟨r, List.replicate n Pg.zero, [], 0⟩ D col := by
  obtain ⟨n1, n2, n3⟩ := h.na
  refine ⟨?_, h.pgs, h.set, ?_, by rw [n3]; rfl, fun q hq => (by rw [n3] at hq; cases hq), h.cb, h.cg, h.cs, h.ca, fun x hx => (by rw [n1] at hx; cases hx), fun t ht => (by rw [n3] at ht; cases ht), fun k hk => (h.lt k hk).1⟩
  · rw [h.box]
    show some (Obj.cells _ _ _) = some (Obj.cells (boxC _ _) _ _)
    unfold boxC boxZ inQ
    simp [n1, n2]
  · rw [n1, n2, n3]; exact Gw.nil _ _ _
end Go.Proofs.YtceeeofkigkpkaaGreat
