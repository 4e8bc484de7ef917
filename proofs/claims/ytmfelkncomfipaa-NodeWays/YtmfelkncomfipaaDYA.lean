import Derived.Test.YtmfelkncomfipaaDY
namespace Go.Proofs.Ytmfelkncomfipaa
set_option linter.unusedVariables false
set_option linter.unusedSimpArgs false
open Go.RowKit
theorem Pj.copy {w : World} {p : Pv} (h : Pj w p) : Calls Try.prog 17 #[p.vl] w fun e w' => ∃ q : Pv, e = .returned q.vl ∧ Pj w' q ∧ Pn w w' q ∧ q.pg = p.pg ∧ Below w.heap.size w w' :=
  (CopyPage_pn w p h.i h.d (by have := h.n; omega) h.s).mono fun _ _ ⟨q, e, hn, hl, hg, hb⟩ => ⟨q, e, ⟨hn.pi (by have := h.n; omega), by rw [show q.data = p.data from congrArg Pg.data hg]; exact h.d, by rw [hl]; exact h.n, fun r hr => by
    have e1 : q.items.map Iv.it = p.items.map Iv.it := congrArg Pg.items hg
    have hm : r.it ∈ p.items.map Iv.it := by rw [← e1]; exact List.mem_map_of_mem hr
    obtain ⟨x, hx, ex⟩ := List.mem_map.1 hm
    have k := h.s x hx
    have a1 : x.key = r.key := congrArg It.key ex
    have a2 : x.val = r.val := congrArg It.val ex
    rw [← a1, ← a2]
    exact k⟩, hn, hg, hb⟩
theorem Pi.keys8 {w : World} {p : Pv} (h : Pi w p) : ∀ x ∈ p.pg.items, B8 x.key := fun x hx => (h.b8.1 x hx).1
theorem fit_sml {l r : Pg} {s : List Nat} (h : Fit l r s) : (∀ x ∈ l.items, x.key.length ≤ 24 ∧ x.val.length ≤ 3840) ∧ (∀ x ∈ r.items, x.key.length ≤ 24 ∧ x.val.length ≤ 3840) ∧ l.data = [] ∧ r.data = [] ∧ l.items.length ≤ 8 ∧ r.items.length ≤ 8 := by
  have h3 : l.kind ≠ 3 := h.2.2.2.2.1
  have h3r : r.kind ≠ 3 := by rw [← h.2.2.1]; exact h3
  have v : ∀ p : Pg, p.check = 0 → p.kind ≠ 3 → ∀ x ∈ p.items, x.key.length ≤ 24 ∧ x.val.length ≤ 3840 := fun p hc hk x hx => by
    have f := (Pg.check_zero.1 hc).fits hx
    have hq := okp_of hk hc
    refine ⟨f.key, ?_⟩
    rcases hq.k with k1 | k1
    · have a := f.leaf k1
      by_cases hz : x.size ≤ 32
      · have := (a.2.2.1 hz).1; omega
      · rw [(a.2.2.2 (by omega)).1]; simp
    · rw [(f.index k1).1]; simp
  have o1 := okp_of h3 h.1
  have o2 := okp_of h3r h.2.1
  exact ⟨v l h.1 h3, v r h.2.1 h3r, o1.d, o2.d, o1.ln, o2.ln⟩
theorem Pn.smlF {P : Pv} {L : Pg} (e : P.pg = L) (h : ∀ x ∈ L.items, x.key.length ≤ 24 ∧ x.val.length ≤ 3840) : Sml P.items := fun r hr => by
  have hm : r.it ∈ L.items := by rw [← e]; exact List.mem_map_of_mem hr
  have := h _ hm
  exact ⟨Nat.le_trans this.1 (by decide), Nat.le_trans this.2 (by decide)⟩
theorem Pn.datF {P : Pv} {L : Pg} (e : P.pg = L) (h : L.data = []) : P.data.length ≤ 140737488355264 := by
  have : P.data = L.data := congrArg Pg.data e
  rw [this, h]; simp
theorem spl_short {p : Pg} (h : p.items.length ≠ 8) : spl p = Hv.none := by
  unfold spl
  rw [if_neg (fun k => h k.2)]
theorem spl_items {p : Pg} : (spl p).l.items.length ≤ 8 ∧ (spl p).r.items.length ≤ 8 := by
  unfold spl
  split
  · rename_i h
    have h8 := h.2
    unfold prt
    split
    · simp [Pg.wi, h8]
    · split
      · simp [Pg.wi, h8]
      · simp [Hv.none, Pg.zero]
  · simp [Hv.none, Pg.zero]
end Go.Proofs.Ytmfelkncomfipaa
