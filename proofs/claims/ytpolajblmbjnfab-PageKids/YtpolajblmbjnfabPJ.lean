import Derived.Test.YtpolajblmbjnfabPI
namespace Go.Proofs.Ytpolajblmbjnfab
open Go.RowKit

theorem retb {a b : Bool} (h : a = b) : Ending.returned (.bool a) = .returned (.bool b) := by rw [h]
theorem check_at {p : Pg} {k : Nat} (h : p.formE = 0) (h0 : firstE p.itemE k = 0) (hk : k < p.items.length) (hx : p.itemE k ≠ 0) : p.check = p.itemE k := by
  obtain ⟨h1, h2⟩ := form_zero h
  unfold Pg.check
  rw [if_neg (by rw [h1]; simp), if_neg (by rw [h2]; simp), firstE_stop h0 hx _ hk, if_pos hx]
theorem check_end {p : Pg} (h : p.formE = 0) (h0 : firstE p.itemE p.items.length = 0) : p.check = if p.nextOk = false then 15 else 0 := by
  obtain ⟨h1, h2⟩ := form_zero h
  unfold Pg.check
  rw [if_neg (by rw [h1]; simp), if_neg (by rw [h2]; simp), h0, if_neg (by simp)]
end Go.Proofs.Ytpolajblmbjnfab
