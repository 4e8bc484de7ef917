import Derived.Test.YtmfelkncomfipaaDM
namespace Go.Proofs.Ytmfelkncomfipaa
set_option linter.unusedVariables false
set_option linter.unusedSimpArgs false
theorem prt_idx {l r : Pg} {J : List It} {n : Nat} (hk : r.kind = 2) (hn : n < J.length) : prt (l.wi (J.take n)) (r.wi (J.drop n)) = ⟨l.wi (J.take n), r.wi ((J.getD n It.zero).keyed [] :: J.drop (n + 1)), (J.getD n It.zero).key, true⟩ := by
  have e : (r.wi (J.drop n)).at 0 = J.getD n It.zero := by
    show (J.drop n).getD 0 It.zero = _
    simp [List.getD_eq_getElem?_getD]
  unfold prt
  rw [if_pos (show (r.wi (J.drop n)).kind = 2 from hk), e]
  have e2 : (r.wi (J.drop n)).items.drop 1 = J.drop (n + 1) := by
    show (J.drop n).drop 1 = _
    rw [List.drop_drop]
  rw [e2]
  rfl
theorem prt_leaf {l r : Pg} {J : List It} {n : Nat} (hk : r.kind ≠ 2) (h1 : 1 ≤ n) (hn : n < J.length) : prt (l.wi (J.take n)) (r.wi (J.drop n)) = if (between (J.getD (n - 1) It.zero).key (J.getD n It.zero).key).2 = true then ⟨l.wi (J.take n), r.wi (J.drop n), (between (J.getD (n - 1) It.zero).key (J.getD n It.zero).key).1, true⟩ else Hv.none := by
  have e : (r.wi (J.drop n)).at 0 = J.getD n It.zero := by
    show (J.drop n).getD 0 It.zero = _
    simp [List.getD_eq_getElem?_getD]
  have e2 : (l.wi (J.take n)).at ((l.wi (J.take n)).items.length - 1) = J.getD (n - 1) It.zero := by
    show (J.take n).getD ((J.take n).length - 1) It.zero = _
    rw [List.length_take, Nat.min_eq_left (by omega)]
    simp [List.getD_eq_getElem?_getD, List.getElem?_take, show n - 1 < n by omega]
  unfold prt
  rw [if_neg (show ¬ (r.wi (J.drop n)).kind = 2 from hk), e, e2]
end Go.Proofs.Ytmfelkncomfipaa
