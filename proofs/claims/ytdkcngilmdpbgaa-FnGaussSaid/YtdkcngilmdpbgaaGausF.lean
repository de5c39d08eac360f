/-
  What the law on shapes counted by size asks: plain facts that the kernel reckons over all boxes of at most six.
-/
import Derived.Test.YtdkcngilmdpbgaaGauss
namespace Go.Proofs.Ytdkcngilmdpbgaa
open Go.RowKit

def gsB (k m : Nat) : Bool :=
  decide ((gauN k m).reverse = gauN k m) && decide (gauN ((m - k : Nat) : Int) m = gauN k m) && decide ((gauN k m).length = k * (m - k) + 1) && (!(decide (k = 0) || decide (k = m)) || decide (nth (gauN k m) 0 = 1)) &&
    ((decide (k = 0) || decide (k = m)) || (decide ((gauN k ((m : Int) - 1)).length ≤ 50) && decide ((gauN ((k : Int) - 1) ((m : Int) - 1)).length ≤ 50) && (List.range (k * (m - k) + 1)).all fun i =>
      decide (nth (gauN k ((m : Int) - 1)) i + (if m - k ≤ i then nth (gauN ((k : Int) - 1) ((m : Int) - 1)) (i - (m - k)) else 0) = nth (gauN k m) i) && decide (0 ≤ nth (gauN k m) i ∧ nth (gauN k m) i ≤ 1000) && decide (0 ≤ nth (gauN k ((m : Int) - 1)) i ∧ nth (gauN k ((m : Int) - 1)) i ≤ 1000)))
set_option maxRecDepth 100000 in
theorem gsB_all : ((List.range 7).all fun m => (List.range (m + 1)).all fun k => decide (m < 2) || gsB k m) = true := by decide +kernel
structure GsF (k m : Nat) : Prop where
  rev : (gauN k m).reverse = gauN k m
  oth : gauN ((m - k : Nat) : Int) m = gauN k m
  len : (gauN k m).length = k * (m - k) + 1
  one : k = 0 ∨ k = m → nth (gauN k m) 0 = 1
  la : ¬ (k = 0 ∨ k = m) → (gauN k ((m : Int) - 1)).length ≤ 50
  lb : ¬ (k = 0 ∨ k = m) → (gauN ((k : Int) - 1) ((m : Int) - 1)).length ≤ 50
  two : ¬ (k = 0 ∨ k = m) → ∀ i, i < k * (m - k) + 1 → nth (gauN k ((m : Int) - 1)) i + (if m - k ≤ i then nth (gauN ((k : Int) - 1) ((m : Int) - 1)) (i - (m - k)) else 0) = nth (gauN k m) i ∧ (0 ≤ nth (gauN k m) i ∧ nth (gauN k m) i ≤ 1000) ∧ 0 ≤ nth (gauN k ((m : Int) - 1)) i ∧ nth (gauN k ((m : Int) - 1)) i ≤ 1000
theorem gs_facts {k m : Nat} (hk : k ≤ m) (h2 : 2 ≤ m) (h6 : m ≤ 6) : GsF k m := by
  have h := gsB_all
  rw [List.all_eq_true] at h
  have h3 := h m (List.mem_range.2 (by omega))
  rw [List.all_eq_true] at h3
  have h4 := h3 k (List.mem_range.2 (by omega))
  rw [decide_eq_false (by omega : ¬ m < 2), Bool.false_or] at h4
  unfold gsB at h4
  simp only [Bool.and_eq_true] at h4
  obtain ⟨⟨⟨⟨a1, a2⟩, a3⟩, a4⟩, a5⟩ := h4
  refine ⟨of_decide_eq_true a1, of_decide_eq_true a2, of_decide_eq_true a3, fun he => ?_, fun hne => ?_, fun hne => ?_, fun hne => ?_⟩
  · simp only [Bool.or_eq_true, Bool.not_eq_true', Bool.or_eq_false_iff, decide_eq_false_iff_not, decide_eq_true_eq] at a4
    rcases a4 with h | h
    · rcases he with e | e
      · exact absurd e h.1
      · exact absurd e h.2
    · exact h
  all_goals
    simp only [Bool.or_eq_true, Bool.and_eq_true, decide_eq_true_eq, List.all_eq_true, List.mem_range] at a5
    have h5 := a5.resolve_left hne
  · exact h5.1.1
  · exact h5.1.2
  · exact fun i hi => ⟨(h5.2 i hi).1.1, (h5.2 i hi).1.2, (h5.2 i hi).2⟩
end Go.Proofs.Ytdkcngilmdpbgaa
