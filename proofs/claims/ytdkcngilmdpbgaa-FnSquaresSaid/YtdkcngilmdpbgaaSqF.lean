/-
  Squares of the numbers of standard tableaux: plain facts over all shapes of at most six rows and columns; the first byte of the code. Conditions: at most 2^20 bytes.
-/
import Derived.Test.YtdkcngilmdpbgaaShpL
import Derived.Test.YtdkcngilmdpbgaaStd
import Derived.Test.YtdkcngilmdpbgaaConjI
import Derived.Test.YtdkcngilmdpbgaaDraw
namespace Go.Proofs.Ytdkcngilmdpbgaa
open Go.RowKit

/-- The squares of those of size q, added up. -/
def sqOne (q : Int) (l : List Int) : Int := if sumN l l.length = q then stdCount l * stdCount l else 0
def sqS (q : Int) : List (List Int) → Int
  | [] => 0
  | l :: r => sqOne q l + sqS q r
theorem sqS_app (q : Int) : ∀ (L M : List (List Int)), sqS q (L ++ M) = sqS q L + sqS q M
  | [], M => by simp [sqS]
  | l :: r, M => by
    show sqOne q l + sqS q (r ++ M) = sqOne q l + sqS q r + sqS q M
    rw [sqS_app q r M]; omega
theorem sqS_succ {q : Int} {L : List (List Int)} {i : Nat} (h : i < L.length) : sqS q (L.take (i + 1)) = sqS q (L.take i) + sqOne q (li L i) := by
  rw [take_li h, sqS_app]; simp [sqS]
structure SqF (q : Nat) (l : List Int) : Prop where
  len : l.length ≤ 16
  sums : ∀ k, k ≤ l.length → 0 ≤ sumN l k ∧ sumN l k ≤ 49
  low : sumN l l.length = (q : Int) → 1 ≤ stdCount l ∧ stdCount l ≤ 100 ∧ stdCount (conjShape l) = stdCount l ∧ (conjShape l).length ≤ 16
theorem sq_each {q : Nat} (h : q ≤ 6) {l : List Int} (hl : l ∈ shapesU 6 6) : SqF q l := by
  have h0 : ((shapesU 6 6).all fun l => decide (l.length ≤ 16) && ((List.range (l.length + 1)).all fun k => decide (0 ≤ sumN l k ∧ sumN l k ≤ 49)) && (decide (6 < sumN l l.length) || decide (1 ≤ stdCount l ∧ stdCount l ≤ 100 ∧ stdCount (conjShape l) = stdCount l ∧ (conjShape l).length ≤ 16))) = true := by decide +kernel
  rw [List.all_eq_true] at h0
  have h3 := h0 l hl
  simp only [Bool.and_eq_true, Bool.or_eq_true, decide_eq_true_eq, List.all_eq_true, List.mem_range] at h3
  exact ⟨h3.1.1, fun k hk => h3.1.2 k (by omega), fun e => h3.2.resolve_left (by omega)⟩
theorem sq_total {q : Nat} (h : q ≤ 6) : sqS (q : Int) (shapesU 6 6) = (factN q : Int) := by
  have h0 : ((List.range 7).all fun (q : Nat) => decide (sqS (q : Int) (shapesU 6 6) = (factN q : Int))) = true := by decide +kernel
  rw [List.all_eq_true] at h0
  exact of_decide_eq_true (h0 q (List.mem_range.2 (by omega)))
theorem sqOne_bound {q : Nat} (h : q ≤ 6) {l : List Int} (hl : l ∈ shapesU 6 6) : 0 ≤ sqOne (q : Int) l ∧ sqOne (q : Int) l ≤ 10000 := by
  unfold sqOne
  split
  · rename_i e
    have := (sq_each h hl).low e
    have h1 := Int.mul_nonneg (show 0 ≤ stdCount l by omega) (show 0 ≤ stdCount l by omega)
    have h2 := Int.mul_le_mul this.2.1 this.2.1 (by omega) (by omega)
    omega
  · omega
theorem sqS_bound {q : Nat} (h : q ≤ 6) : ∀ L : List (List Int), (∀ l ∈ L, l ∈ shapesU 6 6) → 0 ≤ sqS (q : Int) L ∧ sqS (q : Int) L ≤ 10000 * (L.length : Int)
  | [], _ => by simp [sqS]
  | l :: r, hL => by
    have h1 := sqS_bound h r (fun t ht => hL t (List.mem_cons_of_mem _ ht))
    have h2 := sqOne_bound h (hL l List.mem_cons_self)
    show 0 ≤ sqOne _ l + sqS _ r ∧ sqOne _ l + sqS _ r ≤ _
    rw [List.length_cons]
    omega
theorem atFirst_any (A : Option Addr) (n c B : Nat) (bs : List Int) (w : World) (hs : SB w B A n bs) (hn : n ≤ 1048576) :
    Calls Try.prog 50 #[.slice A n c, .int .i64 0] w fun e w' => (∃ x : Int, e = .returned (.int .i64 x) ∧ 0 ≤ x ∧ x ≤ 255) ∧ w' = w := by
  by_cases h : 0 < n
  · obtain ⟨b, o, rfl, hb, hc⟩ := hs.2.2 (by omega)
    have hc1 := hc 0 h
    obtain ⟨hy1, hy2⟩ := hs.2.1 0 h
    obtain ⟨y, hy⟩ : ∃ y, y = nth bs 0 := ⟨_, rfl⟩
    rw [← hy] at hc1 hy1 hy2
    rw [Nat.add_zero] at hc1
    have hlI : (0 : Int) < (n : Int) := by omega
    clear hc hs hy
    go_enter Try.func50, Try.ntmps50
    go_wp2
    go_ret
    exact ⟨⟨y, rfl, hy1, hy2⟩, rfl⟩
  · clear hs
    have hlI : ¬ (0 : Int) < (n : Int) := by omega
    go_enter Try.func50, Try.ntmps50
    go_wp2
    go_ret
    exact ⟨⟨_, rfl, by omega, by omega⟩, rfl⟩
end Go.Proofs.Ytdkcngilmdpbgaa
