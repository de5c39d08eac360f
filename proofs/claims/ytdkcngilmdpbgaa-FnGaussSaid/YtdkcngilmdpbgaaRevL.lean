/-
  A list the other way round, as the laws make it. Conditions: lengths below 2^40.
-/
import Derived.Test.YtdkcngilmdpbgaaOwn
namespace Go.Proofs.Ytdkcngilmdpbgaa
open Go.RowKit

/-- The last j numbers, from behind. -/
def revN (xs : List Int) (n j : Nat) : List Int := (List.range j).map fun (t : Nat) => nth xs (n - 1 - t)
theorem revN_len (xs : List Int) (n j : Nat) : (revN xs n j).length = j := by simp [revN]
theorem revN_succ (xs : List Int) (n j : Nat) : revN xs n (j + 1) = revN xs n j ++ [nth xs (n - 1 - j)] := by simp [revN, List.range_succ]
theorem revN_all (xs : List Int) : revN xs xs.length xs.length = xs.reverse := by
  apply List.ext_getElem (by simp [revN])
  intro i h1 h2
  have hi : i < xs.length := by simpa [revN] using h1
  simp only [revN, List.getElem_map, List.getElem_range, List.getElem_reverse]
  rw [nth_get (by omega)]
set_option maxHeartbeats 800000 in
theorem reversed_any (A : Option Addr) (n c : Nat) (xs : List Int) (w : World) (hs : SI w A n xs) (hn : n ≤ 1099511627776) :
    Calls Try.prog 62 #[.slice A n c] w fun e w' => Fresh w w' e xs.reverse := by
  have HE : Hid (revN xs n n = xs.reverse) := Lib.hid (by rw [← hs.1]; exact revN_all xs)
  have HS := Lib.hid hs
  have hwn : IntKind.i64.wrap ((n : Int) - 1) = (n : Int) - 1 := IntWalk.i64_in _ (by omega)
  clear hs
  go_enter Try.func62, Try.ntmps62
  go_wp2_with fail
  go_loopw [3, 4] (fun ov iv wr => ∃ (j : Nat) (Ao : Option Addr) (co : Nat), j ≤ n ∧ iv = .int .i64 ((n : Int) - 1 - (j : Int)) ∧ ov = .slice Ao j co ∧ Own wr w.heap.size wr.heap.size Ao j co (revN xs n j) ∧ Below w.heap.size w wr)
    (fun _ iv _ => (intOf iv + 1).toNat)
  case atStart => exact ⟨0, _, _, Nat.zero_le _, by simp, rfl, (Own.empty w).wide (Nat.le_refl _) (by simp), Below.alloc_self _ _⟩
  case round =>
    obtain ⟨j, Ao, co, hj, rfl, rfl, hown, hbw⟩ := hrel
    have HO := Lib.hid hown
    have HB := Lib.hid hbw
    clear hown hbw
    by_cases hlt : j < n
    · have HSU := Lib.hid (revN_succ xs n j)
      obtain ⟨i, hi⟩ : ∃ i, i = n - 1 - j := ⟨_, rfl⟩
      have hij : (n : Int) - 1 - (j : Int) = (i : Int) := by omega
      rw [← hi] at HSU
      rw [hij]
      obtain ⟨b, o, rfl, hb, hc⟩ := (HS.out.below HB.out (Nat.le_refl _)).at_ (by omega)
      have hc1 := hc i (by omega)
      obtain ⟨x, hx⟩ : ∃ x, x = nth xs i := ⟨_, rfl⟩
      rw [← hx] at hc1 HSU
      have hi0 : (0 : Int) ≤ (i : Int) := by omega
      have hin : (i : Int) < (n : Int) := by omega
      have HIJ := Lib.hid hij
      clear hx hi hij hc
      go_wp2_with (at_builtin; refine wpList_append1 rfl (.tmp 13) (.tmp 18) rfl w.heap.size Ao j co (revN xs n j) x rfl rfl HO.out HB.out.size (by omega) ?_; intro A' c' w5 ho5 _ hb5)
      have HIM : Hid (wrap64 ((i : Int) - 1) = (n : Int) - 1 - ((j + 1 : Nat) : Int)) := Lib.hid (by have := HIJ.out; unfold wrap64; omega)
      go_roundw
      case rel => exact ⟨j + 1, A', c', by omega, by first | rw [HIM.out] | rw [show (i : Int) - 1 = (n : Int) - 1 - ((j + 1 : Nat) : Int) by have := HIJ.out; omega], rfl, by rw [HSU.out]; exact ho5, HB.out.trans hb5⟩
      case measure => simp only [intOf]; have := HIM.out; have := HIJ.out; omega
    · obtain rfl : j = n := by omega
      have hneg : (j : Int) - 1 - (j : Int) = -1 := by omega
      rw [hneg]
      go_wp2
      go_ret
      rw [← HE.out]
      exact ⟨Ao, j, co, rfl, HO.out, HB.out⟩
end Go.Proofs.Ytdkcngilmdpbgaa
