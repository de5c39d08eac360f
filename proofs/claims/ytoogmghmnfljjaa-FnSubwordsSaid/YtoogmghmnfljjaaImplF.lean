/-
  Contracts of the program's EmbedPerm, TrimPerm, RankAt. Conditions: lengths below 2^40.
-/
import Derived.Test.YtoogmghmnfljjaaSpecF
import Derived.Test.YtoogmghmnfljjaaImplC
namespace Go.Proofs.Ytoogmghmnfljjaa
open Go.RowKit

theorem trimN_fill {xs : List Int} (h7 : xs.length ≤ 7) : ∀ k, k ≤ xs.length → trimN (fillA xs xs.length) k = trimN xs k := by
  intro k
  induction k with
  | zero => intro _; rfl
  | succ k ih => intro hk; unfold trimN; rw [ih (by omega), fillA_lt (by omega) (by omega)]

set_option maxHeartbeats 1000000 in
theorem rank_any (l : List Int) (r : Nat) (x : Int) (w : World) (hr : r ≤ 7) (hl : l.length = 7) :
    Calls Try.prog 100 #[arr l, .int .i64 r, .int .i64 x] w fun e w' => e = .returned (.int .i64 (rankN l x r : Int)) ∧ Below w.heap.size w w' := by
  have hb := Blk.new w 71 (arrC l)
  have HBk := Lib.hid hb
  clear hb hl
  have hsl := fun wx => sliceArr_to ⟨w.heap.size, 0, none⟩ r hr wx
  go_enter Try.func100, Try.ntmps100
  go_wp2
  go_loop [7, 13] (fun v i => ∃ k : Nat, k ≤ r ∧ i = .int .i64 k ∧ v = .int .i64 (rankN l x k : Int))
    (fun _ i => r - (intOf i).toNat)
  case atStart => exact ⟨0, Nat.zero_le _, rfl, rfl⟩
  case round =>
    obtain ⟨k, hk, rfl, rfl⟩ := hrel
    by_cases hlt : k < r
    · have hck : (w.alloc (.cells (arrC l) 71)).cell? ⟨w.heap.size, k, none⟩ = some (.int .i64 (nth l k)) := (HBk.out.cell _).trans (arrC_get l k (by omega))
      obtain ⟨y, hy⟩ : ∃ y, y = nth l k := ⟨_, rfl⟩
      rw [← hy] at hck
      have HY := Lib.hid hy
      have hq := rankN_le l x k
      obtain ⟨q, hqe⟩ : ∃ q, q = rankN l x k := ⟨_, rfl⟩
      rw [← hqe] at hq ⊢
      have HQ := Lib.hid hqe
      clear hy hqe
      by_cases hxy : y < x
      · go_wp2
        go_round
        case rel =>
          have e1 := HY.out
          have e2 := HQ.out
          exact ⟨k + 1, by omega, by go_num, by rw [rankN_hit (by omega), ← e2]; go_num⟩
        case measure => simp [intOf]; omega
      · go_wp2
        go_round
        case rel =>
          have e1 := HY.out
          have e2 := HQ.out
          exact ⟨k + 1, by omega, by go_num, by rw [rankN_miss (by omega), ← e2]⟩
        case measure => simp [intOf]; omega
    · have hkr : k = r := by omega
      subst hkr
      go_wp2
      go_ret
      exact ⟨rfl, Below.alloc_self _ _⟩

end Go.Proofs.Ytoogmghmnfljjaa
