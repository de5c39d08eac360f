/-
  Contracts of the program's EmbedPerm, TrimPerm, RankAt. Conditions: lengths below 2^40.
-/
import Derived.Test.YtjlpplghdhjdfaaSpecF
import Derived.Test.YtjlpplghdhjdfaaImplC
namespace Go.Proofs.Ytjlpplghdhjdfaa
open Go.RowKit

theorem trimN_fill {xs : List Int} (h7 : xs.length ≤ 7) : ∀ k, k ≤ xs.length → trimN (fillA xs xs.length) k = trimN xs k := by
  intro k
  induction k with
  | zero => intro _; rfl
  | succ k ih => intro hk; unfold trimN; rw [ih (by omega), fillA_lt (by omega) (by omega)]

set_option maxHeartbeats 1000000 in
theorem rank_any (l : List Int) (r : Nat) (x : Int) (w : World) (hr : r ≤ 7) (hl : l.length = 7) :
    Calls Try.prog 58 #[arr l, .int .i64 r, .int .i64 x] w fun e w' => e = .returned (.int .i64 (rankN l x r : Int)) ∧ Below w.heap.size w w' := by
  have hb := Blk.new w 53 (arrC l)
  have HBk := Lib.hid hb
  clear hb hl
  have hsl := fun wx => sliceArr_to ⟨w.heap.size, 0, none⟩ r hr wx
  go_enter Try.func58, Try.ntmps58
  go_wp2
  go_loop [7, 13] (fun v i => ∃ k : Nat, k ≤ r ∧ i = .int .i64 k ∧ v = .int .i64 (rankN l x k : Int))
    (fun _ i => r - (intOf i).toNat)
  case atStart => exact ⟨0, Nat.zero_le _, rfl, rfl⟩
  case round =>
    obtain ⟨k, hk, rfl, rfl⟩ := hrel
    by_cases hlt : k < r
    · have hck : (w.alloc (.cells (arrC l) 53)).cell? ⟨w.heap.size, k, none⟩ = some (.int .i64 (nth l k)) := (HBk.out.cell _).trans (arrC_get l k (by omega))
      obtain ⟨y, hy⟩ : ∃ y, y = nth l k := ⟨_, rfl⟩
      rw [← hy] at hck
      have HY := Lib.hid hy
      have hq := rankN_le l x k
      obtain ⟨q, hqe⟩ : ∃ q, q = rankN l x k := ⟨_, rfl⟩
      rw [← hqe] at hq ⊢
      have HQ := Lib.hid hqe
      clear hy hqe
      by_cases hxy : y < x
      · go_wp2
        go_round
        case rel =>
          have e1 := HY.out
          have e2 := HQ.out
          exact ⟨k + 1, by omega, by go_num, by rw [rankN_hit (by omega), ← e2]; go_num⟩
        case measure => simp [intOf]; omega
      · go_wp2
        go_round
        case rel =>
          have e1 := HY.out
          have e2 := HQ.out
          exact ⟨k + 1, by omega, by go_num, by rw [rankN_miss (by omega), ← e2]⟩
        case measure => simp [intOf]; omega
    · have hkr : k = r := by omega
      subst hkr
      go_wp2
      go_ret
      exact ⟨rfl, Below.alloc_self _ _⟩

set_option maxHeartbeats 2000000 in
theorem implRank_any (A : Option Addr) (n c : Nat) (xs : List Int) (r x : Int) (w : World) (hs : SI w A n xs) (hn : n ≤ 1099511627776) :
    Calls Try.prog 33 #[.slice A n c, .int .i64 r, .int .i64 x] w fun e w' => e = .returned (.int .i64 (rankPerm xs r x)) ∧ Below w.heap.size w w' := by
  have hl := hs.1
  cases hu : isPermB xs with
  | false =>
    have HE := Lib.hid (rankPerm_no (xs := xs) (r := r) (c := x) (by rintro ⟨h, _⟩; rw [hu] at h; cases h))
    have HU := Lib.hid hu
    clear hu
    go_enter Try.func33, Try.ntmps33
    go_wp2_with fail
    refine (arrayOf_x c HU.out hs hn).mono ?_
    rintro e w1 ⟨l, rfl, -, hb1⟩
    go_wp2
    go_ret
    exact ⟨ret_int HE.out.symm, hb1.alloc hb1.size _⟩
  | true =>
    have HU := Lib.hid hu
    have HL := Lib.hid hl
    have h7 : n ≤ 7 := by have := (isPermB_P hu).2.1; omega
    clear hu hl
    by_cases hr0 : r < 0
    · have HE := Lib.hid (rankPerm_no (xs := xs) (r := r) (c := x) (by rintro ⟨_, h1, h2, _⟩; omega))
      go_enter Try.func33, Try.ntmps33
      go_wp2_with fail
      refine (arrayOf_x c HU.out hs hn).mono ?_
      rintro e w1 ⟨l, rfl, -, hb1⟩
      go_wp2
      go_ret
      exact ⟨ret_int HE.out.symm, hb1.alloc hb1.size _⟩
    · by_cases hr1 : (n : Int) < r
      · have HE := Lib.hid (rankPerm_no (xs := xs) (r := r) (c := x) (by have := HL.out; rintro ⟨_, h1, h2, _⟩; omega))
        go_enter Try.func33, Try.ntmps33
        go_wp2_with fail
        refine (arrayOf_x c HU.out hs hn).mono ?_
        rintro e w1 ⟨l, rfl, -, hb1⟩
        go_wp2
        go_ret
        exact ⟨ret_int HE.out.symm, hb1.alloc hb1.size _⟩
      · obtain ⟨m, rfl⟩ : ∃ m : Nat, r = (m : Int) := ⟨r.toNat, by omega⟩
        by_cases hx0 : x < 0
        · have HE := Lib.hid (rankPerm_no (xs := xs) (r := (m : Int)) (c := x) (by rintro ⟨_, _, _, h, _⟩; omega))
          go_enter Try.func33, Try.ntmps33
          go_wp2_with fail
          refine (arrayOf_x c HU.out hs hn).mono ?_
          rintro e w1 ⟨l, rfl, -, hb1⟩
          go_wp2
          go_ret
          exact ⟨ret_int HE.out.symm, hb1.alloc hb1.size _⟩
        · by_cases hx1 : (n : Int) < x
          · have HE := Lib.hid (rankPerm_no (xs := xs) (r := (m : Int)) (c := x) (by have := HL.out; rintro ⟨_, _, _, _, h⟩; omega))
            go_enter Try.func33, Try.ntmps33
            go_wp2_with fail
            refine (arrayOf_x c HU.out hs hn).mono ?_
            rintro e w1 ⟨l, rfl, -, hb1⟩
            go_wp2
            go_ret
            exact ⟨ret_int HE.out.symm, hb1.alloc hb1.size _⟩
          · have HE := Lib.hid (rankPerm_yes (r := m) (c := x) HU.out (by have := HL.out; omega) (by omega) (by have := HL.out; omega))
            go_enter Try.func33, Try.ntmps33
            go_wp2_with fail
            refine (arrayOf_x c HU.out hs hn).mono ?_
            rintro e w1 ⟨l, rfl, hlf, hb1⟩
            have HF := Lib.hid (hlf rfl)
            clear hlf
            have hK := Blk.new w1 53 (arrC l)
            go_wp2_with (refine wpList_load_blk rfl 53 (.tmp 7) rfl w1.heap.size rfl 53 (arrC l) 7 3 hK Try.undArr Try.infoArr ?_)
            have hb2 : Below w.heap.size w (w1.alloc (.cells (arrC l) 53)) := hb1.alloc hb1.size _
            generalize w1.alloc (.cells (arrC l) 53) = w2 at *
            refine (rank_any l m x w2 (by omega) (by rw [HF.out, fillA_len])).mono ?_
            rintro e w4 ⟨rfl, hb4⟩
            have HB4 := Lib.hid (hb2.trans (hb4.mono hb2.size))
            clear hb4 hb2 hK
            have e1 : rankN l x m = rankN xs x m := rankN_congr x m (fun t ht => by
              rw [HF.out]; exact fillA_lt (by omega) (by omega))
            rw [e1]
            clear e1
            go_wp2
            go_ret
            exact ⟨ret_int HE.out.symm, HB4.out⟩
end Go.Proofs.Ytjlpplghdhjdfaa
