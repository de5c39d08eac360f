/-
  Contracts of the program's lengths, codes and descents. Conditions: lengths below 2^40.
-/
import Derived.Test.YtfaegfhbbkicgaaSpecC
import Derived.Test.YtfaegfhbbkicgaaImplC
namespace Go.Proofs.Ytfaegfhbbkicgaa
open Go.RowKit

set_option maxHeartbeats 1000000 in
theorem inversionsAt_any (l : List Int) (i : Nat) (w : World) (hi : i < 7) :
    Calls Try.prog 191 #[arr l, .int .i64 i] w fun e w' => e = .returned (.int .i64 (codeCnt l i 7 : Int)) ∧ Below w.heap.size w w' := by
  have hb := Blk.new w 120 (arrC l)
  have HBk := Lib.hid hb
  have hci : (w.alloc (.cells (arrC l) 120)).cell? ⟨w.heap.size, i, none⟩ = some (.int .i64 (nth l i)) := (hb.cell _).trans (arrC_get l i hi)
  obtain ⟨y, hy⟩ : ∃ y, y = nth l i := ⟨_, rfl⟩
  rw [← hy] at hci
  have HY := Lib.hid hy
  clear hy hb
  by_cases h6 : i < 6
  · have hsl : ∀ wx, (Instr.sliceAt 120 (.pointer (some ⟨w.heap.size, 0, none⟩)) (some (.int .i64 ((i : Int) + 1))) none none).run Try.prog wx = .ok (.slice (some ⟨w.heap.size, i + 1, none⟩) (6 - i) (6 - i)) wx := fun wx => by
      have := sliceArr_from ⟨w.heap.size, 0, none⟩ (i + 1) (by omega) wx
      rw [if_neg (by omega), add_pt, Nat.zero_add, show 7 - (i + 1) = 6 - i from by omega] at this
      exact this
    go_enter Try.func191, Try.ntmps191
    go_wp2
    go_loop [5, 12] (fun v m => ∃ k : Nat, k ≤ 6 - i ∧ m = .int .i64 k ∧ v = .int .i64 (codeCnt l i (i + 1 + k) : Int))
      (fun _ m => 6 - (intOf m).toNat)
    case atStart => exact ⟨0, Nat.zero_le _, rfl, by rw [codeCnt_low l i (i + 1 + 0) (by omega)]; rfl⟩
    case round =>
      obtain ⟨k, hk, rfl, rfl⟩ := hrel
      by_cases hlt : k < 6 - i
      · have hck : (w.alloc (.cells (arrC l) 120)).cell? ⟨w.heap.size, i + 1 + k, none⟩ = some (.int .i64 (nth l (i + 1 + k))) := (HBk.out.cell _).trans (arrC_get l _ (by omega))
        obtain ⟨x, hx⟩ : ∃ x, x = nth l (i + 1 + k) := ⟨_, rfl⟩
        rw [← hx] at hck
        have HX := Lib.hid hx
        clear hx
        have hcl : (codeCnt l i (i + 1 + k) : Int) ≤ 100 := by have := codeCnt_le l i (i + 1 + k); omega
        obtain ⟨q, hq⟩ : ∃ q, q = codeCnt l i (i + 1 + k) := ⟨_, rfl⟩
        rw [← hq] at hcl ⊢
        have HQ := Lib.hid hq
        clear hq
        by_cases hxy : x < y
        · go_wp2
          go_round
          case rel =>
            have e1 := HX.out
            have e2 := HY.out
            have e3 := HQ.out
            refine ⟨k + 1, by omega, by go_num, ?_⟩
            rw [show i + 1 + (k + 1) = (i + 1 + k) + 1 from by omega, codeCnt_hit (by omega) (by omega), ← e3]
            go_num
          case measure => simp [intOf]; omega
        · go_wp2
          go_round
          case rel =>
            have e1 := HX.out
            have e2 := HY.out
            have e3 := HQ.out
            refine ⟨k + 1, by omega, by go_num, ?_⟩
            rw [show i + 1 + (k + 1) = (i + 1 + k) + 1 from by omega, codeCnt_miss (by omega), ← e3]
          case measure => simp [intOf]; omega
      · have hkn : k = 6 - i := by omega
        subst hkn
        go_wp2
        go_ret
        exact ⟨ret_int (by rw [show i + 1 + (6 - i) = 7 from by omega]), Below.alloc_self _ _⟩
  · have h6 : i = 6 := by omega
    subst h6
    have hsl : ∀ wx, (Instr.sliceAt 120 (.pointer (some ⟨w.heap.size, 0, none⟩)) (some (.int .i64 7)) none none).run Try.prog wx = .ok (.slice (some ⟨w.heap.size, 0, none⟩) 0 0) wx := fun wx =>
      sliceArr_from ⟨w.heap.size, 0, none⟩ 7 (by omega) wx
    go_enter Try.func191, Try.ntmps191
    go_wp2
    refine wp_loop_rounds 1 ?_
    rw [rounds_succ]
    go_wp2
    go_ret
    exact ⟨ret_int (by rw [codeCnt_low l 6 7 (by omega)]; rfl), Below.alloc_self _ _⟩

/-- The inversions of the first k places of an array. -/
def invSum (l : List Int) : Nat → Int
  | 0 => 0
  | k + 1 => invSum l k + (codeCnt l k 7 : Int)
theorem invSum_bounds (l : List Int) (k : Nat) : 0 ≤ invSum l k ∧ invSum l k ≤ 7 * (k : Int) := by
  induction k with
  | zero => exact ⟨Int.le_refl _, by simp [invSum]⟩
  | succ k ih =>
    have e : invSum l (k + 1) = invSum l k + (codeCnt l k 7 : Int) := rfl
    have := codeCnt_le l k 7
    omega
theorem codeCnt_congr {xs ys : List Int} {i : Nat} (hi : nth xs i = nth ys i) : ∀ j, (∀ t, t < j → nth xs t = nth ys t) → codeCnt xs i j = codeCnt ys i j := by
  intro j
  induction j with
  | zero => intro _; rfl
  | succ j ih =>
    intro h
    unfold codeCnt
    rw [ih (fun t ht => h t (by omega)), hi, h j (by omega)]
theorem codeCnt_fill {xs : List Int} (h : isPermP xs) (i : Nat) (hi : i < xs.length) : codeCnt (fillA xs xs.length) i 7 = codeCnt xs i xs.length := by
  have h7 := h.2.1
  have key : ∀ d, xs.length + d ≤ 7 → codeCnt (fillA xs xs.length) i (xs.length + d) = codeCnt xs i xs.length := by
    intro d
    induction d with
    | zero => intro _; exact codeCnt_congr (fillA_lt hi (by omega)) _ (fun t ht => fillA_lt ht (by omega))
    | succ d ih =>
      intro hd
      rw [show xs.length + (d + 1) = (xs.length + d) + 1 from by omega, codeCnt_miss, ih (by omega)]
      rw [fillA_ge (by omega) (by omega), fillA_lt hi (by omega)]
      have := h.range i hi
      omega
  have := key (7 - xs.length) (by omega)
  rwa [show xs.length + (7 - xs.length) = 7 from by omega] at this
theorem codeCnt_fill_ge {xs : List Int} (i : Nat) (hi : ¬ i < xs.length) (h7 : i < 7) : codeCnt (fillA xs xs.length) i 7 = 0 := by
  have key : ∀ d, i + 1 + d ≤ 7 → codeCnt (fillA xs xs.length) i (i + 1 + d) = 0 := by
    intro d
    induction d with
    | zero => intro _; exact codeCnt_low _ _ _ (by omega)
    | succ d ih =>
      intro hd
      rw [show i + 1 + (d + 1) = (i + 1 + d) + 1 from by omega, codeCnt_miss, ih (by omega)]
      rw [fillA_ge (by omega) (by omega), fillA_ge hi (by omega)]
      omega
  have := key (6 - i) (by omega)
  rwa [show i + 1 + (6 - i) = 7 from by omega] at this
theorem invSum_fill {xs : List Int} (h : isPermP xs) : invSum (fillA xs xs.length) 7 = lenL xs := by
  have h7 := h.2.1
  have k1 : ∀ k, k ≤ xs.length → invSum (fillA xs xs.length) k = sumN (codeL xs xs.length xs.length) k := by
    intro k
    induction k with
    | zero => intro _; rfl
    | succ k ih =>
      intro hk
      show invSum _ k + (codeCnt _ k 7 : Int) = sumN _ k + nth _ k
      rw [ih (by omega), codeL_nth _ _ _ _ (by omega), if_pos (by omega), codeCnt_fill h k (by omega)]
  have k2 : ∀ d, xs.length + d ≤ 7 → invSum (fillA xs xs.length) (xs.length + d) = lenL xs := by
    intro d
    induction d with
    | zero => intro _; exact k1 _ (Nat.le_refl _)
    | succ d ih =>
      intro hd
      show invSum _ (xs.length + d) + (codeCnt _ (xs.length + d) 7 : Int) = _
      rw [ih (by omega), codeCnt_fill_ge _ (by omega) (by omega)]
      simp
  have := k2 (7 - xs.length) (by omega)
  rwa [show xs.length + (7 - xs.length) = 7 from by omega] at this

set_option maxHeartbeats 1000000 in
theorem length_any (l : List Int) (w : World) :
    Calls Try.prog 172 #[arr l] w fun e w' => e = .returned (.int .i64 (invSum l 7)) ∧ Below w.heap.size w w' := by
  go_enter Try.func172, Try.ntmps172
  go_wp2
  go_loopw [3, 5] (fun v i wr => ∃ k : Nat, k ≤ 7 ∧ i = .int .i64 k ∧ v = .int .i64 (invSum l k) ∧ Blk wr w.heap.size 120 (arrC l) ∧ Below w.heap.size w wr)
    (fun _ i _ => 7 - (intOf i).toNat)
  case atStart => exact ⟨0, by omega, rfl, rfl, Blk.new w _ _, Below.alloc_self _ _⟩
  case round =>
    obtain ⟨k, hk, rfl, rfl, hA, hB⟩ := hrel
    have HA := Lib.hid hA
    have HB := Lib.hid hB
    clear hA hB
    by_cases hlt : k < 7
    · have hq := invSum_bounds l k
      have hc := codeCnt_le l k 7
      have e : invSum l (k + 1) = invSum l k + (codeCnt l k 7 : Int) := rfl
      obtain ⟨q, hqe⟩ : ∃ q, q = invSum l k := ⟨_, rfl⟩
      rw [← hqe] at hq e ⊢
      obtain ⟨hq1, hq2⟩ := hq
      have HE := Lib.hid e
      clear e hqe
      go_wp2_with (first | (refine wpList_load_blk rfl 120 (.tmp 1) rfl w.heap.size rfl 120 (arrC l) 7 3 HA.out Try.undArr Try.infoArr ?_) | (go_at_call 191; refine (inversionsAt_any l k wr hlt).mono ?_; rintro e w1 ⟨rfl, hb1⟩))
      go_roundw
      case rel => exact ⟨k + 1, by omega, by go_num, by rw [HE.out], HA.out.below hb1 HA.out.lt, HB.out.trans (hb1.mono HB.out.size)⟩
      case measure => simp [intOf]; omega
    · have hkn : k = 7 := by omega
      subst hkn
      go_wp2
      go_ret
      exact ⟨rfl, HB.out⟩

set_option maxHeartbeats 1000000 in
theorem implLength_any (A : Option Addr) (n c : Nat) (xs : List Int) (w : World) (hs : SI w A n xs) (hn : n ≤ 1099511627776) :
    Calls Try.prog 153 #[.slice A n c] w fun e w' => e = .returned (.int .i64 (lenPerm xs)) ∧ Below w.heap.size w w' := by
  have hl := hs.1
  cases hu : isPermB xs with
  | false =>
    have HE := Lib.hid (lenPerm_no hu)
    have HU := Lib.hid hu
    clear hu
    go_enter Try.func153, Try.ntmps153
    go_wp2_with fail
    refine (arrayOf_x c HU.out hs hn).mono ?_
    rintro e w1 ⟨l, rfl, -, hb1⟩
    go_wp2
    go_ret
    exact ⟨ret_int HE.out.symm, hb1.alloc hb1.size _⟩
  | true =>
    have HE := Lib.hid (lenPerm_yes hu)
    have HU := Lib.hid hu
    clear hu
    go_enter Try.func153, Try.ntmps153
    go_wp2_with fail
    refine (arrayOf_x c HU.out hs hn).mono ?_
    rintro e w1 ⟨l, rfl, hlf, hb1⟩
    have HF := Lib.hid (hlf rfl)
    have HL := Lib.hid hl
    clear hlf hl
    have hK := Blk.new w1 120 (arrC l)
    go_wp2_with (refine wpList_load_blk rfl 120 (.tmp 3) rfl w1.heap.size rfl 120 (arrC l) 7 3 hK Try.undArr Try.infoArr ?_)
    have hb2 : Below w.heap.size w (w1.alloc (.cells (arrC l) 120)) := hb1.alloc hb1.size _
    generalize w1.alloc (.cells (arrC l) 120) = w2 at *
    refine (length_any l w2).mono ?_
    rintro e w3 ⟨rfl, hb3⟩
    have hp := isPermB_P HU.out
    have e2 := invSum_fill hp
    have e1 := HF.out
    rw [HL.out] at e2
    rw [e1, e2]
    have HB3 := Lib.hid (hb2.trans (hb3.mono hb2.size))
    clear e1 e2 hb3 hb2 hK hp
    go_wp2
    go_ret
    exact ⟨ret_int HE.out.symm, HB3.out⟩

theorem isDescent_fact {x y : Int} : (decide (y < x)) = decide (x > y) := rfl
end Go.Proofs.Ytfaegfhbbkicgaa
