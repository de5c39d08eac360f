/-
  The shape of a permutation with one descent, on both sides. Conditions: lengths below 2^40.
-/
import Derived.Test.YtfaegfhbbkicgaaConjI
import Derived.Test.YtfaegfhbbkicgaaSpecC
import Derived.Test.YtfaegfhbbkicgaaSpecF
import Derived.Test.YtfaegfhbbkicgaaImplE
namespace Go.Proofs.Ytfaegfhbbkicgaa
open Go.RowKit

/-- Where the zeros at the end of a list begin. -/
def bareN (xs : List Int) : Nat → Nat
  | 0 => 0
  | k + 1 => if nth xs k = 0 then bareN xs k else k + 1
theorem bareN_le (xs : List Int) : ∀ k, bareN xs k ≤ k
  | 0 => Nat.le_refl _
  | k + 1 => by have := bareN_le xs k; unfold bareN; split <;> omega
theorem bareN_out (xs : List Int) : ∀ k j, bareN xs k ≤ j → j < k → nth xs j = 0
  | 0, j, _, h => absurd h (by omega)
  | k + 1, j, h1, h2 => by
    unfold bareN at h1
    split at h1
    · by_cases hj : j = k
      · subst hj; assumption
      · exact bareN_out xs k j h1 (by omega)
    · omega
theorem bareN_last (xs : List Int) : ∀ k, bareN xs k = 0 ∨ nth xs (bareN xs k - 1) ≠ 0
  | 0 => .inl rfl
  | k + 1 => by
    unfold bareN
    split
    · exact bareN_last xs k
    · right; assumption
set_option maxHeartbeats 800000 in
theorem l4Bare_any (A : Option Addr) (n c : Nat) (xs : List Int) (w : World) (hs : SI w A n xs) (hnc : n ≤ c) (hA : A ≠ none) (hn : n ≤ 1099511627776) :
    Calls Try.prog 156 #[.slice A n c] w fun e w' => Fresh w w' e (xs.take (bareN xs n)) := by
  obtain ⟨a, rfl⟩ : ∃ a, A = some a := by cases A with | none => exact absurd rfl hA | some a => exact ⟨a, rfl⟩
  have HS := Lib.hid hs
  clear hs hA
  go_enter Try.func156, Try.ntmps156
  go_wp2
  go_loopw [3] (fun i wr => ∃ k : Nat, k ≤ n ∧ i = .int .i64 k ∧ Drawn w wr ∧ bareN xs n = bareN xs k)
    (fun i _ => (intOf i).toNat)
  case atStart => exact ⟨n, Nat.le_refl _, rfl, Drawn.refl _, rfl⟩
  case round =>
    obtain ⟨k, hk, rfl, hD, hb⟩ := hrel
    have HB := Lib.hid hb
    have HD := Lib.hid hD
    clear hb hD
    cases k with
    | zero =>
      have HT := Lib.hid (l1Ints_any (some a) 0 c [] wr ⟨rfl, fun h => absurd h (by omega)⟩ (by omega))
      have hc0 : (0 : Int) ≤ (c : Int) := by omega
      go_wp2_with (go_at_call 170; refine HT.out.mono ?_; rintro e w2 ⟨A2, n2, c2, rfl, ho, hb2⟩; have HO := Lib.hid ho; have HB2 := Lib.hid hb2; clear ho hb2)
      go_ret
      rw [HB.out]
      exact ⟨A2, n2, c2, rfl, by show Own _ _ _ _ _ _ (xs.take 0); rw [List.take_zero]; exact HO.out.wide (HD.out.below w.heap.size).size (Nat.le_refl _), (HD.out.below _).trans (HB2.out.mono (HD.out.below w.heap.size).size)⟩
    | succ k =>
      obtain ⟨b, o, e1, hb, hc⟩ := (HD.out.si HS.out).at_ (by omega)
      obtain rfl : a = ⟨b, o, none⟩ := by simpa using e1
      have hc1 := hc k (by omega)
      have e : bareN xs (k + 1) = if nth xs k = 0 then bareN xs k else k + 1 := rfl
      obtain ⟨x, hx⟩ : ∃ x, x = nth xs k := ⟨_, rfl⟩
      rw [← hx] at hc1 e
      have hkI : (k : Int) < (n : Int) := by omega
      have hk0 : (0 : Int) < ((k + 1 : Nat) : Int) := by omega
      have hwk : IntKind.i64.wrap (((k + 1 : Nat) : Int) - 1) = (k : Int) := by rw [show ((k + 1 : Nat) : Int) - 1 = (k : Int) by omega]; exact IntWalk.i64_in _ (by omega)
      clear hc hx e1
      by_cases h0 : x = 0
      · rw [if_pos h0] at e
        have HE := Lib.hid e
        have hb0 : (x == 0) = true := by simpa using h0
        clear e
        go_wp2
        go_roundw
        case rel => exact ⟨k, by omega, by go_num, HD.out, by rw [HB.out, HE.out]⟩
        case measure => simp [intOf]
      · rw [if_neg h0] at e
        have HE := Lib.hid e
        have hb0 : (x == 0) = false := by simpa using h0
        have hic : ((k + 1 : Nat) : Int) ≤ (c : Int) := by omega
        have hi0 : (0 : Int) ≤ ((k + 1 : Nat) : Int) := by omega
        have HT := Lib.hid (l1Ints_any (some ⟨b, o, none⟩) (k + 1) c (xs.take (k + 1)) wr ((HD.out.si HS.out).take (by omega)) (by omega))
        obtain ⟨q, hq⟩ : ∃ q, q = k + 1 := ⟨_, rfl⟩
        rw [← hq] at hk0 hic hi0 hwk hk HE HT HB ⊢
        clear e hq
        go_wp2_with (go_at_call 170; refine HT.out.mono ?_; rintro e w2 ⟨A2, n2, c2, rfl, ho, hb2⟩; have HO := Lib.hid ho; have HB2 := Lib.hid hb2; clear ho hb2)
        go_ret
        rw [HB.out, HE.out]
        exact ⟨A2, n2, c2, rfl, HO.out.wide (HD.out.below w.heap.size).size (Nat.le_refl _), (HD.out.below _).trans (HB2.out.mono (HD.out.below w.heap.size).size)⟩
set_option maxRecDepth 100000 in
set_option maxHeartbeats 800000 in
/-- The rows of an array, up to the first one that is not above 0. -/
theorem rowsShape_any (l : List Int) (w : World) (hl : l.length = 16) :
    Calls Try.prog 160 #[arr16 l] w fun e w' => ∃ q, q ≤ 16 ∧ (∀ j, j < q → 0 < nth l j) ∧ (q = 16 ∨ ¬ 0 < nth l q) ∧ Fresh w w' e (l.take q) := by
  have HL := Lib.hid hl
  obtain ⟨w0, hw0⟩ : ∃ w0, w0 = w.alloc (.cells (arrD l) 82) := ⟨_, rfl⟩
  obtain ⟨g, hg⟩ : ∃ g, g = w.heap.size := ⟨_, rfl⟩
  have HB0 : Hid (Below w.heap.size w w0) := Lib.hid (by rw [hw0]; exact Below.alloc_self _ _)
  have HK0 : Hid (Blk w0 g 82 (arrD l)) := Lib.hid (by rw [hw0, hg]; exact Blk.new _ _ _)
  clear hl
  go_enter Try.func160, Try.ntmps160
  go_upto_region 1 with fail
  rw [← hw0, ← hg]
  clear hw0 hg
  generalize arr16 l = va
  go_wp2
  go_loopw [3] (fun i wr => ∃ k : Nat, k ≤ 16 ∧ i = .int .i64 k ∧ Drawn w0 wr ∧ ∀ j, j < k → 0 < nth l j)
    (fun i _ => 16 - (intOf i).toNat)
  case atStart => exact ⟨0, Nat.zero_le _, rfl, Drawn.refl _, fun j hj => absurd hj (by omega)⟩
  case round =>
    obtain ⟨k, hk, rfl, hD, hall⟩ := hrel
    have HA := Lib.hid hall
    have HD := Lib.hid hD
    have HK := Lib.hid (HK0.out.drawn hD)
    have HBR : Hid (Below w.heap.size w wr) := Lib.hid (HB0.out.trans ((hD.below _).mono HB0.out.size))
    have hcl := clone_any (some ⟨g, 0, none⟩) k 16 (l.take k) wr (SI.of_rows HK.out hk HL.out) (by intro h; cases h) (by omega)
    have HCL := Lib.hid hcl
    have hsl := fun wx => sliceRows_to ⟨g, 0, none⟩ k hk wx
    clear hall hD hcl
    by_cases hlt : k < 16
    · have hkI : (k : Int) < 16 := by omega
      have hc1 : wr.cell? ⟨g, k, none⟩ = some (.int .i64 (nth l k)) := by rw [HK.out.cell, arrD_get _ _ hlt]
      obtain ⟨x, hx⟩ : ∃ x, x = nth l k := ⟨_, rfl⟩
      rw [← hx] at hc1
      have HX := Lib.hid hx
      clear hx
      by_cases h0 : 0 < x
      · clear hsl
        go_wp2
        go_roundw
        case rel => exact ⟨k + 1, by omega, by go_num, HD.out, fun j hj => by
          rcases Nat.lt_or_ge j k with h | h
          · exact HA.out j h
          · obtain rfl : j = k := by omega
            rw [← HX.out]; exact h0⟩
        case measure => simp [intOf]; omega
      · go_wp2_with (go_at_call 173; refine HCL.out.mono ?_; rintro e w2 ⟨A2, n2, c2, rfl, ho, hb2⟩; have HO := Lib.hid ho; have HB2 := Lib.hid hb2; clear ho hb2)
        go_ret
        exact ⟨k, hk, HA.out, .inr (by rw [← HX.out]; exact h0), A2, n2, c2, rfl, HO.out.wide HBR.out.size (Nat.le_refl _), HBR.out.trans (HB2.out.mono HBR.out.size)⟩
    · have hk16 : k = 16 := by omega
      subst hk16
      go_wp2_with (go_at_call 173; refine HCL.out.mono ?_; rintro e w2 ⟨A2, n2, c2, rfl, ho, hb2⟩; have HO := Lib.hid ho; have HB2 := Lib.hid hb2; clear ho hb2)
      go_ret
      exact ⟨16, hk, HA.out, .inl rfl, A2, n2, c2, rfl, HO.out.wide HBR.out.size (Nat.le_refl _), HBR.out.trans (HB2.out.mono HBR.out.size)⟩
/-- A list that nowhere rises and is nowhere below 0: both ways to strike its zeros are one. -/
theorem bare_one {l : List Int} {n q : Nat} (hn : l.length = n) (h0 : ∀ j, 0 ≤ nth l j) (hd : ∀ i j, i ≤ j → nth l j ≤ nth l i) (hq : ∀ j, j < q → 0 < nth l j) (hq' : ¬ 0 < nth l q) : q = bareN l n := by
  have h1 := bareN_le l n
  rcases Nat.lt_trichotomy q (bareN l n) with h | h | h
  · rcases bareN_last l n with h2 | h2
    · omega
    · have := hd q (bareN l n - 1) (by omega)
      have := h0 (bareN l n - 1)
      omega
  · exact h
  · have := hq (bareN l n) h
    by_cases hb : bareN l n < n
    · rw [bareN_out l n _ (Nat.le_refl _) hb] at this; omega
    · rw [nth_out (by omega)] at this; omega
end Go.Proofs.Ytfaegfhbbkicgaa
