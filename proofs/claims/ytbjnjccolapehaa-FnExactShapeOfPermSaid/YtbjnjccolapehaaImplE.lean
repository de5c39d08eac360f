/-
  Contracts of the program's descents and of reversing a slice. Conditions: lengths below 2^40.
-/
import Derived.Test.YtbjnjccolapehaaImplD
namespace Go.Proofs.Ytbjnjccolapehaa
open Go.RowKit

theorem descL_fill {xs : List Int} (h : isPermP xs) : ∀ k, k + 1 ≤ xs.length → descL (fillA xs xs.length) k = descL xs k := by
  have h7 := h.2.1
  intro k
  induction k with
  | zero => intro _; rfl
  | succ k ih =>
    intro hk
    unfold descL
    rw [ih (by omega), fillA_lt (by omega) (by omega), fillA_lt (by omega) (by omega)]

set_option maxHeartbeats 2000000 in
theorem implDescents_any (A : Option Addr) (n c : Nat) (xs : List Int) (w : World) (hs : SI w A n xs) (hn : n ≤ 1099511627776) :
    Calls Try.prog 24 #[.slice A n c] w fun e w' => Fresh w w' e (descPerm xs) := by
  have hl := hs.1
  cases hu : isPermB xs with
  | false =>
    have HE := Lib.hid (descPerm_no hu)
    have HU := Lib.hid hu
    clear hu
    go_enter Try.func24, Try.ntmps24
    go_wp2_with fail
    refine (arrayOf_x c HU.out hs hn).mono ?_
    rintro e w1 ⟨l, rfl, -, hb1⟩
    go_wp2
    go_ret
    rw [HE.out]
    exact Fresh.nil_ret (hb1.alloc hb1.size _)
  | true =>
    have HE := Lib.hid (descPerm_yes hu)
    have HU := Lib.hid hu
    have hpos : 1 ≤ n := by have := (isPermB_P hu).1; omega
    have h7 : n ≤ 7 := by have := (isPermB_P hu).2.1; omega
    clear hu
    go_enter Try.func24, Try.ntmps24
    go_wp2_with fail
    refine (arrayOf_x c HU.out hs hn).mono ?_
    rintro e w1 ⟨l, rfl, hlf, hb1⟩
    have HF := Lib.hid (hlf rfl)
    have HL := Lib.hid hl
    clear hlf hl
    have hK := Blk.new w1 48 (arrC l)
    have hb2 : Below w.heap.size w (w1.alloc (.cells (arrC l) 48)) := hb1.alloc hb1.size _
    go_wp2
    obtain ⟨g, hg⟩ : ∃ g, g = w1.heap.size := ⟨_, rfl⟩
    rw [← hg] at hK ⊢
    generalize w1.alloc (.cells (arrC l) 48) = w2 at *
    have hgl := hK.lt
    clear hg
    go_loopw [5, 17] (fun v i wr => ∃ (k m : Nat) (A : Option Addr) (c : Nat), k + 1 ≤ n ∧ i = .int .i64 k ∧ v = .slice A m c ∧ Blk wr g 48 (arrC l) ∧ Own wr w2.heap.size wr.heap.size A m c (descL l k) ∧ Below w2.heap.size w2 wr)
      (fun _ i _ => n - (intOf i).toNat)
    case atStart => exact ⟨0, 0, none, 0, by omega, rfl, rfl, hK, Own.nil _ _ _, Below.refl _ _⟩
    case round =>
      obtain ⟨k, m, A0, c0, hk, rfl, rfl, hA, hown, hbel⟩ := hrel
      have hm : m ≤ 1099511627775 := by
        have h1 := hown.len
        have h2 := descL_len l k
        omega
      have HA := Lib.hid hA
      have HO := Lib.hid hown
      have HB := Lib.hid hbel
      clear hA hown hbel hK
      by_cases hlt : k + 1 < n
      · have hlI : (k : Int) < (n : Int) - 1 := by omega
        go_wp2_with (first | (refine wpList_load_blk rfl 48 (.tmp 3) rfl g rfl 48 (arrC l) 7 3 HA.out Try.undArr Try.infoArr ?_) | fail)
        refine (isDescent_any l k wr (by omega)).mono ?_
        rintro e w4 ⟨rfl, hb4⟩
        have HA4 := Lib.hid (HA.out.below hb4 HA.out.lt)
        have HO4 := Lib.hid ((HO.out.below hb4 (Nat.le_refl _)).wide (Nat.le_refl _) hb4.size)
        have HB4 := Lib.hid (HB.out.trans (hb4.mono HB.out.size))
        clear hb4
        by_cases hd : nth l (k + 1) < nth l k
        · have hdd : decide (nth l (k + 1) < nth l k) = true := by simpa using hd
          rw [hdd]
          have HD := Lib.hid hd
          clear hd hdd
          go_wp2_with (at_builtin; refine wpList_append1 rfl (.tmp 23) (.tmp 25) rfl w2.heap.size A0 m c0 (descL l k) (k : Int) rfl rfl HO4.out HB4.out.size (by omega) ?_; intro A' c' w5 ho5 _ hb5)
          go_roundw
          case rel => exact ⟨k + 1, _, _, _, by omega, by go_num, rfl, HA4.out.below hb5 hgl, by rw [descL_hit HD.out]; exact ho5, HB4.out.trans hb5⟩
          case measure => simp [intOf]; omega
        · have hdd : decide (nth l (k + 1) < nth l k) = false := by simpa using hd
          rw [hdd]
          have HD := Lib.hid hd
          clear hd hdd
          go_wp2
          go_roundw
          case rel => exact ⟨k + 1, _, _, _, by omega, by go_num, rfl, HA4.out, by rw [descL_miss (by have := HD.out; omega)]; exact HO4.out, HB4.out⟩
          case measure => simp [intOf]; omega
      · have hkn : n = k + 1 := by omega
        subst hkn
        go_wp2
        go_ret
        have e1 := HF.out
        have e2 := HL.out
        have e3 := descL_fill (isPermB_P HU.out) k (by omega)
        have ho := HO.out
        rw [e2] at e3
        rw [e1, e3] at ho
        rw [HE.out, e2, Nat.add_sub_cancel]
        exact Fresh.after hb2 ⟨A0, _, c0, rfl, ho, HB.out⟩

/-- Reversing, k places exchanged from both ends. -/
def revM (xs : List Int) (n k : Nat) : List Int := (List.range n).map fun t => if t < k ∨ n ≤ t + k then nth xs (n - 1 - t) else nth xs t
theorem revM_len (xs : List Int) (n k : Nat) : (revM xs n k).length = n := by simp [revM]
theorem revM_nth (xs : List Int) (n k t : Nat) (h : t < n) : nth (revM xs n k) t = if t < k ∨ n ≤ t + k then nth xs (n - 1 - t) else nth xs t := by
  rw [nth_get (by rw [revM_len]; exact h)]; simp [revM]
theorem revM_zero (xs : List Int) : revM xs xs.length 0 = xs := by
  apply List.ext_getElem (by simp [revM])
  intro j h1 h2
  simp only [revM, List.getElem_map, List.getElem_range]
  rw [if_neg (by omega), nth_get h2]
theorem revM_done (xs : List Int) (k : Nat) (h : xs.length ≤ 2 * k + 1) : revM xs xs.length k = xs.reverse := by
  apply List.ext_getElem (by simp [revM])
  intro j h1 h2
  have hj : j < xs.length := by rw [revM_len] at h1; exact h1
  simp only [revM, List.getElem_map, List.getElem_range, List.getElem_reverse]
  split
  · rw [nth_get (by omega)]
  · rename_i hc
    have e : xs.length - 1 - j = j := by omega
    simp only [e]
    rw [nth_get hj]
theorem revM_step (xs : List Int) (n k : Nat) (h : 2 * k + 1 < n) :
    ((revM xs n k).set k (nth xs (n - 1 - k))).set (n - 1 - k) (nth xs k) = revM xs n (k + 1) := by
  apply List.ext_getElem (by simp [revM])
  intro j h1 h2
  have hj : j < n := by rw [revM_len] at h2; exact h2
  rw [List.getElem_set]
  simp only [revM, List.getElem_map, List.getElem_range]
  by_cases e : n - 1 - k = j
  · rw [if_pos e, if_pos (by omega)]
    rw [show n - 1 - j = k from by omega]
  · rw [if_neg e, List.getElem_set]
    simp only [List.getElem_map, List.getElem_range]
    by_cases e2 : k = j
    · rw [if_pos e2, if_pos (by omega), e2]
    · rw [if_neg e2]
      by_cases h3 : j < k ∨ n ≤ j + k
      · rw [if_pos h3, if_pos (by omega)]
      · rw [if_neg h3, if_neg (by omega)]

theorem idL_reverse (n : Nat) : (idL n).reverse = downL n n := by
  apply List.ext_getElem (by simp [idL, downL])
  intro j h1 h2
  simp only [List.getElem_reverse, idL, downL, List.getElem_map, List.getElem_range, List.length_map, List.length_range]
  have : j < n := by simpa [idL] using h1
  omega

end Go.Proofs.Ytbjnjccolapehaa
