/-
  The conjugate shape, on both sides. Conditions: lengths below 2^40.
-/
import Derived.Test.YtdkcngilmdpbgaaRows16
import Derived.Deep.Cut
namespace Go.Proofs.Ytdkcngilmdpbgaa
open Go.RowKit

/-- How many of the first k numbers are more than j. -/
def cntN (xs : List Int) (j : Nat) : Nat → Int
  | 0 => 0
  | k + 1 => if (j : Int) < nth xs k then cntN xs j k + 1 else cntN xs j k
theorem cntN_range (xs : List Int) (j : Nat) : ∀ k : Nat, 0 ≤ cntN xs j k ∧ cntN xs j k ≤ (k : Int)
  | 0 => ⟨Int.le_refl _, Int.le_refl _⟩
  | k + 1 => by
    have := cntN_range xs j k
    unfold cntN
    split <;> omega
def conjL (xs : List Int) (m : Nat) : List Int := (List.range m).map fun j => cntN xs j xs.length
theorem conjL_len (xs : List Int) (m : Nat) : (conjL xs m).length = m := by simp [conjL]
theorem conjL_succ (xs : List Int) (m : Nat) : conjL xs (m + 1) = conjL xs m ++ [cntN xs m xs.length] := by simp [conjL, List.range_succ]
/-- What ConjugateShape answers. -/
def conjShape (xs : List Int) : List Int := if isShapeB xs = true then conjL xs (nth xs 0).toNat else []
theorem conj_no {xs : List Int} (h : isShapeB xs = false) : conjShape xs = [] := by unfold conjShape; rw [if_neg (by rw [h]; decide)]
theorem conj_yes {xs : List Int} (h : isShapeB xs = true) : conjShape xs = conjL xs (nth xs 0).toNat := by unfold conjShape; rw [if_pos h]
theorem shape_first {xs : List Int} (h : isShapeP xs) : ∀ k, k < xs.length → nth xs k ≤ nth xs 0 := by
  intro k
  induction k with
  | zero => intro _; exact Int.le_refl _
  | succ k ih => intro hk; have h1 := ih (by omega); have h2 : nth xs (k + 1) ≤ nth xs k := (h.2 (k + 1) hk).2; omega
theorem shape_range {xs : List Int} (h : isShapeP xs) : ∀ k, 0 ≤ nth xs k ∧ nth xs k ≤ 16 := by
  have h0 : nth xs 0 ≤ 16 ∨ xs.length = 0 := by
    by_cases hl : xs.length = 0
    · exact .inr hl
    · exact .inl ((h.2 0 (by omega)).2)
  intro k
  by_cases hk : k < xs.length
  · have h1 := (h.2 k hk).1
    have h2 := shape_first h k hk
    omega
  · rw [nth_out (by omega)]; omega
theorem conj_small (xs : List Int) : (conjShape xs).length ≤ 1099511627775 := by
  unfold conjShape
  split
  · rename_i h
    rw [conjL_len]
    have := shape_range (isShapeB_P h) 0
    omega
  · simp
theorem Fresh.nil_ret' {w w' : World} (h : Below w.heap.size w w') : Fresh w w' (.returned (.slice none 0 0)) [] := ⟨none, 0, 0, rfl, Own.nil _ _ _, h⟩
set_option maxHeartbeats 400000 in
theorem l4At_any (A : Option Addr) (n c : Nat) (xs : List Int) (i : Nat) (w : World) (hs : SI w A n xs) (hn : n ≤ 1099511627776) (hi : i ≤ 1099511627776) :
    Calls Try.prog 65 #[.slice A n c, .int .i64 i] w fun e w' => e = .returned (.int .i64 (nth xs i)) ∧ w = w' := by
  by_cases hlt : i < n
  · obtain ⟨b, o, rfl, hb, hc⟩ := hs.at_ (by omega)
    have hc1 := hc i hlt
    have hlI : (i : Int) < (n : Int) := by omega
    obtain ⟨x, hx⟩ : ∃ x, x = nth xs i := ⟨_, rfl⟩
    rw [← hx] at hc1 ⊢
    clear hc hs hx
    go_enter Try.func65, Try.ntmps65
    go_wp2
    go_ret
    exact ⟨rfl, rfl⟩
  · rw [nth_out (by have := hs.1; omega)]
    have hlI : ¬ (i : Int) < (n : Int) := by omega
    clear hs
    go_enter Try.func65, Try.ntmps65
    go_wp2
    go_ret
    exact ⟨rfl, rfl⟩
set_option maxHeartbeats 1600000 in
theorem specConj_any (A : Option Addr) (n c : Nat) (xs : List Int) (w : World) (hs : SI w A n xs) (hn : n ≤ 1099511627776) :
    Calls Try.prog 115 #[.slice A n c] w fun e w' => Fresh w w' e (conjShape xs) := by
  have HI := Lib.hid (specIsShape_any A n c xs w hs hn)
  cases hu : isShapeB xs with
  | false =>
    rw [hu] at HI
    have HE := Lib.hid (conj_no hu)
    clear hu hs
    go_enter Try.func115, Try.ntmps115
    go_wp2_with (go_at_call 69; refine HI.out.mono ?_; rintro e w1 ⟨rfl, hd1⟩)
    go_ret
    rw [HE.out]
    exact Fresh.nil_ret' (hd1.below _)
  | true =>
    rw [hu] at HI
    have hp := isShapeB_P hu
    have HL := Lib.hid hs.1
    have h16 : n ≤ 16 := by have := hp.1; have := hs.1; omega
    obtain ⟨m, hm⟩ : ∃ m : Nat, nth xs 0 = (m : Int) := ⟨(nth xs 0).toNat, by have := (shape_range hp 0).1; omega⟩
    have hm16 : m ≤ 16 := by have := (shape_range hp 0).2; omega
    have HE : Hid (conjShape xs = conjL xs m) := Lib.hid (by rw [conj_yes hu, hm, Int.toNat_natCast])
    have HA0 : Hid (∀ w' : World, Below w.heap.size w w' → Calls Try.prog 65 #[.slice A n c, .int .i64 0] w' fun e w'' => e = .returned (.int .i64 m) ∧ w' = w'') := Lib.hid (fun w' hb => by
      have := l4At_any A n c xs 0 w' (hs.below hb (Nat.le_refl _)) hn (by omega)
      rw [hm] at this; exact this)
    have HS := Lib.hid hs
    clear hu hs hp hm
    go_enter Try.func115, Try.ntmps115
    go_wp2_with (go_at_call 69; refine HI.out.mono ?_; rintro e w1 ⟨rfl, hd1⟩; have HD1 : Hid (Below w.heap.size w w1) := Lib.hid (hd1.below _); have HZ1 : Hid (w1.heap.size = w.heap.size) := Lib.hid (by rw [hd1.heap]); clear hd1)
    go_loopw [3, 4] (fun ov jv wr => ∃ (j : Nat) (Ao : Option Addr) (co : Nat), j ≤ m ∧ jv = .int .i64 j ∧ ov = .slice Ao j co ∧ Own wr w.heap.size wr.heap.size Ao j co (conjL xs j) ∧ Below w.heap.size w wr)
      (fun _ jv _ => m - (intOf jv).toNat)
    case atStart => exact ⟨0, _, _, Nat.zero_le _, rfl, rfl, (Own.empty w1).wide (by rw [HZ1.out]; exact Nat.le_refl _) (by simp), HD1.out.alloc (by rw [HZ1.out]; exact Nat.le_refl _) _⟩
    case round =>
      obtain ⟨j, Ao, co, hj, rfl, rfl, hown, hbw⟩ := hrel
      have HO := Lib.hid hown
      have HB := Lib.hid hbw
      clear hown hbw
      obtain ⟨wo, rfl⟩ : ∃ wo, wo = wr := ⟨wr, rfl⟩
      by_cases hlt : j < m
      · have hlI : (j : Int) < (m : Int) := by omega
        go_wp2_with (go_at_call 65; refine (HA0.out _ HB.out).mono ?_; rintro e w2 ⟨rfl, rfl⟩)
        go_loopw [5, 6] (fun nv iv wx => ∃ i : Nat, i ≤ n ∧ iv = .int .i64 i ∧ nv = .int .i64 (cntN xs j i) ∧ wx = wo)
          (fun _ iv _ => n - (intOf iv).toNat)
        case atStart => exact ⟨0, Nat.zero_le _, rfl, rfl, rfl⟩
        case round =>
          obtain ⟨i, hi, rfl, rfl, hwx⟩ := hrel
          have HWX := Lib.hid hwx
          have hso := HS.out.below HB.out (Nat.le_refl _)
          rw [← hwx] at hso
          clear hwx
          by_cases hlt2 : i < n
          · have hiI : (i : Int) < (n : Int) := by omega
            obtain ⟨b, o, rfl, hb, hc⟩ := hso.at_ (by omega)
            have hc1 := hc i hlt2
            have hr := cntN_range xs j i
            have e : cntN xs j (i + 1) = if (j : Int) < nth xs i then cntN xs j i + 1 else cntN xs j i := rfl
            obtain ⟨x, hx⟩ : ∃ x, x = nth xs i := ⟨_, rfl⟩
            obtain ⟨y, hy⟩ : ∃ y, y = cntN xs j i := ⟨_, rfl⟩
            rw [← hx, ← hy] at e
            rw [← hx] at hc1
            rw [← hy] at hr ⊢
            obtain ⟨hr0, hr1⟩ := hr
            have hwp : IntKind.i64.wrap (y + 1) = y + 1 := IntWalk.i64_in _ (by omega)
            clear hc hx hy hso
            by_cases hjx : (j : Int) < x
            · rw [if_pos hjx] at e
              have HE2 := Lib.hid e
              clear e
              go_wp2
              go_roundw
              case rel => exact ⟨i + 1, by omega, by go_num, by rw [HE2.out], HWX.out⟩
              case measure => simp [intOf]; omega
            · rw [if_neg hjx] at e
              have HE2 := Lib.hid e
              clear e
              go_wp2
              go_roundw
              case rel => exact ⟨i + 1, by omega, by go_num, by rw [HE2.out], HWX.out⟩
              case measure => simp [intOf]; omega
          · have hin : i = n := by omega
            subst hin
            have HC : Hid (conjL xs (j + 1) = conjL xs j ++ [cntN xs j i]) := Lib.hid (by rw [conjL_succ, HL.out])
            obtain ⟨y, hy⟩ : ∃ y, y = cntN xs j i := ⟨_, rfl⟩
            rw [← hy] at HC ⊢
            have HO' : Hid (Own wr w.heap.size wr.heap.size Ao j co (conjL xs j)) := Lib.hid (by rw [HWX.out]; exact HO.out)
            have HB' : Hid (Below w.heap.size w wr) := Lib.hid (by rw [HWX.out]; exact HB.out)
            clear hso hy
            go_wp2_with (at_builtin; refine wpList_append1 rfl (.tmp 31) (.tmp 33) rfl w.heap.size Ao j co (conjL xs j) y rfl rfl HO'.out HB'.out.size (by omega) ?_; intro A' c' w5 ho5 _ hb5)
            go_roundw
            case rel => exact ⟨j + 1, _, _, by omega, by go_num, rfl, by rw [HC.out]; exact ho5, HB'.out.trans hb5⟩
            case measure => simp [intOf]; omega
      · have hjm : j = m := by omega
        subst hjm
        go_wp2_with (go_at_call 65; refine (HA0.out _ HB.out).mono ?_; rintro e w2 ⟨rfl, rfl⟩)
        go_ret
        rw [HE.out]
        exact ⟨Ao, _, co, rfl, HO.out, HB.out⟩
end Go.Proofs.Ytdkcngilmdpbgaa
