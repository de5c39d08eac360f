/-
  Contracts of the specification's codes, lengths and descents. Conditions: lengths below 2^40.
-/
import Derived.Test.YtfaegfhbbkicgaaSpecB
namespace Go.Proofs.Ytfaegfhbbkicgaa
open Go.RowKit

/-- How many of the places behind i and before j have a smaller number. -/
def codeCnt (xs : List Int) (i : Nat) : Nat → Nat
  | 0 => 0
  | j + 1 => codeCnt xs i j + if i < j ∧ nth xs j < nth xs i then 1 else 0
theorem codeCnt_le (xs : List Int) (i j : Nat) : codeCnt xs i j ≤ j := by
  induction j with
  | zero => exact Nat.le_refl _
  | succ j ih => unfold codeCnt; split <;> omega
theorem codeCnt_low (xs : List Int) (i j : Nat) (h : j ≤ i + 1) : codeCnt xs i j = 0 := by
  induction j with
  | zero => rfl
  | succ j ih => unfold codeCnt; rw [ih (by omega), if_neg (by omega)]
theorem codeCnt_hit {xs : List Int} {i j : Nat} (h : i < j) (hx : nth xs j < nth xs i) : codeCnt xs i (j + 1) = codeCnt xs i j + 1 := by
  show codeCnt xs i j + (if i < j ∧ nth xs j < nth xs i then 1 else 0) = _
  rw [if_pos ⟨h, hx⟩]
theorem codeCnt_miss {xs : List Int} {i j : Nat} (hx : ¬ nth xs j < nth xs i) : codeCnt xs i (j + 1) = codeCnt xs i j := by
  show codeCnt xs i j + (if i < j ∧ nth xs j < nth xs i then 1 else 0) = _
  rw [if_neg (fun h => hx h.2)]; rfl
/-- The code, k places filled. -/
def codeL (xs : List Int) (n k : Nat) : List Int := (List.range n).map fun i => if i < k then (codeCnt xs i n : Int) else 0
theorem codeL_len (xs : List Int) (n k : Nat) : (codeL xs n k).length = n := by simp [codeL]
theorem codeL_nth (xs : List Int) (n k i : Nat) (h : i < n) : nth (codeL xs n k) i = if i < k then (codeCnt xs i n : Int) else 0 := by
  rw [nth_get (by rw [codeL_len]; exact h)]; simp [codeL]
theorem codeL_zero (xs : List Int) (n : Nat) : codeL xs n 0 = List.replicate n 0 := by
  apply List.ext_getElem (by simp [codeL])
  intro j h1 h2; simp [codeL]
theorem codeL_set0 (xs : List Int) (n k : Nat) (_h : k < n) : (codeL xs n k).set k 0 = codeL xs n k := by
  apply List.ext_getElem (by simp)
  intro j h1 h2
  rw [List.getElem_set]
  split
  · rename_i e; subst e; simp [codeL]
  · rfl
theorem codeL_set (xs : List Int) (n k : Nat) (_h : k < n) : (codeL xs n k).set k (codeCnt xs k n : Int) = codeL xs n (k + 1) := by
  apply List.ext_getElem (by simp [codeL])
  intro j h1 h2
  rw [List.getElem_set]
  simp only [codeL, List.getElem_map, List.getElem_range]
  by_cases e : k = j
  · subst e; simp
  · rw [if_neg e]
    by_cases h3 : j < k
    · rw [if_pos h3, if_pos (by omega)]
    · rw [if_neg h3, if_neg (by omega)]

set_option maxHeartbeats 1000000 in
theorem l1Code_any (A : Option Addr) (n c : Nat) (xs : List Int) (w : World) (hs : SI w A n xs) (hn : n ≤ 1099511627776) :
    Calls Try.prog 150 #[.slice A n c] w fun e w' => Fresh w w' e (codeL xs n n) := by
  go_enter Try.func150, Try.ntmps150
  go_wp2_with (at_make; refine wpList_make_zero rfl (.tmp 7) (.tmp 7) rfl n rfl rfl hn ?_; intro w0 ho0 hb0)
  go_loopw [4] (fun i wr => ∃ k : Nat, k ≤ n ∧ i = .int .i64 k ∧ Own wr w.heap.size wr.heap.size (some ⟨w.heap.size, 0, none⟩) n n (codeL xs n k) ∧ Below w.heap.size w wr)
    (fun i _ => n - (intOf i).toNat)
  case atStart => exact ⟨0, Nat.zero_le _, rfl, by rw [codeL_zero]; exact ho0, hb0⟩
  case round =>
    obtain ⟨k, hk, rfl, hown, hbel⟩ := hrel
    obtain ⟨wo, hwo⟩ : ∃ wo : World, wo = wr := ⟨_, rfl⟩
    rw [← hwo] at hown hbel ⊢
    have HO := Lib.hid hown
    have HB := Lib.hid hbel
    clear ho0 hb0 hown hbel hwo wr
    by_cases hlt : k < n
    · go_wp2
      go_loopw [5] (fun jv wr => ∃ j : Nat, k + 1 ≤ j ∧ j ≤ n ∧ jv = .int .i64 j ∧ Own wr w.heap.size wr.heap.size (some ⟨w.heap.size, 0, none⟩) n n ((codeL xs n k).set k (codeCnt xs k j : Int)) ∧ Below w.heap.size w wr)
        (fun jv _ => n - (intOf jv).toNat)
      case atStart =>
        refine ⟨k + 1, Nat.le_refl _, by omega, by go_num, ?_, HB.out⟩
        rw [codeCnt_low xs k (k + 1) (Nat.le_refl _)]
        rw [show ((0 : Nat) : Int) = 0 from rfl, codeL_set0 xs n k hlt]
        exact HO.out
      case round =>
        obtain ⟨j, hj1, hj, rfl, hown, hbel⟩ := hrel
        have HO2 := Lib.hid hown
        have HB2 := Lib.hid hbel
        clear hown hbel
        by_cases hjlt : j < n
        · obtain ⟨b, o, e1, hb, hc⟩ := (hs.below HB2.out (Nat.le_refl _)).at_ (by omega)
          have hcj := hc j hjlt
          have hck := hc k hlt
          obtain ⟨x, hx⟩ : ∃ x, x = nth xs j := ⟨_, rfl⟩
          obtain ⟨y, hy⟩ : ∃ y, y = nth xs k := ⟨_, rfl⟩
          rw [← hx] at hcj
          rw [← hy] at hck
          have HX := Lib.hid hx
          have HY := Lib.hid hy
          subst e1
          clear hc hs hx hy
          have hlI : (j : Int) < (n : Int) := by omega
          have hlK : (k : Int) < (n : Int) := by omega
          have hcl : (codeCnt xs k j : Int) ≤ 1099511627776 := by have := codeCnt_le xs k j; omega
          obtain ⟨q, hq⟩ : ∃ q, q = codeCnt xs k j := ⟨_, rfl⟩
          rw [← hq] at hcl
          have HQ := Lib.hid hq
          clear hq
          have hown2 := HO2.out
          rw [← HQ.out] at hown2
          have hcO : wr.cell? ⟨w.heap.size, k, none⟩ = some (.int .i64 (q : Int)) := by
            rw [hown2.cellAt hlt, nth_get (by simp [codeL_len]; exact hlt)]; simp
          have hfO := hown2.frozenAt k
          have hst := hown2.set_ (k := k) ((q : Int) + 1)
          rw [List.set_set] at hst
          have HS1 := Lib.hid hst.1
          clear hst hown2
          by_cases hxy : x < y
          · go_wp2_with fail
            go_quiet (fail)
            go_wp2
            go_roundw
            case rel =>
              have e1 := HX.out
              have e2 := HY.out
              refine ⟨j + 1, by omega, by omega, by go_num, ?_, (by first | exact (HB2.out.drawnN _).setCell (Nat.le_refl _) _ | exact (HB2.out.setCell (Nat.le_refl _) _).drawnN _)⟩
              rw [codeCnt_hit (by omega) (by omega), ← HQ.out]
              rw [show (((q + 1 : Nat)) : Int) = (q : Int) + 1 from by omega]
              exact (HS1.out.drawn ⟨_, rfl⟩).wide (Nat.le_refl _) (by simp)
            case measure => simp [intOf]; omega
          · go_wp2_with fail
            go_quiet (fail)
            go_wp2
            go_roundw
            case rel =>
              have e1 := HX.out
              have e2 := HY.out
              refine ⟨j + 1, by omega, by omega, by go_num, ?_, HB2.out.drawnN _⟩
              rw [codeCnt_miss (by omega)]
              exact HO2.out.drawn ⟨_, rfl⟩
            case measure => simp [intOf]; omega
        · have hjn : j = n := by omega
          subst hjn
          go_wp2
          go_roundw
          case rel =>
            refine ⟨k + 1, by omega, by go_num, ?_, HB2.out⟩
            rw [← codeL_set xs _ k hlt]
            exact HO2.out
          case measure => simp [intOf]; omega
    · have hkn : k = n := by omega
      subst hkn
      go_wp2
      go_ret
      exact ⟨_, _, _, rfl, HO.out, HB.out⟩

/-- The sum of the first k numbers. -/
def sumN (xs : List Int) : Nat → Int
  | 0 => 0
  | k + 1 => sumN xs k + nth xs k
set_option maxHeartbeats 400000 in
theorem l1Sum_any (A : Option Addr) (n c : Nat) (xs : List Int) (w : World) (hs : SI w A n xs) (hn : n ≤ 1099511627776) (hb : ∀ k, k ≤ n → -1099511627776 ≤ sumN xs k ∧ sumN xs k ≤ 1099511627776) :
    Calls Try.prog 143 #[.slice A n c] w fun e w' => e = .returned (.int .i64 (sumN xs n)) ∧ Drawn w w' := by
  have HBd := Lib.hid hb
  clear hb
  go_enter Try.func143, Try.ntmps143
  go_wp2
  go_loopw [3, 4] (fun v i wr => ∃ k : Nat, k ≤ n ∧ i = .int .i64 k ∧ v = .int .i64 (sumN xs k) ∧ Drawn w wr)
    (fun _ i _ => n - (intOf i).toNat)
  case atStart => exact ⟨0, Nat.zero_le _, rfl, rfl, Drawn.refl _⟩
  case round =>
    obtain ⟨k, hk, rfl, rfl, hD⟩ := hrel
    have hs := hD.si hs
    have HD := Lib.hid hD
    clear hD
    by_cases hlt : k < n
    · obtain ⟨b, o, rfl, hb, hc⟩ := hs.at_ (by omega)
      have hc1 := hc k hlt
      obtain ⟨x, hx⟩ : ∃ x, x = nth xs k := ⟨_, rfl⟩
      obtain ⟨y, hy⟩ : ∃ y, y = sumN xs k := ⟨_, rfl⟩
      have h1 := HBd.out k (by omega)
      have h2 := HBd.out (k + 1) (by omega)
      have e : sumN xs (k + 1) = sumN xs k + nth xs k := rfl
      rw [← hx, ← hy] at e
      rw [e] at h2
      rw [← hy] at h1 ⊢
      rw [← hx] at hc1
      obtain ⟨h21, h22⟩ := h2
      have HE := Lib.hid e
      clear hc hs hx hy e
      go_wp2
      go_roundw
      case rel => exact ⟨k + 1, by omega, by go_num, by rw [HE.out], HD.out⟩
      case measure => simp [intOf]; omega
    · have hkn : k = n := by omega
      subst hkn
      go_wp2
      go_ret
      exact ⟨rfl, HD.out⟩

theorem sumN_code (xs : List Int) (n : Nat) (h7 : n ≤ 7) : ∀ k, k ≤ n → 0 ≤ sumN (codeL xs n n) k ∧ sumN (codeL xs n n) k ≤ 7 * (k : Int) := by
  intro k
  induction k with
  | zero => intro _; exact ⟨Int.le_refl _, by simp [sumN]⟩
  | succ k ih =>
    intro hk
    obtain ⟨h1, h2⟩ := ih (by omega)
    have e : sumN (codeL xs n n) (k + 1) = sumN (codeL xs n n) k + nth (codeL xs n n) k := rfl
    rw [e, codeL_nth _ _ _ _ (by omega), if_pos (by omega)]
    have := codeCnt_le xs k n
    omega
/-- The length of a permutation, by its code. -/
def lenL (xs : List Int) : Int := sumN (codeL xs xs.length xs.length) xs.length
theorem lenL_bounds {xs : List Int} (h7 : xs.length ≤ 7) : 0 ≤ lenL xs ∧ lenL xs ≤ 49 := by
  have := sumN_code xs xs.length h7 xs.length (Nat.le_refl _)
  unfold lenL
  omega
set_option maxHeartbeats 400000 in
theorem l1Length_any (A : Option Addr) (n c : Nat) (xs : List Int) (w : World) (hs : SI w A n xs) (h7 : n ≤ 7) :
    Calls Try.prog 91 #[.slice A n c] w fun e w' => e = .returned (.int .i64 (lenL xs)) ∧ Below w.heap.size w w' := by
  have hl := hs.1
  go_enter Try.func91, Try.ntmps91
  go_wp2_with fail
  refine (l1Code_any _ _ _ xs _ hs (by omega)).mono ?_
  rintro e w1 ⟨A1, n1, c1, rfl, ho1, hb1⟩
  have e1 : n1 = n := by have := ho1.len; rw [codeL_len] at this; omega
  subst e1
  have HB := Lib.hid hb1
  clear hb1
  go_wp2_with fail
  refine (l1Sum_any _ _ _ _ _ ho1.si (by omega) (fun k hk => by have := sumN_code xs n1 h7 k hk; omega)).mono ?_
  rintro e w2 ⟨rfl, hd2⟩
  go_wp2
  go_ret
  refine ⟨ret_int ?_, HB.out.trans (hd2.below _)⟩
  unfold lenL
  rw [hl]
/-- What LengthOf answers. -/
def lenPerm (xs : List Int) : Int := if isPermB xs = true then lenL xs else -1
theorem lenPerm_no {xs : List Int} (h : isPermB xs = false) : lenPerm xs = -1 := by unfold lenPerm; rw [if_neg (by rw [h]; decide)]
theorem lenPerm_yes {xs : List Int} (h : isPermB xs = true) : lenPerm xs = lenL xs := by unfold lenPerm; rw [if_pos h]
/-- What CodeOf answers. -/
def codePerm (xs : List Int) : List Int := if isPermB xs = true then codeL xs xs.length xs.length else []
theorem codePerm_no {xs : List Int} (h : isPermB xs = false) : codePerm xs = [] := by unfold codePerm; rw [if_neg (by rw [h]; decide)]
theorem codePerm_yes {xs : List Int} (h : isPermB xs = true) : codePerm xs = codeL xs xs.length xs.length := by unfold codePerm; rw [if_pos h]
theorem codePerm_small (xs : List Int) : (codePerm xs).length ≤ 1099511627775 := by
  unfold codePerm
  split
  · rename_i h
    rw [codeL_len]; exact isPermB_small h
  · simp
/-- The descents among the first k places. -/
def descL (xs : List Int) : Nat → List Int
  | 0 => []
  | k + 1 => if nth xs (k + 1) < nth xs k then descL xs k ++ [(k : Int)] else descL xs k
theorem descL_len (xs : List Int) (k : Nat) : (descL xs k).length ≤ k := by
  induction k with
  | zero => exact Nat.le_refl _
  | succ k ih =>
    unfold descL
    split
    · simp; omega
    · omega
theorem descL_hit {xs : List Int} {k : Nat} (h : nth xs (k + 1) < nth xs k) : descL xs (k + 1) = descL xs k ++ [(k : Int)] := by
  show (if nth xs (k + 1) < nth xs k then descL xs k ++ [(k : Int)] else descL xs k) = _
  rw [if_pos h]
theorem descL_miss {xs : List Int} {k : Nat} (h : ¬ nth xs (k + 1) < nth xs k) : descL xs (k + 1) = descL xs k := by
  show (if nth xs (k + 1) < nth xs k then descL xs k ++ [(k : Int)] else descL xs k) = _
  rw [if_neg h]
def descPerm (xs : List Int) : List Int := if isPermB xs = true then descL xs (xs.length - 1) else []
theorem descPerm_no {xs : List Int} (h : isPermB xs = false) : descPerm xs = [] := by unfold descPerm; rw [if_neg (by rw [h]; decide)]
theorem descPerm_yes {xs : List Int} (h : isPermB xs = true) : descPerm xs = descL xs (xs.length - 1) := by unfold descPerm; rw [if_pos h]
theorem descPerm_small (xs : List Int) : (descPerm xs).length ≤ 1099511627775 := by
  unfold descPerm
  split
  · rename_i h
    have := descL_len xs (xs.length - 1)
    have := isPermB_small h
    omega
  · simp
end Go.Proofs.Ytfaegfhbbkicgaa
