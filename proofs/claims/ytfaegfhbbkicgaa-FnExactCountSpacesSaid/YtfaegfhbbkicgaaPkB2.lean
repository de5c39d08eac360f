/-
  Texts StrM to Frame, merged. Conditions: as each says.
-/
import Derived.ProofKit
import Derived.OpenShut
import Derived.ChangeOld
import Derived.Test.YtfaegfhbbkicgaaPkB1
/-
  Strings of zeros and ones and their shapes: the model of both sides. No conditions.
-/


namespace Go.Proofs.Ytfaegfhbbkicgaa
open Go.RowKit

/-- Is the list a string. -/
def strP (xs : List Int) : Prop := 1 ≤ xs.length ∧ xs.length ≤ 7 ∧ ∀ k, k < xs.length → 0 ≤ nth xs k ∧ nth xs k ≤ 1
def strB (xs : List Int) : Bool := decide (1 ≤ xs.length) && decide (xs.length ≤ 7) && (List.range xs.length).all fun k => decide (0 ≤ nth xs k ∧ nth xs k ≤ 1)
theorem strB_iff (xs : List Int) : strB xs = true ↔ strP xs := by simp [strB, strP, and_assoc]
theorem strB_P {xs : List Int} (h : strB xs = true) : strP xs := (strB_iff xs).1 h
theorem strB_true {xs : List Int} (h : strP xs) : strB xs = true := (strB_iff xs).2 h
theorem strB_false {xs : List Int} (h : ¬ strP xs) : strB xs = false := by
  cases hb : strB xs with
  | false => rfl
  | true => exact absurd (strB_P hb) h
/-- How many zeros, how many others there are among the first k numbers. -/
def zerN (xs : List Int) : Nat → Nat
  | 0 => 0
  | k + 1 => if nth xs k = 0 then zerN xs k + 1 else zerN xs k
def oneN (xs : List Int) : Nat → Nat
  | 0 => 0
  | k + 1 => if nth xs k = 0 then oneN xs k else oneN xs k + 1
theorem zer_one (xs : List Int) : ∀ k, zerN xs k + oneN xs k = k
  | 0 => rfl
  | k + 1 => by have := zer_one xs k; unfold zerN oneN; split <;> omega
theorem one_le (xs : List Int) : ∀ {j k : Nat}, j ≤ k → oneN xs j ≤ oneN xs k
  | j, 0, h => by obtain rfl : j = 0 := by omega
                  exact Nat.le_refl _
  | j, k + 1, h => by
    by_cases e : j = k + 1
    · subst e; exact Nat.le_refl _
    · have := one_le xs (j := j) (k := k) (by omega)
      have e2 : oneN xs (k + 1) = if nth xs k = 0 then oneN xs k else oneN xs k + 1 := rfl
      rw [e2]
      split <;> omega
theorem sum_one {xs : List Int} : ∀ {k : Nat}, (∀ j, j < k → 0 ≤ nth xs j ∧ nth xs j ≤ 1) → sumN xs k = (oneN xs k : Int)
  | 0, _ => rfl
  | k + 1, h => by
    have h1 := sum_one (k := k) fun j hj => h j (by omega)
    have h2 := h k (by omega)
    have e : sumN xs (k + 1) = sumN xs k + nth xs k := rfl
    have e2 : oneN xs (k + 1) = if nth xs k = 0 then oneN xs k else oneN xs k + 1 := rfl
    rw [e, e2, h1]
    split <;> omega
/-- A row for each one, the last one's first. -/
def shpL (xs : List Int) : Nat → List Int
  | 0 => []
  | k + 1 => if nth xs k = 0 then shpL xs k else (zerN xs k : Int) :: shpL xs k
theorem shpL_zero {xs : List Int} {k : Nat} (h : nth xs k = 0) : shpL xs (k + 1) = shpL xs k := if_pos h
theorem shpL_one {xs : List Int} {k : Nat} (h : nth xs k ≠ 0) : shpL xs (k + 1) = (zerN xs k : Int) :: shpL xs k := if_neg h
theorem zerN_zero {xs : List Int} {k : Nat} (h : nth xs k = 0) : zerN xs (k + 1) = zerN xs k + 1 := if_pos h
theorem zerN_one {xs : List Int} {k : Nat} (h : nth xs k ≠ 0) : zerN xs (k + 1) = zerN xs k := if_neg h
theorem oneN_zero {xs : List Int} {k : Nat} (h : nth xs k = 0) : oneN xs (k + 1) = oneN xs k := if_pos h
theorem oneN_one {xs : List Int} {k : Nat} (h : nth xs k ≠ 0) : oneN xs (k + 1) = oneN xs k + 1 := if_neg h
theorem shpL_len (xs : List Int) : ∀ k, (shpL xs k).length = oneN xs k
  | 0 => rfl
  | k + 1 => by
    by_cases h : nth xs k = 0
    · rw [shpL_zero h, oneN_zero h, shpL_len xs k]
    · rw [shpL_one h, oneN_one h, List.length_cons, shpL_len xs k]
theorem nth_cons0 (x : Int) (l : List Int) : nth (x :: l) 0 = x := rfl
theorem nth_consS (x : Int) (l : List Int) (j : Nat) : nth (x :: l) (j + 1) = nth l j := by simp [nth, List.getD]
theorem shpL_range (xs : List Int) : ∀ k j, 0 ≤ nth (shpL xs k) j ∧ nth (shpL xs k) j ≤ (zerN xs k : Int)
  | 0, j => by simp [shpL, nth, zerN]
  | k + 1, j => by
    have ih := shpL_range xs k
    by_cases h : nth xs k = 0
    · rw [shpL_zero h, zerN_zero h]
      have := ih j
      omega
    · rw [shpL_one h, zerN_one h]
      cases j with
      | zero => rw [nth_cons0]; omega
      | succ j => rw [nth_consS]; exact ih j
theorem shpL_down (xs : List Int) : ∀ k i j, i ≤ j → nth (shpL xs k) j ≤ nth (shpL xs k) i
  | 0, i, j, _ => by simp [shpL, nth]
  | k + 1, i, j, hij => by
    have ih := shpL_down xs k
    by_cases h : nth xs k = 0
    · rw [shpL_zero h]; exact ih i j hij
    · rw [shpL_one h]
      cases i with
      | zero =>
        rw [nth_cons0]
        cases j with
        | zero => rw [nth_cons0]; exact Int.le_refl _
        | succ j => rw [nth_consS]; exact (shpL_range xs k j).2
      | succ i =>
        cases j with
        | zero => omega
        | succ j => rw [nth_consS, nth_consS]; exact ih i j (by omega)
/-- The sixteen places when j numbers are read: n numbers in all. -/
def rowL (xs : List Int) (n j : Nat) : List Int := List.replicate (oneN xs n - oneN xs j) 0 ++ (shpL xs j ++ List.replicate (16 - oneN xs n) 0)
theorem rowL_len {xs : List Int} {n j : Nat} (hj : j ≤ n) (hn : n ≤ 16) : (rowL xs n j).length = 16 := by
  have h1 := one_le xs hj
  have h2 := zer_one xs n
  unfold rowL
  rw [List.length_append, List.length_append, List.length_replicate, List.length_replicate, shpL_len]
  omega
theorem rowL_start {xs : List Int} {n : Nat} (hn : n ≤ 16) : rowL xs n 0 = List.replicate 16 0 := by
  have h2 := zer_one xs n
  show List.replicate (oneN xs n - 0) 0 ++ ([] ++ List.replicate (16 - oneN xs n) 0) = _
  rw [List.nil_append, List.replicate_append_replicate]
  congr 1; omega
theorem rowL_same {xs : List Int} {n j : Nat} (h : nth xs j = 0) : rowL xs n (j + 1) = rowL xs n j := by
  unfold rowL; rw [shpL_zero h, oneN_zero h]
theorem rowL_set {xs : List Int} {n j : Nat} (hj : j < n) (h : nth xs j ≠ 0) : (rowL xs n j).set (oneN xs n - oneN xs j - 1) (zerN xs j : Int) = rowL xs n (j + 1) := by
  have h1 := one_le xs (j := j + 1) (k := n) hj
  rw [oneN_one h] at h1
  unfold rowL
  rw [shpL_one h, oneN_one h]
  have e : oneN xs n - oneN xs j = (oneN xs n - (oneN xs j + 1)) + 1 := by omega
  rw [e, List.replicate_succ', Nat.add_sub_cancel, List.append_assoc, List.set_append_right _ _ (by simp)]
  simp
theorem rowL_end (xs : List Int) (n : Nat) : rowL xs n n = shpL xs n ++ List.replicate (16 - oneN xs n) 0 := by unfold rowL; simp
theorem rowL_nth (xs : List Int) (n k : Nat) : nth (rowL xs n n) k = nth (shpL xs n) k := by
  rw [rowL_end]
  by_cases h : k < (shpL xs n).length
  · simp [nth, List.getD, List.getElem?_append, h]
  · rw [nth_out (xs := shpL xs n) (by omega)]
    unfold nth
    rw [List.getD_eq_getElem?_getD, List.getElem?_append_right (by omega), List.getElem?_replicate]
    split <;> rfl
/-- The rows of a string. -/
def bareS (xs : List Int) (n : Nat) : List Int := (shpL xs n).take (bareN (shpL xs n) (oneN xs n))
/-- What ShapeOfString answers. -/
def sosS (xs : List Int) : List Int := if strB xs = true then bareS xs xs.length else []
def sosK (xs : List Int) : Int := if strB xs = true then (oneN xs xs.length : Int) else 0
theorem sos_no {xs : List Int} (h : strB xs = false) : sosS xs = [] ∧ sosK xs = 0 := by unfold sosS sosK; rw [if_neg (by rw [h]; decide), if_neg (by rw [h]; decide)]; exact ⟨rfl, rfl⟩
theorem sos_yes {xs : List Int} (h : strB xs = true) : sosS xs = bareS xs xs.length ∧ sosK xs = (oneN xs xs.length : Int) := by unfold sosS sosK; rw [if_pos h, if_pos h]; exact ⟨rfl, rfl⟩
theorem sosS_small (xs : List Int) : (sosS xs).length ≤ 1099511627775 := by
  unfold sosS
  split
  · rename_i h
    have h7 := (strB_P h).2.1
    have h1 := zer_one xs xs.length
    unfold bareS
    rw [List.length_take, shpL_len]
    omega
  · simp
/-- The string of a shape when i ones are written. -/
def soF (xs : List Int) (k m : Nat) : Nat → List Int
  | 0 => List.replicate m 0
  | i + 1 => (soF xs k m i).set ((i : Int) + nth xs (k - 1 - i)).toNat 1
theorem soF_len (xs : List Int) (k m : Nat) : ∀ i, (soF xs k m i).length = m
  | 0 => by simp [soF]
  | i + 1 => by unfold soF; rw [List.length_set]; exact soF_len xs k m i
/-- What StringOfShape answers. -/
def strOf (xs : List Int) (k m : Int) : List Int := if boxB xs k m = true then soF xs k.toNat m.toNat k.toNat else []
theorem strOf_no {xs : List Int} {k m : Int} (h : boxB xs k m = false) : strOf xs k m = [] := by unfold strOf; rw [if_neg (by rw [h]; decide)]
theorem strOf_yes {xs : List Int} {k m : Nat} (h : boxB xs (k : Int) (m : Int) = true) : strOf xs (k : Int) (m : Int) = soF xs k m k := by unfold strOf; rw [if_pos h, Int.toNat_natCast, Int.toNat_natCast]
theorem strOf_small (xs : List Int) (k m : Int) : (strOf xs k m).length ≤ 1099511627775 := by
  unfold strOf
  split
  · rename_i h
    have hp := boxB_P h
    rw [soF_len]
    have := hp.2.1
    omega
  · simp
theorem box_place {xs : List Int} {k m i : Nat} (hp : boxP xs (k : Int) (m : Int)) (hi : i < k) : 0 ≤ (i : Int) + nth xs (k - 1 - i) ∧ (i : Int) + nth xs (k - 1 - i) < (m : Int) := by
  have hs := hp.2.2.2.2.1
  have h0 := (shape_range hs (k - 1 - i)).1
  have h1 : ∀ t, nth xs t ≤ (m : Int) - (k : Int) := by
    intro t
    induction t with
    | zero => exact hp.2.2.2.2.2.2
    | succ t ih =>
      by_cases h : t + 1 < xs.length
      · have h2 := (hs.2 (t + 1) h).2
        have e : prevS xs (t + 1) = nth xs t := rfl
        omega
      · rw [nth_out (by omega)]
        have := hp.2.2.2.1
        omega
  have := h1 (k - 1 - i)
  omega
end Go.Proofs.Ytfaegfhbbkicgaa

/-
  A list of numbers all of which are 0 or 1: the program's tests. Conditions: lengths below 2^40.
-/

namespace Go.Proofs.Ytfaegfhbbkicgaa
open Go.RowKit

end Go.Proofs.Ytfaegfhbbkicgaa

/-
  Strings of zeros and ones and their shapes, the program's side. Conditions: lengths below 2^40.
-/

namespace Go.Proofs.Ytfaegfhbbkicgaa
open Go.RowKit

set_option maxHeartbeats 800000 in
theorem onesOf_any (A : Option Addr) (n c : Nat) (xs : List Int) (w : World) (hs : SI w A n xs) (hp : strP xs) :
    Calls Try.prog 158 #[.slice A n c] w fun e w' => e = .returned (.int .i64 (oneN xs n)) ∧ Drawn w w' := by
  have hl := hs.1
  have hn7 : n ≤ 7 := by have := hp.2.1; omega
  have HR := Lib.hid hp.2.2
  have HL := Lib.hid hl
  clear hl hp
  go_enter Try.func158, Try.ntmps158
  go_wp2
  go_loopw [3, 8] (fun v iv wr => ∃ k : Nat, k ≤ n ∧ iv = .int .i64 k ∧ v = .int .i64 (oneN xs k) ∧ Drawn w wr)
    (fun _ iv _ => n - (intOf iv).toNat)
  case atStart => exact ⟨0, Nat.zero_le _, rfl, rfl, Drawn.refl _⟩
  case round =>
    obtain ⟨k, hk, rfl, rfl, hD⟩ := hrel
    have HDR := Lib.hid hD
    have hs := hD.si hs
    clear hD
    by_cases hlt : k < n
    · have hlI : (k : Int) < (n : Int) := by omega
      obtain ⟨b, o, rfl, hb, hc⟩ := hs.at_ (by omega)
      have hc1 := hc k hlt
      obtain ⟨x, hx⟩ : ∃ x, x = nth xs k := ⟨_, rfl⟩
      rw [← hx] at hc1
      have hr := HR.out k (by have := HL.out; omega)
      rw [← hx] at hr
      have hsum : Hid ((oneN xs (k + 1) : Int) = (oneN xs k : Int) + x) := Lib.hid (by
        by_cases h : nth xs k = 0
        · rw [oneN_zero h, hx, h]; omega
        · rw [oneN_one h]
          omega)
      have hz7 : oneN xs k ≤ 7 := by have := zer_one xs k; omega
      obtain ⟨z, hz⟩ : ∃ z, z = oneN xs k := ⟨_, rfl⟩
      rw [← hz] at hz7 hsum ⊢
      have hw1 : IntKind.i64.wrap ((z : Int) + x) = (z : Int) + x := IntWalk.i64_in _ (by omega)
      clear hc hx hs hz hr
      go_wp2
      go_roundw
      case rel => exact ⟨k + 1, by omega, by go_num, by rw [hsum.out], HDR.out⟩
      case measure => simp [intOf]; omega
    · have hkn : k = n := by omega
      subst hkn
      go_wp2
      go_ret
      exact ⟨rfl, HDR.out⟩
set_option maxRecDepth 100000 in
set_option maxHeartbeats 1600000 in
theorem rowsOfString_any (A : Option Addr) (n c : Nat) (xs : List Int) (w : World) (hs : SI w A n xs) (hp : strP xs) :
    Calls Try.prog 159 #[.slice A n c] w fun e w' => e = .returned (arr16 (rowL xs n n)) ∧ Below w.heap.size w w' := by
  have hl := hs.1
  have hn7 : n ≤ 7 := by have := hp.2.1; omega
  have HON := Lib.hid (fun w' (hb : Below w.heap.size w w') => onesOf_any A n c xs w' (hs.below hb (Nat.le_refl _)) hp)
  have HL := Lib.hid hl
  have HS := Lib.hid hs
  clear hl hp hs
  obtain ⟨w1, hw1⟩ : ∃ w1, w1 = (w.alloc (.cells zero16 82)).alloc (.cells zero16 82) := ⟨_, rfl⟩
  obtain ⟨g, hg⟩ : ∃ g, g = w.heap.size := ⟨_, rfl⟩
  have HB1 : Hid (Below w.heap.size w w1) := Lib.hid (by rw [hw1]; exact ((Below.refl _ _).alloc (Nat.le_refl _) _).alloc (by simp) _)
  have HK1 : Hid (Blk w1 (g + 1) 82 (arrD (rowL xs n 0))) := Lib.hid (by
    rw [hw1, hg, rowL_start (by omega)]
    have := Blk.new (w.alloc (.cells zero16 82)) 82 zero16
    rwa [show (w.alloc (.cells zero16 82)).heap.size = w.heap.size + 1 from by simp] at this)
  have HZ1 : Hid (Blk w1 g 82 zero16) := Lib.hid (by rw [hw1, hg]; exact (Blk.new w 82 zero16).alloc _)
  have HW1 := Lib.hid hw1
  have HG := Lib.hid hg
  obtain ⟨g1, hg1⟩ : ∃ g1, g1 = g + 1 := ⟨_, rfl⟩
  have HG1 := Lib.hid hg1
  rw [← hg1] at HK1
  obtain ⟨z, hz⟩ : ∃ z, z = oneN xs n := ⟨_, rfl⟩
  have HZ := Lib.hid hz
  have hz7 : z ≤ 7 := by have := zer_one xs n; omega
  rw [← hz] at HON
  clear hw1 hg hg1 hz
  go_enter Try.func159, Try.ntmps159
  go_upto_region 2 with fail
  rw [← HW1.out, ← HG.out]
  rw [← HG1.out]
  go_wp2_with (go_at_call 158; refine (HON.out _ HB1.out).mono ?_; rintro e w2 ⟨rfl, hd2⟩
               have HK2 : Hid (Blk w2 g1 82 (arrD (rowL xs n 0))) := Lib.hid (HK1.out.drawn hd2)
               have HZ2 : Hid (Blk w2 g 82 zero16) := Lib.hid (HZ1.out.drawn hd2)
               have HB2 : Hid (Below w.heap.size w w2) := Lib.hid (HB1.out.trans (hd2.below _))
               clear hd2)
  go_loopw [4, 5, 12] (fun zv ov iv wr => ∃ k : Nat, k ≤ n ∧ iv = .int .i64 k ∧ zv = .int .i64 (zerN xs k) ∧ ov = .int .i64 ((z : Int) - (oneN xs k : Int)) ∧ Blk wr g1 82 (arrD (rowL xs n k)) ∧ Blk wr g 82 zero16 ∧ Below w.heap.size w wr)
    (fun _ _ iv _ => n - (intOf iv).toNat)
  case atStart => exact ⟨0, Nat.zero_le _, rfl, rfl, by simp [oneN], HK2.out, HZ2.out, HB2.out⟩
  case round =>
    obtain ⟨k, hk, rfl, rfl, rfl, hbk, hbz, hbw⟩ := hrel
    clear HK2 HZ2 HB2
    have HK := Lib.hid hbk
    have HZB := Lib.hid hbz
    have HB := Lib.hid hbw
    clear hbk hbz hbw
    have hu7 : zerN xs k ≤ 7 := by have := zer_one xs k; omega
    have ho7 : oneN xs k ≤ 7 := by have := zer_one xs k; omega
    by_cases hlt : k < n
    · have hlI : (k : Int) < (n : Int) := by omega
      obtain ⟨b, o, rfl, hb, hc⟩ := (HS.out.below HB.out (Nat.le_refl _)).at_ (by omega)
      have hc1 := hc k hlt
      obtain ⟨x, hx⟩ : ∃ x, x = nth xs k := ⟨_, rfl⟩
      rw [← hx] at hc1
      have HX := Lib.hid hx
      clear hc hx
      by_cases hx0 : x = 0
      · have hxb : (x == 0) = true := by simpa using hx0
        have HX0 : Hid (nth xs k = 0) := Lib.hid (by rw [← HX.out]; exact hx0)
        clear hx0
        obtain ⟨u, hu⟩ : ∃ u, u = zerN xs k := ⟨_, rfl⟩
        rw [← hu] at hu7 ⊢
        have HU := Lib.hid hu
        clear hu
        go_wp2
        go_roundw
        case rel => exact ⟨k + 1, by omega, by go_num, by rw [zerN_zero HX0.out, ← HU.out]; go_num, by rw [oneN_zero HX0.out], by rw [rowL_same HX0.out]; exact HK.out, HZB.out, HB.out⟩
        case measure => simp [intOf]; omega
      · have hxb : (x == 0) = false := by simpa using hx0
        have HX0 : Hid (nth xs k ≠ 0) := Lib.hid (by rw [← HX.out]; exact hx0)
        clear hx0
        have hle := one_le xs (j := k + 1) (k := n) hlt
        rw [oneN_one HX0.out, ← HZ.out] at hle
        have hset := rowL_set (xs := xs) (n := n) (j := k) hlt HX0.out
        rw [← HZ.out] at hset
        obtain ⟨u, hu⟩ : ∃ u, u = zerN xs k := ⟨_, rfl⟩
        rw [← hu] at hu7 hset ⊢
        have HU := Lib.hid hu
        obtain ⟨v, hv⟩ : ∃ v, v = oneN xs k := ⟨_, rfl⟩
        rw [← hv] at ho7 hset hle ⊢
        have HV := Lib.hid hv
        clear hu hv
        obtain ⟨t, ht⟩ : ∃ t, t = z - v - 1 := ⟨_, rfl⟩
        rw [← ht] at hset
        have ht16 : t < 16 := by omega
        have hti : (z : Int) - (v : Int) - 1 = (t : Int) := by omega
        have hw1 : IntKind.i64.wrap ((z : Int) - (v : Int) - 1) = (t : Int) := by rw [hti]; exact IntWalk.i64_in _ (by omega)
        have hct : wr.cell? ⟨g1, t, none⟩ = some (.int .i64 (nth (rowL xs n k) t)) := by rw [HK.out.cell, arrD_get _ _ ht16]
        have hft := HK.out.frozen t
        have HFIN : Hid (Blk (wr.setCell ⟨g1, t, none⟩ (.int .i64 u)) g1 82 (arrD (rowL xs n (k + 1)))) := Lib.hid (by
          have h1 := HK.out.set_ t (.int .i64 u)
          rwa [arrD_set _ _ ht16 _ (rowL_len (by omega) (by omega)), hset] at h1)
        have ht0 : (t : Int) < 16 := by omega
        have HTI := Lib.hid hti
        have HT : Hid ((z : Int) - ((v + 1 : Nat) : Int) = (t : Int)) := Lib.hid (by omega)
        clear hset ht hti
        go_wp2
        go_roundw
        case rel => exact ⟨k + 1, by omega, by go_num, by rw [zerN_one HX0.out, ← HU.out], by rw [oneN_one HX0.out, ← HV.out, HT.out], HFIN.out, HZB.out.far (by have := HG1.out; show g ≠ g1; omega) _, HB.out.setCell (by have := HG1.out; have := HG.out; show w.heap.size ≤ g1; omega) _⟩
        case measure => simp [intOf]; omega
    · have hkn : k = n := by omega
      subst hkn
      obtain ⟨L, hL⟩ : ∃ L, L = rowL xs k k := ⟨_, rfl⟩
      rw [← hL] at HK
      have HLL := Lib.hid hL
      clear hL
      go_wp2_with (first
        | (refine wpList_load_blk rfl 82 (.tmp 3) rfl g1 rfl 82 (arrD L) 16 3 HK.out Try.undRows Try.infoRows ?_)
        | (refine wpList_store_blk rfl 82 (.tmp 2) (.tmp 26) rfl g (arrD L) rfl rfl 82 zero16 HZB.out Try.infoRows rfl (arrD_one _) ?_; intro w5 hb5 hg5)
        | fail)
      refine bodyPost_ret (results_blk Try.results159 _ _ _ _ _ 16 3 rfl hb5 Try.undRows Try.infoRows) rfl ?_
      exact ⟨by rw [HLL.out], HB.out.grown hg5 HB.out.size (by rintro q ⟨⟩; have := HG.out; omega)⟩
theorem row_take {xs : List Int} {n q : Nat} (hn : n ≤ 7) (_hq : q ≤ 16) (h1 : ∀ j, j < q → 0 < nth (rowL xs n n) j) (h2 : q = 16 ∨ ¬ 0 < nth (rowL xs n n) q) : (rowL xs n n).take q = bareS xs n := by
  have hz := zer_one xs n
  have hl : (shpL xs n).length = oneN xs n := shpL_len xs n
  have h3 : ∀ j, j < q → 0 < nth (shpL xs n) j := fun j hj => by have := h1 j hj; rwa [rowL_nth] at this
  have h4 : ¬ 0 < nth (shpL xs n) q := by
    rcases h2 with h | h
    · subst h; rw [nth_out (by omega)]; decide
    · rwa [rowL_nth] at h
  have hb := bare_one hl (fun j => (shpL_range xs n j).1) (fun i j h => shpL_down xs n i j h) h3 h4
  have hq2 : q ≤ oneN xs n := by rw [hb]; exact bareN_le _ _
  unfold bareS
  rw [← hb, rowL_end, List.take_append_of_le_length (by omega)]
theorem gR_none : ∀ v, (gR [] v).length = v
  | 0 => rfl
  | v + 1 => by
    have e : gR [] (v + 1) = gR [] v ++ [(v : Int)] := if_neg (by simp [hasB])
    rw [e, List.length_append, gR_none v]; rfl
theorem gL_pos {xs : List Int} {k m : Nat} (hm : 1 ≤ m) : 1 ≤ (gL xs k m).length := by
  unfold gL
  cases k with
  | zero =>
    have e : gF xs 0 0 = [] := rfl
    rw [e, List.nil_append, gR_none]; exact hm
  | succ k => rw [List.length_append, gF_len]; omega
theorem SI.kept {w w' : World} {A : Option Addr} {n : Nat} {xs : List Int} {row : Option Nat} (h : SI w A n xs) (hg : w.grownBy w' row) (hr : ∀ b o, A = some ⟨b, o, none⟩ → some b ≠ row) : SI w' A n xs :=
  ⟨h.1, fun hn => by
    obtain ⟨b, o, e, hb, hc⟩ := h.2 hn
    have hs := hg.size
    exact ⟨b, o, e, by omega, fun k hk => hg.cell (hc k hk) (hr b o e)⟩⟩
theorem eql_nil (w : World) : (binOp .eql 22 (.slice none 0 0) (.slice none 0 0)).run Try.prog w = .ok (.bool true) w := by
  have h : ∀ d : Nat, (Op.equalIn (d + 1) 22 (.slice none 0 0) (.slice none 0 0)).run Try.prog w = .ok true w := fun d => by simp [Op.equalIn, run_underlying Try.underlying22]
  simp only [binOp]
  simp [Op.equal, Op.maxDepth, h 9999]
theorem eql_some (a : Addr) (n c : Nat) (w : World) : (binOp .eql 22 (.slice (some a) n c) (.slice none 0 0)).run Try.prog w = .ok (.bool false) w := by
  have h : ∀ d : Nat, (Op.equalIn (d + 1) 22 (.slice (some a) n c) (.slice none 0 0)).run Try.prog w = .ok false w := fun d => by simp [Op.equalIn, run_underlying Try.underlying22]
  simp only [binOp]
  simp [Op.equal, Op.maxDepth, h 9999]
theorem gL_len (xs : List Int) (k m : Nat) (h : k ≤ (gL xs k m).length) {i : Nat} (hi : i < k) : nth (gL xs k m) i = (i : Int) + nth xs (k - 1 - i) := by
  have hl := gF_len xs k k
  rw [nth_get (by omega)]
  simp only [gL]
  rw [List.getElem_append_left (by omega)]
  simp [gF]
end Go.Proofs.Ytfaegfhbbkicgaa

/-
  The dual of a shape in a box, on both sides. Conditions: lengths below 2^40.
-/

namespace Go.Proofs.Ytfaegfhbbkicgaa
open Go.RowKit

/-- The rows nowhere rise. -/
theorem shape_down {xs : List Int} (h : isShapeP xs) : ∀ j i, i ≤ j → nth xs j ≤ nth xs i
  | 0, i, hi => by obtain rfl : i = 0 := by omega
                   exact Int.le_refl _
  | j + 1, i, hi => by
    by_cases e : i = j + 1
    · subst e; exact Int.le_refl _
    · have h1 := shape_down h j i (by omega)
      by_cases hj : j + 1 < xs.length
      · have := (h.2 (j + 1) hj).2
        have e2 : prevS xs (j + 1) = nth xs j := rfl
        omega
      · rw [nth_out (by omega)]; exact (shape_range h i).1
/-- The first j rows of the dual: d less the rows from behind. -/
def duaN (xs : List Int) (d : Int) (k j : Nat) : List Int := (List.range j).map fun (t : Nat) => d - nth xs (k - 1 - t)
theorem duaN_len (xs : List Int) (d : Int) (k j : Nat) : (duaN xs d k j).length = j := by simp [duaN]
theorem duaN_succ (xs : List Int) (d : Int) (k j : Nat) : duaN xs d k (j + 1) = duaN xs d k j ++ [d - nth xs (k - 1 - j)] := by simp [duaN, List.range_succ]
theorem duaN_nth {xs : List Int} {d : Int} {k j t : Nat} (h : t < j) : nth (duaN xs d k j) t = d - nth xs (k - 1 - t) := by
  rw [nth_get (by rw [duaN_len]; exact h)]; simp [duaN]
theorem duaN_nonneg {xs : List Int} {k m : Nat} (h : boxP xs (k : Int) (m : Int)) (j : Nat) : 0 ≤ nth (duaN xs ((m : Int) - (k : Int)) k k) j := by
  by_cases hj : j < k
  · rw [duaN_nth hj]
    have := shape_down h.2.2.2.2.1 (k - 1 - j) 0 (Nat.zero_le _)
    have := h.2.2.2.2.2.2
    omega
  · rw [nth_out (by rw [duaN_len]; omega)]; exact Int.le_refl _
theorem duaN_down {xs : List Int} {k m : Nat} (h : boxP xs (k : Int) (m : Int)) (i j : Nat) (hij : i ≤ j) : nth (duaN xs ((m : Int) - (k : Int)) k k) j ≤ nth (duaN xs ((m : Int) - (k : Int)) k k) i := by
  by_cases hj : j < k
  · rw [duaN_nth hj, duaN_nth (by omega)]
    have := shape_down h.2.2.2.2.1 (k - 1 - i) (k - 1 - j) (by omega)
    omega
  · rw [nth_out (xs := duaN xs _ k k) (k := j) (by rw [duaN_len]; omega)]; exact duaN_nonneg h i
/-- What DualShape answers. -/
def duaS (xs : List Int) (k m : Int) : List Int := if boxB xs k m = true then (duaN xs (m - k) k.toNat k.toNat).take (bareN (duaN xs (m - k) k.toNat k.toNat) k.toNat) else []
theorem dua_no {xs : List Int} {k m : Int} (h : boxB xs k m = false) : duaS xs k m = [] := by unfold duaS; rw [if_neg (by rw [h]; decide)]
theorem dua_yes {xs : List Int} {k : Nat} {m : Int} (h : boxB xs (k : Int) m = true) : duaS xs (k : Int) m = (duaN xs (m - (k : Int)) k k).take (bareN (duaN xs (m - (k : Int)) k k) k) := by unfold duaS; rw [if_pos h, Int.toNat_natCast]
theorem duaS_small (xs : List Int) (k m : Int) : (duaS xs k m).length ≤ 1099511627775 := by
  unfold duaS
  split
  · rename_i h
    have hp := boxB_P h
    have h1 := hp.2.1; have h2 := hp.2.2.2.1
    rw [List.length_take, duaN_len]
    omega
  · simp
/-- The rows when i of them are taken. -/
def rowU (xs : List Int) (d : Int) (k i : Nat) : List Int := (List.range 16).map fun (t : Nat) => if t < i then d - nth xs (k - 1 - t) else 0
theorem rowU_len (xs : List Int) (d : Int) (k i : Nat) : (rowU xs d k i).length = 16 := by simp [rowU]
theorem rowU_nth {xs : List Int} {d : Int} {k i t : Nat} (h : t < 16) : nth (rowU xs d k i) t = if t < i then d - nth xs (k - 1 - t) else 0 := by
  rw [nth_get (by rw [rowU_len]; exact h)]; simp [rowU]
theorem rowU_step {xs : List Int} {d : Int} {k i : Nat} (hi : i < 16) : (rowU xs d k i).set i (d - nth xs (k - 1 - i)) = rowU xs d k (i + 1) := by
  refine list_ext_nth (by simp [rowU_len]) fun t ht => ?_
  have ht' : t < 16 := by simpa [rowU_len] using ht
  rw [nth_set _ (by rw [rowU_len]; omega), rowU_nth ht', rowU_nth ht']
  by_cases h : t = i
  · rw [if_pos h, if_pos (by omega), h]
  · rw [if_neg h]
    by_cases h2 : t < i
    · rw [if_pos h2, if_pos (by omega)]
    · rw [if_neg h2, if_neg (by omega)]
theorem rowU_zero (xs : List Int) (d : Int) (k : Nat) : arrD (rowU xs d k 0) = zero16 := by
  have h : ∀ t, t < 16 → nth (rowU xs d k 0) t = 0 := fun t ht => by rw [rowU_nth ht, if_neg (by omega)]
  simp only [arrD, h 0 (by omega), h 1 (by omega), h 2 (by omega), h 3 (by omega), h 4 (by omega), h 5 (by omega), h 6 (by omega), h 7 (by omega), h 8 (by omega), h 9 (by omega), h 10 (by omega), h 11 (by omega), h 12 (by omega), h 13 (by omega), h 14 (by omega), h 15 (by omega)]
theorem rowU_all {xs : List Int} {d : Int} {k : Nat} (hk : k ≤ 16) (j : Nat) : nth (rowU xs d k k) j = nth (duaN xs d k k) j := by
  by_cases hj : j < k
  · rw [rowU_nth (by omega), duaN_nth hj, if_pos hj]
  · rw [nth_out (xs := duaN xs d k k) (by rw [duaN_len]; omega)]
    by_cases h16 : j < 16
    · rw [rowU_nth h16, if_neg hj]
    · rw [nth_out (by rw [rowU_len]; omega)]
theorem row_bare {xs : List Int} {k m q : Nat} (h : boxP xs (k : Int) (m : Int)) (h1 : ∀ j, j < q → 0 < nth (rowU xs ((m : Int) - (k : Int)) k k) j) (h2 : q = 16 ∨ ¬ 0 < nth (rowU xs ((m : Int) - (k : Int)) k k) q) :
    (rowU xs ((m : Int) - (k : Int)) k k).take q = (duaN xs ((m : Int) - (k : Int)) k k).take (bareN (duaN xs ((m : Int) - (k : Int)) k k) k) := by
  have hk7 : k ≤ 7 := by have := h.2.1; have := h.2.2.2.1; omega
  have hqq : q = bareN (duaN xs ((m : Int) - (k : Int)) k k) k := bare_one (duaN_len _ _ _ _) (duaN_nonneg h) (duaN_down h) (fun j hj => by rw [← rowU_all (by omega)]; exact h1 j hj) (by
    rcases h2 with e | e
    · subst e; rw [nth_out (by rw [duaN_len]; omega)]; decide
    · rw [← rowU_all (by omega)]; exact e)
  have hqd : q ≤ k := by rw [hqq]; exact bareN_le _ _
  rw [← hqq]
  refine list_ext_nth (by rw [List.length_take, List.length_take, rowU_len, duaN_len]; omega) fun t ht => ?_
  have htq : t < q := by rw [List.length_take] at ht; omega
  rw [nth_take htq, nth_take htq, rowU_all (by omega)]
end Go.Proofs.Ytfaegfhbbkicgaa

/-
  Hooks of shapes and products of them: plain lemmas; sizes and factorials, on both sides. Conditions: sizes of at most 20.
-/


namespace Go.Proofs.Ytfaegfhbbkicgaa
open Go.RowKit

def factN : Nat → Nat
  | 0 => 1
  | n + 1 => (n + 1) * factN n
theorem factN_mono {a b : Nat} (h : a ≤ b) : factN a ≤ factN b := by
  induction b with
  | zero => obtain rfl : a = 0 := by omega
            exact Nat.le_refl _
  | succ b ih =>
    by_cases hab : a = b + 1
    · subst hab; exact Nat.le_refl _
    · have h1 := ih (by omega)
      have h2 : factN (b + 1) = (b + 1) * factN b := rfl
      rw [h2, Nat.succ_mul]
      exact Nat.le_trans h1 (Nat.le_add_left _ _)
theorem fact20 {n : Nat} (h : n ≤ 20) : factN n ≤ 2432902008176640000 := Nat.le_trans (factN_mono h) (by decide)
theorem factN_pos (n : Nat) : 0 < factN n := by
  induction n with
  | zero => decide
  | succ n ih => exact Nat.mul_pos (by omega) ih
/-- The hook of a cell. -/
def hkI (xs : List Int) (i j : Nat) : Int := nth xs i - (j : Int) + cntN xs j xs.length - (i : Int) - 1
def hkN (xs : List Int) (i j : Nat) : Nat := (hkI xs i j).toNat
def rowN (xs : List Int) (i : Nat) : Nat := (nth xs i).toNat
def rowProd (xs : List Int) (i : Nat) : Nat → Nat
  | 0 => 1
  | j + 1 => rowProd xs i j * hkN xs i j
def allProd (xs : List Int) : Nat → Nat
  | 0 => 1
  | i + 1 => allProd xs i * rowProd xs i (rowN xs i)
/-- How many cells stand ahead of a row. -/
def cellsN (xs : List Int) : Nat → Nat
  | 0 => 0
  | i + 1 => cellsN xs i + rowN xs i
theorem cellsN_sum {xs : List Int} (h : ∀ k, 0 ≤ nth xs k) : ∀ i, sumN xs i = (cellsN xs i : Int)
  | 0 => rfl
  | i + 1 => by
    have h1 : sumN xs (i + 1) = sumN xs i + nth xs i := rfl
    have h2 : cellsN xs (i + 1) = cellsN xs i + rowN xs i := rfl
    rw [h1, h2, cellsN_sum h i]
    unfold rowN
    have := h i
    omega
theorem cellsN_mono (xs : List Int) {i j : Nat} (h : i ≤ j) : cellsN xs i ≤ cellsN xs j := by
  induction j with
  | zero => obtain rfl : i = 0 := by omega
            exact Nat.le_refl _
  | succ j ih =>
    by_cases hij : i = j + 1
    · subst hij; exact Nat.le_refl _
    · exact Nat.le_trans (ih (by omega)) (Nat.le_add_right _ _)
/-- Rows that are longer than j: those up to one that is, and no more than there are cells behind it. -/
theorem cnt_low {xs : List Int} (h : isShapeP xs) {i j : Nat} (hi : i < xs.length) (hj : (j : Int) < nth xs i) : ∀ k, k ≤ i + 1 → cntN xs j k = (k : Int) := by
  have hd : ∀ d k, k + d = i → nth xs i ≤ nth xs k := by
    intro d
    induction d with
    | zero => intro k hk; obtain rfl : k = i := by omega
              exact Int.le_refl _
    | succ d ih =>
      intro k hk
      have h1 := ih (k + 1) (by omega)
      have h2 : nth xs (k + 1) ≤ nth xs k := (h.2 (k + 1) (by omega)).2
      omega
  intro k
  induction k with
  | zero => intro _; rfl
  | succ k ih =>
    intro hk
    have h1 := ih (by omega)
    have h2 := hd (i - k) k (by omega)
    show (if (j : Int) < nth xs k then cntN xs j k + 1 else cntN xs j k) = _
    rw [if_pos (by omega), h1]; omega
theorem cnt_up {xs : List Int} (h : ∀ k, 0 ≤ nth xs k) (j a : Nat) : ∀ k, a ≤ k → cntN xs j k ≤ cntN xs j a + ((cellsN xs k : Int) - cellsN xs a) ∧ cntN xs j a ≤ cntN xs j k := by
  intro k
  induction k with
  | zero => intro hk; obtain rfl : a = 0 := by omega
            omega
  | succ k ih =>
    intro hk
    by_cases hak : a = k + 1
    · subst hak; omega
    · have h1 := ih (by omega)
      have h2 : cellsN xs (k + 1) = cellsN xs k + rowN xs k := rfl
      have h3 := h k
      have h4 : cntN xs j (k + 1) = if (j : Int) < nth xs k then cntN xs j k + 1 else cntN xs j k := rfl
      unfold rowN at h2
      rw [h4, h2]
      split <;> omega
theorem hook_bnd {xs : List Int} (h : isShapeP xs) {i j : Nat} (hi : i < xs.length) (hj : (j : Int) < nth xs i) :
    1 ≤ hkI xs i j ∧ hkI xs i j ≤ (cellsN xs xs.length : Int) - cellsN xs i - j := by
  have h1 := cnt_low h hi hj (i + 1) (Nat.le_refl _)
  have h2 := cnt_up (fun k => (shape_range h k).1) j (i + 1) xs.length (by omega)
  have h3 : cellsN xs (i + 1) = cellsN xs i + rowN xs i := rfl
  unfold rowN at h3
  unfold hkI
  omega
theorem prod_bnd {xs : List Int} (h : isShapeP xs) : ∀ i, i ≤ xs.length → (∀ j, j ≤ rowN xs i → i < xs.length → 0 < allProd xs i * rowProd xs i j ∧ allProd xs i * rowProd xs i j * factN (cellsN xs xs.length - (cellsN xs i + j)) ≤ factN (cellsN xs xs.length)) ∧ (0 < allProd xs i ∧ allProd xs i * factN (cellsN xs xs.length - cellsN xs i) ≤ factN (cellsN xs xs.length)) := by
  intro i
  induction i with
  | zero =>
    intro _
    have base : 0 < allProd xs 0 ∧ allProd xs 0 * factN (cellsN xs xs.length - cellsN xs 0) ≤ factN (cellsN xs xs.length)   := ⟨Nat.one_pos, by show 1 * factN (cellsN xs xs.length - 0) ≤ _; rw [Nat.one_mul]; exact Nat.le_refl _⟩
    exact ⟨fun j hj hi => rowstep h hi base j hj, base⟩
  | succ i ih =>
    intro hi
    have h1 := (ih (by omega)).1 (rowN xs i) (Nat.le_refl _) (by omega)
    have base : 0 < allProd xs (i + 1) ∧ allProd xs (i + 1) * factN (cellsN xs xs.length - cellsN xs (i + 1)) ≤ factN (cellsN xs xs.length) := h1
    exact ⟨fun j hj hi => rowstep h hi base j hj, base⟩
where
  rowstep {xs : List Int} (h : isShapeP xs) {i : Nat} (hi : i < xs.length) (base : 0 < allProd xs i ∧ allProd xs i * factN (cellsN xs xs.length - cellsN xs i) ≤ factN (cellsN xs xs.length)) : ∀ j, j ≤ rowN xs i → 0 < allProd xs i * rowProd xs i j ∧ allProd xs i * rowProd xs i j * factN (cellsN xs xs.length - (cellsN xs i + j)) ≤ factN (cellsN xs xs.length) := by
    intro j
    induction j with
    | zero => intro _; show 0 < allProd xs i * 1 ∧ allProd xs i * 1 * _ ≤ _; rw [Nat.mul_one]; exact base
    | succ j ih =>
      intro hj
      have hjx : (j : Int) < nth xs i := by unfold rowN at hj; omega
      obtain ⟨b1, b2⟩ := hook_bnd h hi hjx
      obtain ⟨p1, p2⟩ := ih (by omega)
      have hs : cellsN xs i + rowN xs i ≤ cellsN xs xs.length := cellsN_mono xs (i := i + 1) (by omega)
      obtain ⟨r, hr⟩ : ∃ r, cellsN xs xs.length - (cellsN xs i + j) = r + 1 := ⟨cellsN xs xs.length - (cellsN xs i + j) - 1, by omega⟩
      have hr2 : cellsN xs xs.length - (cellsN xs i + (j + 1)) = r := by omega
      rw [hr] at p2
      rw [hr2]
      have hk1 : 1 ≤ hkN xs i j := by unfold hkN; omega
      have hk2 : hkN xs i j ≤ r + 1 := by unfold hkN; omega
      have e : allProd xs i * rowProd xs i (j + 1) = allProd xs i * rowProd xs i j * hkN xs i j := by show allProd xs i * (rowProd xs i j * hkN xs i j) = _; rw [Nat.mul_assoc]
      rw [e]
      refine ⟨Nat.mul_pos p1 hk1, Nat.le_trans ?_ p2⟩
      rw [Nat.mul_assoc]
      exact Nat.mul_le_mul_left _ (Nat.mul_le_mul_right _ hk2)
/-- How many standard tableaux: the factorial, divided by the hooks. -/
def stdN (xs : List Int) : Nat := factN (cellsN xs xs.length) / allProd xs xs.length
def stdOk (xs : List Int) : Bool := isShapeB xs && decide (sumN xs xs.length ≤ 20)
def stdCount (xs : List Int) : Int := if stdOk xs = true then (stdN xs : Int) else -1
set_option maxHeartbeats 400000 in
theorem l1Factorial_any (n : Nat) (w : World) (h : n ≤ 20) :
    Calls Try.prog 177 #[.int .i64 n] w fun e w' => e = .returned (.int .i64 (factN n : Nat)) ∧ w = w' := by
  go_enter Try.func177, Try.ntmps177
  go_wp2
  go_loopw [3, 4] (fun pv iv wr => ∃ k : Nat, 2 ≤ k ∧ (k ≤ n + 1 ∨ k = 2) ∧ iv = .int .i64 k ∧ pv = .int .i64 (factN (k - 1) : Nat) ∧ Drawn w wr ∧ w = wr)
    (fun _ iv _ => n + 2 - (intOf iv).toNat)
  case atStart => exact ⟨2, by omega, .inr rfl, rfl, rfl, Drawn.refl _, rfl⟩
  case round =>
    obtain ⟨k, hk2, hk, rfl, rfl, _, rfl⟩ := hrel
    by_cases hlt : k ≤ n
    · have hkI : (k : Int) ≤ (n : Int) := by omega
      obtain ⟨m, rfl⟩ : ∃ m, k = m + 1 := ⟨k - 1, by omega⟩
      have e : factN (m + 1) = (m + 1) * factN m := rfl
      have hb := fact20 (n := m + 1) (by omega)
      have hz : ((m + 1 - 1 : Nat)) = m := by omega
      rw [hz]
      obtain ⟨f, hf⟩ : ∃ f, f = factN m := ⟨_, rfl⟩
      rw [← hf] at e ⊢
      rw [e] at hb
      have HE : Hid (factN (m + 1 + 1 - 1) = (m + 1) * f) := Lib.hid (by rw [show m + 1 + 1 - 1 = m + 1 by omega]; exact e)
      have hwr : IntKind.i64.wrap ((f : Int) * ((m + 1 : Nat) : Int)) = (((m + 1) * f : Nat) : Int) := by
        rw [← Int.natCast_mul, Nat.mul_comm]; exact IntWalk.i64_in _ (by omega)
      obtain ⟨q, hq⟩ : ∃ q, q = (m + 1) * f := ⟨_, rfl⟩
      obtain ⟨k1, hk1⟩ : ∃ k1, k1 = m + 1 := ⟨_, rfl⟩
      rw [← hq] at hwr HE
      rw [← hk1] at hwr HE hkI hk hk2 ⊢
      have hk20 : k1 ≤ 20 := by omega
      clear e hb hf hq hz hk1
      go_wp2
      go_roundw
      case rel => exact ⟨k1 + 1, by omega, .inl (by omega), by go_num, by rw [HE.out], Drawn.refl _, by trivial⟩
      case measure => simp [intOf]; omega
    · have hkI : ¬ (k : Int) ≤ (n : Int) := by omega
      have HE : Hid (factN (k - 1) = factN n) := Lib.hid (by
        rcases hk with h | h
        · rw [show k - 1 = n by omega]
        · subst h
          rcases (by omega : n = 0 ∨ n = 1) with rfl | rfl <;> rfl)
      go_wp2
      go_ret
      exact ⟨by rw [HE.out]; rfl, by trivial⟩
end Go.Proofs.Ytfaegfhbbkicgaa

/-
  How many standard tableaux a shape has, on both sides. Conditions: lengths below 2^40.
-/

namespace Go.Proofs.Ytfaegfhbbkicgaa
open Go.RowKit

theorem stdOk_no {xs : List Int} (h : stdOk xs = false) : stdCount xs = -1 := by unfold stdCount; rw [h]; rfl
theorem stdOk_yes {xs : List Int} (h : stdOk xs = true) : stdCount xs = (stdN xs : Int) := by unfold stdCount; rw [h]; rfl
theorem sum_bnd {xs : List Int} (h : isShapeP xs) (k : Nat) (hk : k ≤ 16) : 0 ≤ sumN xs k ∧ sumN xs k ≤ 16 * (k : Int) := by
  induction k with
  | zero => exact ⟨Int.le_refl _, Int.le_refl _⟩
  | succ k ih =>
    have h1 := ih (by omega)
    have h2 := shape_range h k
    have e : sumN xs (k + 1) = sumN xs k + nth xs k := rfl
    rw [e]; omega
theorem tdiv_nat (a b : Nat) : Int.tdiv (a : Int) (b : Int) = ((a / b : Nat) : Int) := by rw [Int.tdiv_eq_ediv_of_nonneg (by omega)]; rfl
end Go.Proofs.Ytfaegfhbbkicgaa

/-
  Whether a shape is in a box, and the degree of a box: the standard tableaux of the shape that fills it, on both sides. Conditions: lengths below 2^40.
-/


namespace Go.Proofs.Ytfaegfhbbkicgaa
open Go.RowKit

/-- What DegreeOfGr answers. -/
def degN (k m : Int) : Int := if boxB [] k m = true then stdCount (duaS [] k m) else -1
theorem deg_no {k m : Int} (h : boxB [] k m = false) : degN k m = -1 := by unfold degN; rw [if_neg (by rw [h]; decide)]
theorem deg_yes {k m : Int} (h : boxB [] k m = true) : degN k m = stdCount (duaS [] k m) := by unfold degN; rw [if_pos h]
theorem SI.empty_ (w : World) : SI w none 0 [] := ⟨rfl, fun h => absurd h (by omega)⟩
theorem box_empty (k m : Int) : boxB [] k m = decide (1 ≤ m ∧ m ≤ 7 ∧ 0 ≤ k ∧ k ≤ m) := by
  cases hu : boxB [] k m with
  | true => have h := boxB_P hu; rw [decide_eq_true ⟨h.1, h.2.1, h.2.2.1, h.2.2.2.1⟩]
  | false =>
    rw [decide_eq_false]
    intro h
    have : boxP [] k m := ⟨h.1, h.2.1, h.2.2.1, h.2.2.2, ⟨by simp, fun j hj => absurd hj (by simp)⟩, by simp; omega, by
      rw [nth_out (by simp)]; omega⟩
    rw [boxB_true this] at hu; cases hu
theorem duaS_len (k m : Int) : (duaS [] k m).length ≤ 1099511627776 := Nat.le_trans (duaS_small [] k m) (by decide)
end Go.Proofs.Ytfaegfhbbkicgaa

/-
  Shapes in a box counted by size, on both sides. No conditions.
-/


namespace Go.Proofs.Ytfaegfhbbkicgaa
open Go.RowKit

theorem idx16 (l : List Int) (k : Nat) (h : k < 16) (w : World) : (Instr.index 82 (arr16 l) (.int .i64 k)).run Try.prog w = .ok (.int .i64 (nth l k)) w := by
  rcases lt16 h with rfl | rfl | rfl | rfl | rfl | rfl | rfl | rfl | rfl | rfl | rfl | rfl | rfl | rfl | rfl | rfl <;> kernel_rfl
theorem sumN_congr {xs ys : List Int} : ∀ k, (∀ j, j < k → nth xs j = nth ys j) → sumN xs k = sumN ys k
  | 0, _ => rfl
  | k + 1, h => by
    show sumN xs k + nth xs k = sumN ys k + nth ys k
    rw [sumN_congr k (fun j hj => h j (by omega)), h k (by omega)]
theorem sumN_out {xs : List Int} : ∀ k, xs.length ≤ k → sumN xs k = sumN xs xs.length
  | 0, h => by rw [show xs.length = 0 by omega]
  | k + 1, h => by
    by_cases e : xs.length = k + 1
    · rw [e]
    · show sumN xs k + nth xs k = _
      rw [nth_out (by omega), sumN_out k (by omega)]; omega
theorem sumN_pad {xs : List Int} (h : xs.length ≤ 16) : sumN (padN 16 xs) 16 = sumN xs xs.length := by
  rw [sumN_congr (ys := xs) 16 (fun j _ => padN_nth 16 xs j), sumN_out 16 h]
set_option maxRecDepth 100000 in
set_option maxHeartbeats 800000 in
/-- The rows of an array added up. -/
theorem rowsSize_any (l : List Int) (w : World) (hb : ∀ k, k ≤ 16 → -1000000 ≤ sumN l k ∧ sumN l k ≤ 1000000) :
    Calls Try.prog 145 #[arr16 l] w fun e w' => e = .returned (.int .i64 (sumN l 16)) ∧ Below w.heap.size w w' := by
  obtain ⟨w0, hw0⟩ : ∃ w0, w0 = w.alloc (.cells (arrD l) 82) := ⟨_, rfl⟩
  obtain ⟨g, hg⟩ : ∃ g, g = w.heap.size := ⟨_, rfl⟩
  have HB0 : Hid (Below w.heap.size w w0) := Lib.hid (by rw [hw0]; exact Below.alloc_self _ _)
  have HK0 : Hid (Blk w0 g 82 (arrD l)) := Lib.hid (by rw [hw0, hg]; exact Blk.new _ _ _)
  have HBD := Lib.hid hb
  clear hb
  go_enter Try.func145, Try.ntmps145
  go_upto_region 1 with fail
  rw [← hw0, ← hg]
  clear hw0 hg
  go_wp2_with (first
    | (refine wpList_load_blk rfl 82 (.tmp 1) rfl g rfl 82 (arrD l) 16 3 HK0.out Try.undRows Try.infoRows ?_)
    | fail)
  have hix : ∀ (k : Nat), k < 16 → ∀ (wx : World), (Instr.index 82 (.agg (arrD l)) (.int .i64 k)).run Try.prog wx = .ok (.int .i64 (nth l k)) wx := fun (k : Nat) (h : k < 16) (wx : World) => idx16 l k h wx
  generalize arr16 l = va
  generalize Value.agg (arrD l) = vb at hix ⊢
  have HIX := Lib.hid hix
  clear hix
  go_loopw [3, 7] (fun sv iv wr => ∃ k : Nat, k ≤ 16 ∧ iv = .int .i64 k ∧ sv = .int .i64 (sumN l k) ∧ Drawn w0 wr)
    (fun _ iv _ => 16 - (intOf iv).toNat)
  case atStart => exact ⟨0, Nat.zero_le _, rfl, rfl, Drawn.refl _⟩
  case round =>
    obtain ⟨k, hk, rfl, rfl, hD⟩ := hrel
    have HD := Lib.hid hD
    clear hD
    by_cases hlt : k < 16
    · have hkI : (k : Int) < 16 := by omega
      have hix := fun wx => HIX.out k hlt wx
      have h1 := HBD.out k hk
      have h2 := HBD.out (k + 1) (by omega)
      have e : sumN l (k + 1) = sumN l k + nth l k := rfl
      rw [e] at h2
      obtain ⟨x, hx⟩ : ∃ x, x = nth l k := ⟨_, rfl⟩
      obtain ⟨s, hs⟩ : ∃ s, s = sumN l k := ⟨_, rfl⟩
      rw [← hx, ← hs] at h2 e
      rw [← hx] at hix
      rw [← hs] at h1 ⊢
      have hw1 : IntKind.i64.wrap (s + x) = s + x := IntWalk.i64_in _ (by omega)
      have HE := Lib.hid e
      clear hx hs h1 h2 e
      go_wp2
      go_roundw
      case rel => exact ⟨k + 1, by omega, by go_num, by rw [HE.out], HD.out⟩
      case measure => simp [intOf]; omega
    · obtain rfl : k = 16 := by omega
      go_wp2
      go_ret
      exact ⟨rfl, HB0.out.trans ((HD.out.below _).mono HB0.out.size)⟩
/-- What is asked of each shape. -/
theorem shp_fact {r d : Nat} (h : r + d ≤ 7) {l : List Int} (hl : l ∈ shapesU r d) : l.length ≤ 7 ∧ (∀ k, k ≤ l.length → 0 ≤ sumN l k ∧ sumN l k ≤ 49) ∧ sumN l l.length ≤ ((r * d : Nat) : Int) := by
  have h0 : ((List.range 8).all fun r => (List.range (8 - r)).all fun d => (shapesU r d).all fun l => decide (l.length ≤ 7) && ((List.range (l.length + 1)).all fun k => decide (0 ≤ sumN l k ∧ sumN l k ≤ 49)) && decide (sumN l l.length ≤ ((r * d : Nat) : Int))) = true := by decide +kernel
  rw [List.all_eq_true] at h0
  have h1 := h0 r (List.mem_range.2 (by omega))
  rw [List.all_eq_true] at h1
  have h2 := h1 d (List.mem_range.2 (by omega))
  rw [List.all_eq_true] at h2
  have h3 := h2 l hl
  simp only [Bool.and_eq_true, decide_eq_true_eq, List.all_eq_true, List.mem_range] at h3
  exact ⟨h3.1.1, fun k hk => h3.1.2 k (by omega), h3.2⟩
/-- The counts when i shapes are taken. -/
def szN (l : List Int) : Nat := (sumN l l.length).toNat
def gauL (L : List (List Int)) (N : Nat) : Nat → List Int
  | 0 => List.replicate N 0
  | i + 1 => (gauL L N i).set (szN (li L i)) (nth (gauL L N i) (szN (li L i)) + 1)
theorem gauL_len (L : List (List Int)) (N : Nat) : ∀ i, (gauL L N i).length = N
  | 0 => by simp [gauL]
  | i + 1 => by simp [gauL, gauL_len L N i]
theorem gauL_bound (L : List (List Int)) (N : Nat) : ∀ i j, 0 ≤ nth (gauL L N i) j ∧ nth (gauL L N i) j ≤ (i : Int)
  | 0, j => by
    by_cases h : j < N
    · rw [show gauL L N 0 = List.replicate N 0 from rfl, nth_get (by simpa using h)]; simp
    · rw [nth_out (by rw [gauL_len]; omega)]; simp
  | i + 1, j => by
    have h1 := gauL_bound L N i j
    have h2 := gauL_bound L N i (szN (li L i))
    by_cases h : szN (li L i) < N
    · show 0 ≤ nth ((gauL L N i).set _ _) j ∧ nth ((gauL L N i).set _ _) j ≤ _
      rw [nth_set _ (by rw [gauL_len]; exact h)]
      split <;> omega
    · have e : gauL L N (i + 1) = gauL L N i := by
        show (gauL L N i).set _ _ = _
        rw [List.set_eq_of_length_le (by rw [gauL_len]; omega)]
      rw [e]; omega
/-- What GaussCounts answers. -/
def gauN (k m : Int) : List Int := if boxB [] k m = true then gauL (shapesU k.toNat (m - k).toNat) (k.toNat * (m - k).toNat + 1) (shapesU k.toNat (m - k).toNat).length else []
theorem gau_no {k m : Int} (h : boxB [] k m = false) : gauN k m = [] := by unfold gauN; rw [if_neg (by rw [h]; decide)]
theorem gau_yes {k d : Nat} {m : Int} (h : boxB [] (k : Int) m = true) (hd : m - (k : Int) = (d : Int)) : gauN (k : Int) m = gauL (shapesU k d) (k * d + 1) (shapesU k d).length := by unfold gauN; rw [if_pos h, hd, Int.toNat_natCast, Int.toNat_natCast]
theorem gau_small (k m : Int) : (gauN k m).length ≤ 1099511627775 := by
  unfold gauN
  split
  · rename_i h
    have hp := boxB_P h
    have h1 := hp.2.1; have h2 := hp.2.2.2.1; have h3 := hp.2.2.1
    rw [gauL_len]
    have := Nat.mul_le_mul (show k.toNat ≤ 7 by omega) (show (m - k).toNat ≤ 7 by omega)
    omega
  · simp
set_option maxRecDepth 100000 in
set_option maxHeartbeats 1600000 in
theorem implGauss_any (k m : Int) (w : World) :
    Calls Try.prog 79 #[.int .i64 k, .int .i64 m] w fun e w' => Fresh w w' e (gauN k m) := by
  have HI := Lib.hid (fun w' => isBox_any k m w')
  rw [← box_empty] at HI
  cases hu : boxB [] k m with
  | false =>
    rw [hu] at HI
    have HE := Lib.hid (gau_no hu)
    clear hu
    go_enter Try.func79, Try.ntmps79
    go_wp2_with (go_at_call 99; refine (HI.out _).mono ?_; rintro e w2 ⟨rfl, rfl⟩)
    go_ret
    rw [HE.out]
    exact Fresh.nil_ret' (Below.refl _ _)
  | true =>
    rw [hu] at HI
    have hp := boxB_P hu
    have hm7 := hp.2.1
    have hkm := hp.2.2.2.1
    obtain ⟨k', rfl⟩ : ∃ k' : Nat, k = k' := ⟨k.toNat, by have := hp.2.2.1; omega⟩
    obtain ⟨k, hk0⟩ : ∃ k : Nat, k = k' := ⟨_, rfl⟩
    subst hk0
    obtain ⟨d, hd⟩ : ∃ d : Nat, m - (k : Int) = (d : Int) := ⟨(m - (k : Int)).toNat, by omega⟩
    have HE := Lib.hid (gau_yes hu hd)
    have hk7 : k ≤ 7 := by omega
    have hd7 : d ≤ 7 := by omega
    obtain ⟨p, hpd⟩ : ∃ p : Nat, p = k * d := ⟨_, rfl⟩
    have hp49 : p ≤ 49 := by rw [hpd]; exact Nat.mul_le_mul hk7 hd7
    have hw1 : IntKind.i64.wrap (m - (k : Int)) = (d : Int) := by rw [hd]; exact IntWalk.i64_in _ (by omega)
    have hw2 : IntKind.i64.wrap ((k : Int) * (d : Int)) = (p : Int) := by rw [hpd, Int.natCast_mul]; exact IntWalk.i64_in _ (by have e := Int.natCast_mul k d; rw [← hpd] at e; omega)
    obtain ⟨N, hN⟩ : ∃ N : Nat, N = p + 1 := ⟨_, rfl⟩
    have hw3 : IntKind.i64.wrap ((p : Int) + 1) = (N : Int) := by rw [show (p : Int) + 1 = (N : Int) by omega]; exact IntWalk.i64_in _ (by omega)
    have HSA := Lib.hid (fun w' => shapesNil_any k d w' hk7 hd7)
    have HFA := Lib.hid (fun (l : List Int) (hl : l ∈ shapesU k d) => shp_fact (by omega : k + d ≤ 7) hl)
    rw [← hpd] at HE HFA
    rw [← hN] at HE
    have hcnt := shapesU_few hk7 hd7
    generalize shapesU k d = L at HSA HFA HE hcnt
    have hN50 : N ≤ 50 := by omega
    have HN := Lib.hid hN
    clear hu hp hd hpd hN
    go_enter Try.func79, Try.ntmps79
    go_wp2_with (first
      | (go_at_call 99; refine (HI.out _).mono ?_; rintro e w2 ⟨rfl, rfl⟩)
      | (at_make; refine wpList_make_zero rfl (.tmp 17) (.tmp 17) rfl N rfl rfl (by omega) ?_; intro x1 hr1 hx1; have HR1 := Lib.hid hr1; have HX1 := Lib.hid hx1; clear hr1 hx1)
      | (go_at_call 144; refine (HSA.out _).mono ?_; rintro e w3 ⟨A3, n3, c3, rfl, ho3, hb3⟩
         have HL3 := Lib.hid ho3
         have HB3 : Hid (Below w.heap.size w w3) := Lib.hid (HX1.out.trans (hb3.mono HX1.out.size))
         have HO3 : Hid (Own w3 w.heap.size x1.heap.size (some ⟨w.heap.size, 0, none⟩) N N (gauL L N 0)) := Lib.hid (HR1.out.below hb3 (Nat.le_refl _))
         have HZ3 : Hid (x1.heap.size ≤ w3.heap.size) := Lib.hid hb3.size
         have hn3 : n3 ≤ 3432 := by have := ho3.len; omega
         have HNL : Hid (L.length = n3) := Lib.hid ho3.len
         clear ho3 hb3))
    obtain ⟨g, hg⟩ : ∃ g, g = w.heap.size := ⟨_, rfl⟩
    have hgx : g < x1.heap.size := by rw [hg]; exact (HR1.out.lt w.heap.size rfl).2
    rw [← hg] at HO3 ⊢
    have HG := Lib.hid hg
    clear hg hcnt
    go_loopw [25] (fun iv wr => ∃ i : Nat, i ≤ n3 ∧ iv = .int .i64 i ∧ Own wr g x1.heap.size (some ⟨g, 0, none⟩) N N (gauL L N i) ∧ OwnL wr x1.heap.size w3.heap.size A3 n3 c3 L ∧ Below g w wr ∧ w3.heap.size ≤ wr.heap.size)
      (fun iv _ => n3 - (intOf iv).toNat)
    case atStart => exact ⟨0, Nat.zero_le _, rfl, HO3.out, HL3.out, by rw [HG.out]; exact HB3.out, Nat.le_refl _⟩
    case round =>
      obtain ⟨i, hi, rfl, ho, hl, hb, hz⟩ := hrel
      clear HO3 HL3 HB3
      have HO := Lib.hid ho
      have HL := Lib.hid hl
      have HB := Lib.hid hb
      have HZ := Lib.hid hz
      clear ho hl hb hz
      by_cases hlt : i < n3
      · have hlI : (i : Int) < (n3 : Int) := by omega
        obtain ⟨b, o, A', n', c', rfl, hbb, hcell, hsi, hnc, hnil⟩ := HL.out.si.at_ hlt
        have hF := HFA.out (li L i) (by rw [li_get (by rw [HNL.out]; exact hlt)]; exact List.getElem_mem _)
        obtain ⟨j, hj⟩ : ∃ j : Nat, sumN (li L i) (li L i).length = (j : Int) := ⟨(sumN (li L i) (li L i).length).toNat, by have := hF.2.1 _ (Nat.le_refl _); omega⟩
        have hjs : szN (li L i) = j := by unfold szN; rw [hj, Int.toNat_natCast]
        have hjN : j < N := by have := hF.2.2; rw [hj] at this; have := HN.out; omega
        have hjI : (j : Int) < (N : Int) := by omega
        have hn' : n' ≤ 16 := by have := hsi.1; have := hF.1; omega
        have hRL := rowLengthsOf_any A' n' c' (li L i) wr hsi hn'
        have hpad := sumN_pad (xs := li L i) (by have := hF.1; omega)
        have hSZ := fun w' => rowsSize_any (padN 16 (li L i)) w' (fun q hq => by
          rw [sumN_congr (ys := li L i) q (fun j _ => padN_nth 16 (li L i) j)]
          by_cases hql : q ≤ (li L i).length
          · have := hF.2.1 q hql; omega
          · rw [sumN_out q (by omega)]; have := hF.2.1 _ (Nat.le_refl (li L i).length); omega)
        rw [hpad, hj] at hSZ
        have hG1 : gauL L N (i + 1) = (gauL L N i).set j (nth (gauL L N i) j + 1) := by show (gauL L N i).set _ _ = _; rw [hjs]
        have hgb := gauL_bound L N i j
        obtain ⟨y, hy⟩ : ∃ y, y = nth (gauL L N i) j := ⟨_, rfl⟩
        rw [← hy] at hG1 hgb
        obtain ⟨hy0, hy1⟩ := hgb
        have hwy : IntKind.i64.wrap (y + 1) = y + 1 := IntWalk.i64_in _ (by omega)
        have HRL := Lib.hid hRL
        have HSZ := Lib.hid hSZ
        have HG1 := Lib.hid hG1
        have HY := Lib.hid hy
        clear hF hj hjs hRL hpad hSZ hG1 hy hsi hnil hnc
        generalize padN 16 (li L i) = lp at HRL HSZ
        go_wp2_with (first
          | (go_at_call 68; refine HRL.out.mono ?_; rintro e w4 ⟨rfl, hb4⟩; have HB4 := Lib.hid hb4; clear hb4)
          | (go_at_call 145; refine (HSZ.out w4).mono ?_; rintro e w5 ⟨rfl, hb5⟩
             have HB5 : Hid (Below wr.heap.size wr w5) := Lib.hid (HB4.out.trans (hb5.mono HB4.out.size))
             have HO5 := Lib.hid (HO.out.below HB5.out (Nat.le_trans HZ3.out HZ.out))
             have hc5 : w5.cell? ⟨g, j, none⟩ = some (.int .i64 y) := by rw [HY.out]; exact HO5.out.cellAt hjN
             have hf5 := HO5.out.frozenAt j
             have HS5 := Lib.hid (HO5.out.set_ (k := j) (y + 1))
             clear hb5))
        have HW5 := Lib.hid (Within.of_grown HS5.out.2 (lo := g) (hi := x1.heap.size) (fun q e => by injection e with e; subst e; exact ⟨Nat.le_refl _, hgx⟩))
        go_roundw
        case rel => exact ⟨i + 1, by omega, by go_num, by rw [HG1.out]; exact HS5.out.1, (HL.out.below HB5.out HZ.out).within HW5.out (.inr (Nat.le_refl _)), (HB.out.trans (HB5.out.mono (by have := HB.out.size; have := HG.out; omega))).grown HS5.out.2 (by have := HB5.out.size; have := HB.out.size; have := HG.out; omega) (by rintro q ⟨⟩; exact Nat.le_refl _), by have := HS5.out.2.size; have := HB5.out.size; have := HZ.out; omega⟩
        case measure => simp [intOf]; omega
      · obtain rfl : i = n3 := by omega
        go_wp2
        go_ret
        rw [HE.out, HNL.out]
        exact ⟨_, N, N, rfl, HO.out.wide (by have := HG.out; omega) (by have := HZ3.out; have := HZ.out; omega), by rw [← HG.out]; exact HB.out⟩
set_option maxRecDepth 100000 in
set_option maxHeartbeats 1600000 in
theorem specGauss_any (k m : Int) (w : World) :
    Calls Try.prog 77 #[.int .i64 k, .int .i64 m] w fun e w' => Fresh w w' e (gauN k m) := by
  cases hu : boxB [] k m with
  | false =>
    have HE := Lib.hid (gau_no hu)
    rw [box_empty] at hu
    have hu := of_decide_eq_false hu
    by_cases h1 : 1 ≤ m ∧ m ≤ 7
    · have H1 := Lib.hid (fun w => l1In_yes' h1.1 h1.2 w)
      have H2 := Lib.hid (fun w => l1In_no' (a := k) (lo := 0) (hi := m) (by omega) w)
      clear hu h1
      go_enter Try.func77, Try.ntmps77
      go_wp2_with (go_at_call 82; first | ((with_reducible refine (H1.out _).mono ?_); rintro e w1 ⟨rfl, rfl⟩) | ((with_reducible refine (H2.out _).mono ?_); rintro e w1 ⟨rfl, rfl⟩))
      go_ret
      rw [HE.out]
      exact Fresh.nil_ret' (Below.refl _ _)
    · have H1 := Lib.hid (fun w => l1In_no' (a := m) (lo := 1) (hi := 7) (by omega) w)
      clear hu h1
      go_enter Try.func77, Try.ntmps77
      go_wp2_with (go_at_call 82; refine (H1.out _).mono ?_; rintro e w1 ⟨rfl, rfl⟩)
      go_ret
      rw [HE.out]
      exact Fresh.nil_ret' (Below.refl _ _)
  | true =>
    have hp := boxB_P hu
    have H1 := Lib.hid (fun w => l1In_yes' hp.1 hp.2.1 w)
    have H2 := Lib.hid (fun w => l1In_yes' hp.2.2.1 hp.2.2.2.1 w)
    have hm7 := hp.2.1
    have hkm := hp.2.2.2.1
    obtain ⟨k', rfl⟩ : ∃ k' : Nat, k = k' := ⟨k.toNat, by have := hp.2.2.1; omega⟩
    obtain ⟨k, hk0⟩ : ∃ k : Nat, k = k' := ⟨_, rfl⟩
    subst hk0
    obtain ⟨d, hd⟩ : ∃ d : Nat, m - (k : Int) = (d : Int) := ⟨(m - (k : Int)).toNat, by omega⟩
    have HE := Lib.hid (gau_yes hu hd)
    have hk7 : k ≤ 7 := by omega
    have hd7 : d ≤ 7 := by omega
    obtain ⟨p, hpd⟩ : ∃ p : Nat, p = k * d := ⟨_, rfl⟩
    have hp49 : p ≤ 49 := by rw [hpd]; exact Nat.mul_le_mul hk7 hd7
    have hw1 : IntKind.i64.wrap (m - (k : Int)) = (d : Int) := by rw [hd]; exact IntWalk.i64_in _ (by omega)
    have hw2 : IntKind.i64.wrap ((k : Int) * (d : Int)) = (p : Int) := by rw [hpd, Int.natCast_mul]; exact IntWalk.i64_in _ (by have e := Int.natCast_mul k d; rw [← hpd] at e; omega)
    obtain ⟨N, hN⟩ : ∃ N : Nat, N = p + 1 := ⟨_, rfl⟩
    have hw3 : IntKind.i64.wrap ((p : Int) + 1) = (N : Int) := by rw [show (p : Int) + 1 = (N : Int) by omega]; exact IntWalk.i64_in _ (by omega)
    have HSA := Lib.hid (fun w' => l4ShapesNew_any k d w' hk7 hd7)
    have HFA := Lib.hid (fun (l : List Int) (hl : l ∈ shapesU k d) => shp_fact (by omega : k + d ≤ 7) hl)
    rw [← hpd] at HE HFA
    rw [← hN] at HE
    have hcnt := shapesU_few hk7 hd7
    generalize shapesU k d = L at HSA HFA HE hcnt
    have hN50 : N ≤ 50 := by omega
    have HN := Lib.hid hN
    clear hu hp hd hpd hN
    go_enter Try.func77, Try.ntmps77
    go_wp2_with (first
      | (go_at_call 82; first | ((with_reducible refine (H1.out _).mono ?_); rintro e w1 ⟨rfl, rfl⟩) | ((with_reducible refine (H2.out _).mono ?_); rintro e w1 ⟨rfl, rfl⟩))
      | (at_make; refine wpList_make_zero rfl (.tmp 22) (.tmp 22) rfl N rfl rfl (by omega) ?_; intro x1 hr1 hx1; have HR1 := Lib.hid hr1; have HX1 := Lib.hid hx1; clear hr1 hx1)
      | (go_at_call 142; refine (HSA.out x1).mono ?_; rintro e w3 ⟨A3, n3, c3, rfl, ho3, hb3⟩
         have HL3 := Lib.hid ho3
         have HB3 : Hid (Below w.heap.size w w3) := Lib.hid (HX1.out.trans (hb3.mono HX1.out.size))
         have HO3 : Hid (Own w3 w.heap.size x1.heap.size (some ⟨w.heap.size, 0, none⟩) N N (gauL L N 0)) := Lib.hid (HR1.out.below hb3 (Nat.le_refl _))
         have HZ3 : Hid (x1.heap.size ≤ w3.heap.size) := Lib.hid hb3.size
         have hn3 : n3 ≤ 3432 := by have := ho3.len; omega
         have HNL : Hid (L.length = n3) := Lib.hid ho3.len
         clear ho3 hb3))
    obtain ⟨g, hg⟩ : ∃ g, g = w.heap.size := ⟨_, rfl⟩
    have hgx : g < x1.heap.size := by rw [hg]; exact (HR1.out.lt w.heap.size rfl).2
    rw [← hg] at HO3 ⊢
    have HG := Lib.hid hg
    clear hg hcnt
    go_loopw [7] (fun iv wr => ∃ i : Nat, i ≤ n3 ∧ iv = .int .i64 i ∧ Own wr g x1.heap.size (some ⟨g, 0, none⟩) N N (gauL L N i) ∧ OwnL wr x1.heap.size w3.heap.size A3 n3 c3 L ∧ Below g w wr ∧ w3.heap.size ≤ wr.heap.size)
      (fun iv _ => n3 - (intOf iv).toNat)
    case atStart => exact ⟨0, Nat.zero_le _, rfl, HO3.out, HL3.out, by rw [HG.out]; exact HB3.out, Nat.le_refl _⟩
    case round =>
      obtain ⟨i, hi, rfl, ho, hl, hb, hz⟩ := hrel
      clear HO3 HL3 HB3
      have HO := Lib.hid ho
      have HL := Lib.hid hl
      have HB := Lib.hid hb
      have HZ := Lib.hid hz
      clear ho hl hb hz
      by_cases hlt : i < n3
      · have hlI : (i : Int) < (n3 : Int) := by omega
        obtain ⟨b, o, A', n', c', rfl, hbb, hcell, hsi, hnc, hnil⟩ := HL.out.si.at_ hlt
        have hF := HFA.out (li L i) (by rw [li_get (by rw [HNL.out]; exact hlt)]; exact List.getElem_mem _)
        obtain ⟨j, hj⟩ : ∃ j : Nat, sumN (li L i) (li L i).length = (j : Int) := ⟨(sumN (li L i) (li L i).length).toNat, by have := hF.2.1 _ (Nat.le_refl _); omega⟩
        have hjs : szN (li L i) = j := by unfold szN; rw [hj, Int.toNat_natCast]
        have hjN : j < N := by have := hF.2.2; rw [hj] at this; have := HN.out; omega
        have hjI : (j : Int) < (N : Int) := by omega
        have hSU := l1Sum_any A' n' c' (li L i) wr hsi (by have := hsi.1; have := hF.1; omega) (fun q hq => by have := hF.2.1 q (by have := hsi.1; omega); omega)
        rw [← hsi.1, hj] at hSU
        rw [hsi.1] at hSU
        have hG1 : gauL L N (i + 1) = (gauL L N i).set j (nth (gauL L N i) j + 1) := by show (gauL L N i).set _ _ = _; rw [hjs]
        have hgb := gauL_bound L N i j
        obtain ⟨y, hy⟩ : ∃ y, y = nth (gauL L N i) j := ⟨_, rfl⟩
        rw [← hy] at hG1 hgb
        obtain ⟨hy0, hy1⟩ := hgb
        have hwy : IntKind.i64.wrap (y + 1) = y + 1 := IntWalk.i64_in _ (by omega)
        have HSU := Lib.hid hSU
        have HG1 := Lib.hid hG1
        have HY := Lib.hid hy
        clear hF hj hjs hSU hG1 hy hsi hnil hnc
        go_wp2_with (first
          | (go_at_call 143; refine HSU.out.mono ?_; rintro e w5 ⟨rfl, hd5⟩
             have HB5 : Hid (Below wr.heap.size wr w5) := Lib.hid (hd5.below _)
             have HO5 := Lib.hid (HO.out.below HB5.out (Nat.le_trans HZ3.out HZ.out))
             have hc5 : w5.cell? ⟨g, j, none⟩ = some (.int .i64 y) := by rw [HY.out]; exact HO5.out.cellAt hjN
             have hf5 := HO5.out.frozenAt j
             have HS5 := Lib.hid (HO5.out.set_ (k := j) (y + 1))
             clear hd5))
        have HW5 := Lib.hid (Within.of_grown HS5.out.2 (lo := g) (hi := x1.heap.size) (fun q e => by injection e with e; subst e; exact ⟨Nat.le_refl _, hgx⟩))
        go_roundw
        case rel => exact ⟨i + 1, by omega, by go_num, by rw [HG1.out]; exact HS5.out.1, (HL.out.below HB5.out HZ.out).within HW5.out (.inr (Nat.le_refl _)), (HB.out.trans (HB5.out.mono (by have := HB.out.size; have := HG.out; omega))).grown HS5.out.2 (by have := HB5.out.size; have := HB.out.size; have := HG.out; omega) (by rintro q ⟨⟩; exact Nat.le_refl _), by have := HS5.out.2.size; have := HB5.out.size; have := HZ.out; omega⟩
        case measure => simp [intOf]; omega
      · obtain rfl : i = n3 := by omega
        go_wp2
        go_ret
        rw [HE.out, HNL.out]
        exact ⟨_, N, N, rfl, HO.out.wide (by have := HG.out; omega) (by have := HZ3.out; have := HZ.out; omega), by rw [← HG.out]; exact HB.out⟩
end Go.Proofs.Ytfaegfhbbkicgaa

/-
  Puzzles: the model of both sides. No conditions.
-/

namespace Go.Proofs.Ytfaegfhbbkicgaa
open Go.RowKit

/-- The number of small triangles above a row. -/
def tri : Nat → Nat
  | 0 => 0
  | r + 1 => tri r + (r + 1)
theorem tri_succ (r : Nat) : tri (r + 1) = tri r + (r + 1) := rfl
theorem tri_le : ∀ {a b : Nat}, a ≤ b → tri a ≤ tri b
  | a, 0, h => by obtain rfl : a = 0 := by omega
                  exact Nat.le_refl _
  | a, b + 1, h => by
    by_cases e : a = b + 1
    · subst e; exact Nat.le_refl _
    · have := tri_le (a := a) (b := b) (by omega)
      rw [tri_succ]; omega
theorem tri_lt {a b k : Nat} (h : a < b) (hk : k ≤ a) : tri a + k < tri b := by
  have := tri_le (a := a + 1) (b := b) h
  rw [tri_succ] at this
  omega
theorem tri_small {r : Nat} (h : r ≤ 8) : tri r ≤ 36 := by
  have := tri_le (a := r) (b := 8) h
  have e : tri 8 = 36 := rfl
  omega
abbrev Tr := Int × Int × Int
/-- The right triples, in ascending order. -/
def rightL (wt : Bool) : List Tr := if wt then [(0, 0, 0), (0, 1, 2), (1, 0, 3), (1, 1, 1), (1, 2, 0), (2, 0, 1)] else [(0, 0, 0), (0, 1, 2), (1, 1, 1), (1, 2, 0), (2, 0, 1)]
/-- The small triangle k of a row, and the one on its tip ahead of it. -/
def triA (x1 x2 x3 : List Int) (r k : Nat) : Tr := (nth x1 (tri r + k), nth x2 (tri r + k), nth x3 (tri r + k))
def tipA (x1 x2 x3 : List Int) (r k : Nat) : Tr := (nth x1 (tri r + k), nth x2 (tri r + k - 1), nth x3 (tri (r - 1) + (k - 1)))
/-- The lists have the right lengths. -/
def lensP (s : Int) (x1 x2 x3 : List Int) : Prop := 1 ≤ s ∧ s ≤ 7 ∧ x1.length = tri s.toNat ∧ x2.length = tri s.toNat ∧ x3.length = tri s.toNat
def lensB (s : Int) (x1 x2 x3 : List Int) : Bool := decide (1 ≤ s) && decide (s ≤ 7) && decide (x1.length = tri s.toNat) && decide (x2.length = tri s.toNat) && decide (x3.length = tri s.toNat)
theorem lensB_iff (s : Int) (x1 x2 x3 : List Int) : lensB s x1 x2 x3 = true ↔ lensP s x1 x2 x3 := by simp [lensB, lensP, and_assoc]
/-- The sides of the whole triangle have no label but 0 and 1 in row r. -/
def sideP (m : Nat) (x1 x2 x3 : List Int) (r : Nat) : Prop :=
  (0 ≤ nth x1 (tri r) ∧ nth x1 (tri r) ≤ 1) ∧ (0 ≤ nth x2 (tri r + r) ∧ nth x2 (tri r + r) ≤ 1) ∧ (0 ≤ nth x3 (tri (m - 1) + r) ∧ nth x3 (tri (m - 1) + r) ≤ 1)
/-- Is it a puzzle (a weighted one). -/
def pzP (wt : Bool) (s : Int) (x1 x2 x3 : List Int) : Prop :=
  lensP s x1 x2 x3 ∧ (∀ r, r < s.toNat → ∀ k, k ≤ r → triA x1 x2 x3 r k ∈ rightL wt ∧ (0 < k → tipA x1 x2 x3 r k ∈ rightL wt)) ∧ ∀ r, r < s.toNat → sideP s.toNat x1 x2 x3 r
instance (m : Nat) (x1 x2 x3 : List Int) (r : Nat) : Decidable (sideP m x1 x2 x3 r) := by unfold sideP; infer_instance
def pzB (wt : Bool) (s : Int) (x1 x2 x3 : List Int) : Bool :=
  lensB s x1 x2 x3 && ((List.range s.toNat).all fun r => (List.range (r + 1)).all fun k => decide (triA x1 x2 x3 r k ∈ rightL wt) && (decide (k = 0) || decide (tipA x1 x2 x3 r k ∈ rightL wt))) && (List.range s.toNat).all fun r => decide (sideP s.toNat x1 x2 x3 r)
theorem pzB_iff (wt : Bool) (s : Int) (x1 x2 x3 : List Int) : pzB wt s x1 x2 x3 = true ↔ pzP wt s x1 x2 x3 := by
  unfold pzB pzP
  rw [Bool.and_eq_true, Bool.and_eq_true, lensB_iff, and_assoc]
  refine and_congr_right fun _ => and_congr ?_ (by simp)
  simp only [List.all_eq_true, List.mem_range, Bool.and_eq_true, Bool.or_eq_true, decide_eq_true_eq]
  constructor
  · intro h r hr k hk
    obtain ⟨h1, h2⟩ := h r hr k (by omega)
    exact ⟨h1, fun hk0 => h2.resolve_left (by omega)⟩
  · intro h r hr k hk
    obtain ⟨h1, h2⟩ := h r hr k (by omega)
    refine ⟨h1, ?_⟩
    by_cases e : k = 0
    · exact .inl e
    · exact .inr (h2 (by omega))
theorem pzB_true {wt : Bool} {s : Int} {x1 x2 x3 : List Int} (h : pzP wt s x1 x2 x3) : pzB wt s x1 x2 x3 = true := (pzB_iff _ _ _ _ _).2 h
theorem pzB_false {wt : Bool} {s : Int} {x1 x2 x3 : List Int} (h : ¬ pzP wt s x1 x2 x3) : pzB wt s x1 x2 x3 = false := by
  cases hb : pzB wt s x1 x2 x3 with
  | false => rfl
  | true => exact absurd ((pzB_iff _ _ _ _ _).1 hb) h
/-- The label below two others, and that at the right side of a small triangle on its tip. -/
def upF (l r : Int) (wt : Bool) : Int :=
  if l = r ∧ l ≤ 1 then l else if l = 0 ∧ r = 1 then 2 else if l = 1 ∧ r = 2 then 0 else if l = 2 ∧ r = 0 then 1 else if l = 1 ∧ r = 0 ∧ wt = true then 3 else -1
def dnF (l t : Int) : Int :=
  if l = t ∧ l ≤ 1 then l else if l = 1 ∧ t = 2 then 0 else if l = 2 ∧ t = 0 then 1 else if l = 0 ∧ t = 1 then 2 else if l = 0 ∧ t = 3 then 1 else -1
theorem right_mem {wt : Bool} {l r b : Int} : (l, r, b) ∈ rightL wt ↔ (l = 0 ∧ r = 0 ∧ b = 0 ∨ l = 0 ∧ r = 1 ∧ b = 2 ∨ (wt = true ∧ l = 1 ∧ r = 0 ∧ b = 3) ∨ l = 1 ∧ r = 1 ∧ b = 1 ∨ l = 1 ∧ r = 2 ∧ b = 0 ∨ l = 2 ∧ r = 0 ∧ b = 1) := by
  cases wt <;> simp [rightL]
theorem mem_right {wt : Bool} {l r b : Int} (h : (l, r, b) ∈ rightL wt) : (0 ≤ l ∧ l ≤ 2) ∧ (0 ≤ r ∧ r ≤ 2) ∧ (0 ≤ b ∧ b ≤ 3) ∧ upF l r wt = b := by
  rcases right_mem.1 h with ⟨rfl, rfl, rfl⟩ | ⟨rfl, rfl, rfl⟩ | ⟨rfl, rfl, rfl, rfl⟩ | ⟨rfl, rfl, rfl⟩ | ⟨rfl, rfl, rfl⟩ | ⟨rfl, rfl, rfl⟩ <;> simp [upF]
theorem up_right {wt : Bool} {l r b : Int} (hl : 0 ≤ l ∧ l ≤ 2) (hr : 0 ≤ r ∧ r ≤ 2) (hb : 0 ≤ b) (h : upF l r wt = b) : (l, r, b) ∈ rightL wt := by
  have h1 : l = 0 ∨ l = 1 ∨ l = 2 := by omega
  have h2 : r = 0 ∨ r = 1 ∨ r = 2 := by omega
  rw [right_mem]
  rcases h1 with rfl | rfl | rfl <;> rcases h2 with rfl | rfl | rfl <;> cases wt <;> simp [upF] at h <;> simp <;> omega
theorem tip_right {wt : Bool} {l r b : Int} (h : (l, r, b) ∈ rightL wt) : dnF r b = l := by
  rcases right_mem.1 h with ⟨rfl, rfl, rfl⟩ | ⟨rfl, rfl, rfl⟩ | ⟨rfl, rfl, rfl, rfl⟩ | ⟨rfl, rfl, rfl⟩ | ⟨rfl, rfl, rfl⟩ | ⟨rfl, rfl, rfl⟩ <;> simp [dnF]
theorem right_tip {wt : Bool} {l r b : Int} (hl : 0 ≤ l ∧ l ≤ 2) (hr : 0 ≤ r ∧ r ≤ 2) (hb : 0 ≤ b ∧ b ≤ 3) (hw : b = 3 → wt = true) (h : dnF r b = l) : (l, r, b) ∈ rightL wt := by
  have h1 : r = 0 ∨ r = 1 ∨ r = 2 := by omega
  have h2 : b = 0 ∨ b = 1 ∨ b = 2 ∨ b = 3 := by omega
  rw [right_mem]
  rcases h1 with rfl | rfl | rfl <;> rcases h2 with rfl | rfl | rfl | rfl <;> simp [dnF] at h <;> simp <;> first | omega | (have := hw rfl; simp_all; done) | (simp_all; done)
theorem mem_three {wt : Bool} {l r b : Int} (h : (l, r, b) ∈ rightL wt) (h3 : b = 3) : wt = true := by
  subst h3
  rcases right_mem.1 h with ⟨_, _, h⟩ | ⟨_, _, h⟩ | ⟨h, _⟩ | ⟨_, _, h⟩ | ⟨_, _, h⟩ | ⟨_, _, h⟩ <;> first | exact h | omega
/-- What the document asks at a small triangle. -/
def atP (wt : Bool) (m : Nat) (x1 x2 x3 : List Int) (r k : Nat) : Prop :=
  (0 ≤ nth x1 (tri r + k) ∧ nth x1 (tri r + k) ≤ 2) ∧ (0 ≤ nth x2 (tri r + k) ∧ nth x2 (tri r + k) ≤ 2) ∧ 0 ≤ nth x3 (tri r + k) ∧ upF (nth x1 (tri r + k)) (nth x2 (tri r + k)) wt = nth x3 (tri r + k) ∧
  (k < r → dnF (nth x2 (tri r + k)) (nth x3 (tri (r - 1) + k)) = nth x1 (tri r + (k + 1))) ∧
  (r = m - 1 → nth x3 (tri r + k) ≤ 1) ∧ (k = 0 → nth x1 (tri r + k) ≤ 1) ∧ (k = r → nth x2 (tri r + k) ≤ 1)
theorem at_of_pz {wt : Bool} {s : Int} {x1 x2 x3 : List Int} (h : pzP wt s x1 x2 x3) {r k : Nat} (hr : r < s.toNat) (hk : k ≤ r) : atP wt s.toNat x1 x2 x3 r k := by
  obtain ⟨_, ht, hs⟩ := h
  obtain ⟨h1, h2, h3, h4⟩ := mem_right (ht r hr k hk).1
  refine ⟨h1, h2, h3.1, h4, fun hkr => ?_, fun e => ?_, fun e => ?_, fun e => ?_⟩
  · have h5 := tip_right ((ht r hr (k + 1) (by omega)).2 (by omega))
    have e1 : tri r + (k + 1) - 1 = tri r + k := by omega
    have e2 : k + 1 - 1 = k := by omega
    rw [e1, e2] at h5
    exact h5
  · have h5 := (hs k (by omega)).2.2.2
    rw [e]; exact h5
  · subst e; exact (hs r hr).1.2
  · subst e; exact (hs k hr).2.1.2
theorem pz_of_at {wt : Bool} {s : Int} {x1 x2 x3 : List Int} (hl : lensP s x1 x2 x3) (h : ∀ r, r < s.toNat → ∀ k, k ≤ r → atP wt s.toNat x1 x2 x3 r k) : pzP wt s x1 x2 x3 := by
  have hT : ∀ r, r < s.toNat → ∀ k, k ≤ r → triA x1 x2 x3 r k ∈ rightL wt := fun r hr k hk => by
    obtain ⟨h1, h2, h3, h4, _⟩ := h r hr k hk
    exact up_right h1 h2 h3 h4
  refine ⟨hl, fun r hr k hk => ⟨hT r hr k hk, fun hk0 => ?_⟩, fun r hr => ⟨?_, ?_, ?_⟩⟩
  · obtain ⟨k, rfl⟩ : ∃ j, k = j + 1 := ⟨k - 1, by omega⟩
    have h5 := (h r hr k (by omega)).2.2.2.2.1 (by omega)
    have h6 := hT (r - 1) (by omega) k (by omega)
    obtain ⟨_, _, h7, _⟩ := mem_right h6
    have h8 := h r hr k (by omega)
    have h9 := h r hr (k + 1) hk
    have e1 : tri r + (k + 1) - 1 = tri r + k := by omega
    have e2 : k + 1 - 1 = k := by omega
    unfold tipA
    rw [e1, e2]
    exact right_tip h9.1 h8.2.1 h7 (fun e => mem_three h6 e) h5
  · have h1 := h r hr 0 (by omega)
    exact ⟨h1.1.1, h1.2.2.2.2.2.2.1 rfl⟩
  · have h1 := h r hr r (Nat.le_refl _)
    exact ⟨h1.2.1.1, h1.2.2.2.2.2.2.2 rfl⟩
  · have h1 := h (s.toNat - 1) (by omega) r (by omega)
    exact ⟨h1.2.2.1, h1.2.2.2.2.2.1 rfl⟩
/-- The three sides. -/
def sdA (m : Nat) (x1 : List Int) : List Int := (List.range m).map fun j => nth x1 (tri (m - 1 - j))
def sdB (m : Nat) (x2 : List Int) : List Int := (List.range m).map fun j => nth x2 (tri j + j)
def sdC (m : Nat) (x3 : List Int) : List Int := (List.range m).map fun j => nth x3 (tri (m - 1) + j)
theorem sdA_len (m : Nat) (x : List Int) : (sdA m x).length = m := by simp [sdA]
theorem sdB_len (m : Nat) (x : List Int) : (sdB m x).length = m := by simp [sdB]
theorem sdC_len (m : Nat) (x : List Int) : (sdC m x).length = m := by simp [sdC]
theorem sdA_nth {m : Nat} {x : List Int} {j : Nat} (h : j < m) : nth (sdA m x) j = nth x (tri (m - 1 - j)) := by rw [nth_get (by rw [sdA_len]; exact h)]; simp [sdA]
theorem sdB_nth {m : Nat} {x : List Int} {j : Nat} (h : j < m) : nth (sdB m x) j = nth x (tri j + j) := by rw [nth_get (by rw [sdB_len]; exact h)]; simp [sdB]
theorem sdC_nth {m : Nat} {x : List Int} {j : Nat} (h : j < m) : nth (sdC m x) j = nth x (tri (m - 1) + j) := by rw [nth_get (by rw [sdC_len]; exact h)]; simp [sdC]
theorem side_strings {s : Int} {x1 x2 x3 : List Int} (hl : lensP s x1 x2 x3) : (strP (sdA s.toNat x1) ∧ strP (sdB s.toNat x2) ∧ strP (sdC s.toNat x3)) ↔ ∀ r, r < s.toNat → sideP s.toNat x1 x2 x3 r := by
  have h1 := hl.1
  have h7 := hl.2.1
  constructor
  · rintro ⟨ha, hb, hc⟩ r hr
    have a := ha.2.2 (s.toNat - 1 - r) (by rw [sdA_len]; omega)
    have b := hb.2.2 r (by rw [sdB_len]; omega)
    have c := hc.2.2 r (by rw [sdC_len]; omega)
    rw [sdA_nth (by omega), show s.toNat - 1 - (s.toNat - 1 - r) = r by omega] at a
    rw [sdB_nth hr] at b
    rw [sdC_nth hr] at c
    exact ⟨a, b, c⟩
  · intro h
    refine ⟨⟨by rw [sdA_len]; omega, by rw [sdA_len]; omega, fun k hk => ?_⟩, ⟨by rw [sdB_len]; omega, by rw [sdB_len]; omega, fun k hk => ?_⟩, ⟨by rw [sdC_len]; omega, by rw [sdC_len]; omega, fun k hk => ?_⟩⟩
    · rw [sdA_len] at hk; rw [sdA_nth hk]; exact (h _ (by omega)).1
    · rw [sdB_len] at hk; rw [sdB_nth hk]; exact (h _ hk).2.1
    · rw [sdC_len] at hk; rw [sdC_nth hk]; exact (h _ hk).2.2
end Go.Proofs.Ytfaegfhbbkicgaa

/-
  Puzzles as values: copying, measuring, comparing, marking, holding. Conditions: lengths below 2^40.
-/



namespace Go.Proofs.Ytfaegfhbbkicgaa
open Go.RowKit

/-- Three slices of the call's own, one behind another. -/
def OwnP (w : World) (lo hi : Nat) (A1 A2 A3 : Option Addr) (n1 c1 n2 c2 n3 c3 : Nat) (x1 x2 x3 : List Int) : Prop :=
  ∃ p q, lo ≤ p ∧ p ≤ q ∧ q ≤ hi ∧ Own w lo p A1 n1 c1 x1 ∧ Own w p q A2 n2 c2 x2 ∧ Own w q hi A3 n3 c3 x3
section
variable {w w' : World} {lo hi n1 c1 n2 c2 n3 c3 : Nat} {A1 A2 A3 : Option Addr} {x1 x2 x3 : List Int}
theorem OwnP.si (h : OwnP w lo hi A1 A2 A3 n1 c1 n2 c2 n3 c3 x1 x2 x3) : SI w A1 n1 x1 ∧ SI w A2 n2 x2 ∧ SI w A3 n3 x3 := by
  obtain ⟨p, q, _, _, _, h1, h2, h3⟩ := h; exact ⟨h1.si, h2.si, h3.si⟩
theorem OwnP.lens (h : OwnP w lo hi A1 A2 A3 n1 c1 n2 c2 n3 c3 x1 x2 x3) : x1.length = n1 ∧ x2.length = n2 ∧ x3.length = n3 := by
  obtain ⟨p, q, _, _, _, h1, h2, h3⟩ := h; exact ⟨h1.len, h2.len, h3.len⟩
theorem OwnP.below {B : Nat} (h : OwnP w lo hi A1 A2 A3 n1 c1 n2 c2 n3 c3 x1 x2 x3) (hb : Below B w w') (hB : hi ≤ B) : OwnP w' lo hi A1 A2 A3 n1 c1 n2 c2 n3 c3 x1 x2 x3 := by
  obtain ⟨p, q, a, b, c, h1, h2, h3⟩ := h
  exact ⟨p, q, a, b, c, h1.below hb (by omega), h2.below hb (by omega), h3.below hb hB⟩
theorem OwnP.drawn (h : OwnP w lo hi A1 A2 A3 n1 c1 n2 c2 n3 c3 x1 x2 x3) (hd : Drawn w w') : OwnP w' lo hi A1 A2 A3 n1 c1 n2 c2 n3 c3 x1 x2 x3 := h.below (hd.below hi) (Nat.le_refl _)
theorem Own.within_ {lo hi n c lo' hi' : Nat} {A : Option Addr} {xs : List Int} (h : Own w lo hi A n c xs) (hw : Within lo' hi' w w') (hd : hi ≤ lo' ∨ hi' ≤ lo) : Own w' lo hi A n c xs := by
  refine ⟨⟨h.1.1, ?_⟩, h.2⟩
  rcases h.1.2 with hn | ⟨g, cap, cur, e, hl, hg, rest⟩
  · exact .inl hn
  · have hlt := h.2 g (by rw [e]; rfl)
    have hsz := (h.1.lt g (by rw [e]; rfl)).2
    exact .inr ⟨g, cap, cur, e, hl, (hw.2.2.2.2 g hsz (by omega)).trans hg, rest⟩
theorem OwnP.within {lo' hi' : Nat} (h : OwnP w lo hi A1 A2 A3 n1 c1 n2 c2 n3 c3 x1 x2 x3) (hw : Within lo' hi' w w') (hd : hi ≤ lo' ∨ hi' ≤ lo) : OwnP w' lo hi A1 A2 A3 n1 c1 n2 c2 n3 c3 x1 x2 x3 := by
  obtain ⟨p, q, a, b, c, h1, h2, h3⟩ := h
  exact ⟨p, q, a, b, c, h1.within_ hw (by omega), h2.within_ hw (by omega), h3.within_ hw (by omega)⟩
theorem OwnP.wide {lo' hi' : Nat} (h : OwnP w lo hi A1 A2 A3 n1 c1 n2 c2 n3 c3 x1 x2 x3) (h1 : lo' ≤ lo) (h2 : hi ≤ hi') : OwnP w lo' hi' A1 A2 A3 n1 c1 n2 c2 n3 c3 x1 x2 x3 := by
  obtain ⟨p, q, a, b, c, k1, k2, k3⟩ := h
  exact ⟨p, q, by omega, b, by omega, k1.wide h1 (Nat.le_refl _), k2, k3.wide (Nat.le_refl _) h2⟩
theorem OwnP.nil (w : World) {lo hi : Nat} (h : lo ≤ hi) : OwnP w lo hi none none none 0 0 0 0 0 0 [] [] [] := ⟨lo, lo, Nat.le_refl _, Nat.le_refl _, h, Own.nil _ _ _, Own.nil _ _ _, Own.nil _ _ _⟩
end
/-- What a call that makes a puzzle hands back. -/
def FreshP (w w' : World) (e : Ending) (s : Int) (x1 x2 x3 : List Int) : Prop :=
  ∃ A1 A2 A3 n1 c1 n2 c2 n3 c3, e = .returned (.agg #[.int .i64 s, .slice A1 n1 c1, .slice A2 n2 c2, .slice A3 n3 c3]) ∧ OwnP w' w.heap.size w'.heap.size A1 A2 A3 n1 c1 n2 c2 n3 c3 x1 x2 x3 ∧ Below w.heap.size w w'
theorem grown_setP (w : World) (a : Addr) (u : Value) : w.grownBy (w.setCell a u) (some a.block) :=
  ⟨rfl, rfl, rfl, by simp [World.setCell], fun k _ hk => Below.heap_setCell w a u k (fun e => hk (by rw [e]))⟩
theorem results_rowP {P : Program} {fn : Func} {p : Tmp} {ty : TypeId} (h : fn.results = #[.cell p ty]) (tmps : Array Value) (w : World) (g : Nat) (t : TypeId) (cs : Array Value) (d : TypeDesc)
    (hp : tmps.getD p undef = .pointer (some ⟨g, 0, none⟩)) (hg : Blk w g t cs) (hu : P.underlying ty = some d) (hd : (match d with | .struct _ | .array _ _ => true | _ => false) = true) (hi : (P.info? ty).map (·.size) = some cs.size) :
    (results fn tmps).run P w = .ok (.agg cs) w :=
  results_cell_row h tmps w g t cs (0, 0) d hp hg hu hd hi

theorem SI.old {w : World} {A : Option Addr} {n g : Nat} {xs : List Int} (h : SI w A n xs) (hg : w.heap.size ≤ g) : 0 < n → ∀ b o, A = some ⟨b, o, none⟩ → b ≠ g := fun hn b o e => by
  obtain ⟨b', o', e', hb, _⟩ := h.2 hn
  rw [e'] at e
  injection e with e
  injection e with e1 e2
  omega
theorem SI.kept_ {w w' : World} {A : Option Addr} {n g : Nat} {xs : List Int} (h : SI w A n xs) (hg : w.grownBy w' (some g)) (hr : 0 < n → ∀ b o, A = some ⟨b, o, none⟩ → b ≠ g) : SI w' A n xs :=
  ⟨h.1, fun hn => by
    obtain ⟨b, o, e, hb, hc⟩ := h.2 hn
    have hs := hg.size
    exact ⟨b, o, e, by omega, fun k hk => hg.cell (hc k hk) (fun e' => by injection e' with e'; exact hr hn b o e e')⟩⟩
/-- A whole struct read out of a block that is known, and stored into one. -/
theorem wpList_load_rowP {P : Program} {ops : Array Oper} {rest : List Oper} {o : Oper} {a : Act} {w : World} {Q : Exit → Act → World → Prop} (hgd : o.guard = none) (ty : TypeId) (x : Operand) (ho : o.op = .load ty x)
    (g : Nat) (hx : a.eval x = .pointer (some ⟨g, 0, none⟩)) (t : TypeId) (cs : Array Value) (d : TypeDesc) (hg : Blk w g t cs)
    (hu : P.underlying ty = some d) (hd : (match d with | .struct _ | .array _ _ => true | _ => false) = true) (hi : (P.info? ty).map (·.size) = some cs.size)
    (h : wpList P ops Q rest (a.put o.dst (.agg cs)) w) : wpList P ops Q (o :: rest) a w :=
  wpList_load_row hgd ty x ho g hx t cs (0, 0) d hg hu hd hi h
theorem wpList_store_rowP {P : Program} {ops : Array Oper} {rest : List Oper} {o : Oper} {a : Act} {w : World} {Q : Exit → Act → World → Prop} (hgd : o.guard = none) (ty : TypeId) (x y : Operand) (ho : o.op = .store ty x y)
    (g : Nat) (cs : Array Value) (hx : a.eval x = .pointer (some ⟨g, 0, none⟩)) (hy : a.eval y = .agg cs) (t : TypeId) (old : Array Value) (hg : Blk w g t old)
    (hi : (P.info? ty).map (·.size) = some cs.size) (hsz : old.size = cs.size) (h1 : cs.all (·.oneCell') = true)
    (hK : ∀ w', Blk w' g t cs → w.grownBy w' (some g) → wpList P ops Q rest (a.put o.dst undef) w') : wpList P ops Q (o :: rest) a w :=
  wpList_store_blk hgd ty x y ho g cs hx hy t old hg hi hsz h1 hK
theorem Within.of_below_ {lo hi : Nat} {w w' : World} (h : Below w.heap.size w w') : Within lo hi w w' := ⟨h.os, h.tape, h.output, h.size, fun k hk _ => h.block k hk⟩
/-- The cells of a puzzle in a block, told one by one. -/
theorem cells4 {w : World} {g : Nat} {t : TypeId} {a b c d : Value} (h : Blk w g t #[a, b, c, d]) : w.cell? ⟨g, 0, none⟩ = some a ∧ w.cell? ⟨g, 1, none⟩ = some b ∧ w.cell? ⟨g, 2, none⟩ = some c ∧ w.cell? ⟨g, 3, none⟩ = some d := ⟨h.cell 0, h.cell 1, h.cell 2, h.cell 3⟩
/-- The three lists marked from q on. -/
abbrev mk1 (x1 : List Int) (q : Int) : List Int := marks x1.length q
abbrev mk2 (x1 x2 : List Int) (q : Int) : List Int := marks x2.length (q + x1.length)
abbrev mk3 (x1 x2 x3 : List Int) (q : Int) : List Int := marks x3.length (q + x1.length + x2.length)
end Go.Proofs.Ytfaegfhbbkicgaa

/-
  Rows modulo a number: sums of multiples of rows, the columns at which such sums begin, rows in echelon form. No conditions but p ≥ 2 where it is said.
-/

namespace Go.Proofs.Ytfaegfhbbkicgaa

/-- Zero modulo p at the first n columns. -/
def Z0 (p : Int) (n : Nat) (v : Nat → Int) : Prop := ∀ k, k < n → p ∣ v k
/-- v is a sum of multiples of the rows, modulo p, at the first n columns. -/
def Sp (p : Int) (n : Nat) : List (Nat → Int) → (Nat → Int) → Prop
  | [], v => Z0 p n v
  | e :: R, v => ∃ a : Int, Sp p n R (fun k => v k - a * e k)
section
variable {p : Int} {n : Nat}
theorem Sp.congr : ∀ {R : List (Nat → Int)} {u v : Nat → Int}, (∀ k, k < n → p ∣ u k - v k) → Sp p n R u → Sp p n R v
  | [], u, v, h, hu => fun k hk => by
    have h1 := h k hk
    have h2 := hu k hk
    have h3 := Int.dvd_sub h2 h1
    have e : u k - (u k - v k) = v k := by omega
    rwa [e] at h3
  | e :: R, u, v, h, ⟨a, hu⟩ => ⟨a, Sp.congr (fun k hk => by
      have h1 := h k hk
      have e1 : u k - a * e k - (v k - a * e k) = u k - v k := by omega
      rwa [e1]) hu⟩
theorem Sp.of_eq {R : List (Nat → Int)} {u v : Nat → Int} (hu : Sp p n R u) (h : ∀ k, k < n → u k = v k) : Sp p n R v :=
  hu.congr fun k hk => by rw [h k hk, Int.sub_self]; exact Int.dvd_zero _
theorem Sp.zero : ∀ {R : List (Nat → Int)} {v : Nat → Int}, Z0 p n v → Sp p n R v
  | [], _, h => h
  | e :: R, v, h => ⟨0, Sp.zero (R := R) fun k hk => by
      have := h k hk
      simpa using this⟩
theorem Sp.add : ∀ {R : List (Nat → Int)} {u v : Nat → Int}, Sp p n R u → Sp p n R v → Sp p n R (fun k => u k + v k)
  | [], _, _, hu, hv => fun k hk => Int.dvd_add (hu k hk) (hv k hk)
  | e :: R, u, v, ⟨a, hu⟩, ⟨b, hv⟩ => ⟨a + b, (Sp.add hu hv).of_eq fun k _ => by
      show u k - a * e k + (v k - b * e k) = u k + v k - (a + b) * e k
      rw [Int.add_mul]; omega⟩
theorem Sp.mul (c : Int) : ∀ {R : List (Nat → Int)} {v : Nat → Int}, Sp p n R v → Sp p n R (fun k => c * v k)
  | [], _, h => fun k hk => Int.dvd_mul_of_dvd_right (h k hk)
  | e :: R, v, ⟨a, h⟩ => ⟨c * a, (Sp.mul c h).of_eq fun k _ => by
      show c * (v k - a * e k) = c * v k - c * a * e k
      rw [Int.mul_sub, Int.mul_assoc]⟩
theorem Sp.mem : ∀ {R : List (Nat → Int)} {e : Nat → Int}, e ∈ R → Sp p n R e
  | f :: R, e, h => by
    rcases List.mem_cons.1 h with rfl | h'
    · exact ⟨1, Sp.zero fun k _ => by
        show p ∣ e k - 1 * e k
        rw [Int.one_mul, Int.sub_self]; exact Int.dvd_zero _⟩
    · exact ⟨0, (Sp.mem h').of_eq fun k _ => by
        show e k = e k - 0 * f k
        rw [Int.zero_mul]; omega⟩
theorem Sp.trans {R' : List (Nat → Int)} : ∀ {R : List (Nat → Int)} {v : Nat → Int}, (∀ r, r ∈ R → Sp p n R' r) → Sp p n R v → Sp p n R' v
  | [], _, _, h => Sp.zero h
  | e :: R, v, hr, ⟨a, h⟩ => by
    have h1 := Sp.trans (fun r hr' => hr r (List.mem_cons_of_mem _ hr')) h
    have h2 := (hr e (List.mem_cons_self ..)).mul a
    exact (h1.add h2).of_eq fun k _ => by
      show v k - a * e k + a * e k = v k
      omega
theorem Sp.same {R R' : List (Nat → Int)} (h : ∀ r, r ∈ R → Sp p n R' r) (h' : ∀ r, r ∈ R' → Sp p n R r) (v : Nat → Int) : Sp p n R v ↔ Sp p n R' v :=
  ⟨Sp.trans h, Sp.trans h'⟩
theorem Sp.sub {R : List (Nat → Int)} {u v : Nat → Int} (hu : Sp p n R u) (hv : Sp p n R v) : Sp p n R (fun k => u k - v k) :=
  (hu.add (hv.mul (-1))).of_eq fun k _ => by
    show u k + -1 * v k = u k - v k
    omega
theorem Sp.zero_at {c : Nat} (hc : c < n) : ∀ {R : List (Nat → Int)} {v : Nat → Int}, (∀ r, r ∈ R → p ∣ r c) → Sp p n R v → p ∣ v c
  | [], _, _, h => h c hc
  | e :: R, v, hr, ⟨a, h⟩ => by
    have h1 := Sp.zero_at hc (fun r hr' => hr r (List.mem_cons_of_mem _ hr')) h
    have h2 := Int.dvd_add h1 (Int.dvd_mul_of_dvd_right (b := a) (hr e (List.mem_cons_self ..)))
    have e1 : v c - a * e c + a * e c = v c := by omega
    rwa [e1] at h2
theorem Sp.app_left {R R' : List (Nat → Int)} {v : Nat → Int} (h : Sp p n R v) : Sp p n (R ++ R') v :=
  h.trans fun _ hr => Sp.mem (List.mem_append_left _ hr)
theorem Sp.app_right {R R' : List (Nat → Int)} {v : Nat → Int} (h : Sp p n R' v) : Sp p n (R ++ R') v :=
  h.trans fun _ hr => Sp.mem (List.mem_append_right _ hr)

/-- The first column other than 0. -/
def Lead (p : Int) (n : Nat) (v : Nat → Int) (j : Nat) : Prop := j < n ∧ ¬ p ∣ v j ∧ ∀ i, i < j → p ∣ v i
theorem Lead.uniq {v : Nat → Int} {i j : Nat} (h : Lead p n v i) (h' : Lead p n v j) : i = j := by
  rcases Nat.lt_trichotomy i j with hlt | rfl | hlt
  · exact absurd (h'.2.2 i hlt) h.2.1
  · rfl
  · exact absurd (h.2.2 j hlt) h'.2.1
/-- Rows with columns of their own: 1 there, 0 before it, and 0 there in all later rows. -/
def Ech (p : Int) (n : Nat) : List ((Nat → Int) × Nat) → Prop
  | [] => True
  | (e, c) :: R => c < n ∧ p ∣ e c - 1 ∧ (∀ i, i < c → p ∣ e i) ∧ (∀ x, x ∈ R → p ∣ x.1 c) ∧ Ech p n R
theorem Ech.at_ : ∀ {R : List ((Nat → Int) × Nat)}, Ech p n R → ∀ {x}, x ∈ R → x.2 < n ∧ p ∣ x.1 x.2 - 1 ∧ ∀ i, i < x.2 → p ∣ x.1 i
  | (e, c) :: R, h, x, hx => by
    rcases List.mem_cons.1 hx with rfl | hx'
    · exact ⟨h.1, h.2.1, h.2.2.1⟩
    · exact Ech.at_ h.2.2.2.2 hx'
theorem one_not (hp : 2 ≤ p) {x : Int} (h : p ∣ x - 1) : ¬ p ∣ x := fun h' => by
  have h1 := Int.dvd_sub h' h
  have e : x - (x - 1) = 1 := by omega
  rw [e] at h1
  have := Int.le_of_dvd (by decide) h1
  omega
theorem Ech.lead_mem (hp : 2 ≤ p) {R : List ((Nat → Int) × Nat)} (h : Ech p n R) {x : (Nat → Int) × Nat} (hx : x ∈ R) : Lead p n x.1 x.2 := by
  obtain ⟨h1, h2, h3⟩ := h.at_ hx
  exact ⟨h1, one_not hp h2, h3⟩
/-- A sum of multiples of such rows is zero, or begins at one of their columns. -/
theorem Ech.lead (hp : 2 ≤ p) : ∀ {R : List ((Nat → Int) × Nat)}, Ech p n R → ∀ {v}, Sp p n (R.map (·.1)) v → Z0 p n v ∨ ∃ x, x ∈ R ∧ Lead p n v x.2
  | [], _, v, hv => .inl hv
  | (e, c) :: R, h, v, ⟨a, hv⟩ => by
    obtain ⟨hc, he, hbe, hz, hR⟩ := h
    have hwc : p ∣ v c - a * e c := Sp.zero_at hc (v := fun k => v k - a * e k) (fun r hr => by
      obtain ⟨x, hx, rfl⟩ := List.mem_map.1 hr
      exact hz x hx) hv
    have ih := Ech.lead hp hR hv
    by_cases ha : p ∣ a
    · have hk : ∀ k, p ∣ v k ↔ p ∣ v k - a * e k := fun k => by
        have hd : p ∣ a * e k := Int.dvd_mul_of_dvd_left ha
        refine ⟨fun hh => Int.dvd_sub hh hd, fun hh => ?_⟩
        have := Int.dvd_add hh hd
        have e1 : v k - a * e k + a * e k = v k := by omega
        rwa [e1] at this
      rcases ih with hz0 | ⟨x, hx, hl⟩
      · exact .inl fun k hk' => (hk k).2 (hz0 k hk')
      · exact .inr ⟨x, List.mem_cons_of_mem _ hx, hl.1, fun hh => hl.2.1 ((hk _).1 hh), fun i hi => (hk i).2 (hl.2.2 i hi)⟩
    · have hvc : ¬ p ∣ v c := fun hh => by
        have h1 := Int.dvd_sub hh hwc
        have e1 : v c - (v c - a * e c) = a * e c := by omega
        rw [e1] at h1
        have h2 := Int.dvd_mul_of_dvd_right (b := a) he
        have h3 := Int.dvd_sub h1 h2
        have e2 : a * e c - a * (e c - 1) = a := by rw [Int.mul_sub]; omega
        rw [e2] at h3
        exact ha h3
      have hbefore : ∀ k, k < c → (p ∣ v k ↔ p ∣ v k - a * e k) := fun k hk => by
        have hd : p ∣ a * e k := Int.dvd_mul_of_dvd_right (hbe k hk)
        refine ⟨fun hh => Int.dvd_sub hh hd, fun hh => ?_⟩
        have := Int.dvd_add hh hd
        have e1 : v k - a * e k + a * e k = v k := by omega
        rwa [e1] at this
      have hfirst : (∀ i, i < c → p ∣ v i) → ∃ x, x ∈ (e, c) :: R ∧ Lead p n v x.2 := fun hb =>
        ⟨(e, c), List.mem_cons_self .., hc, hvc, hb⟩
      rcases ih with hz0 | ⟨x, hx, hl⟩
      · exact .inr (hfirst fun i hi => (hbefore i hi).2 (hz0 i (by omega)))
      · by_cases hlt : x.2 < c
        · exact .inr ⟨x, List.mem_cons_of_mem _ hx, hl.1, fun hh => hl.2.1 ((hbefore _ hlt).1 hh), fun i hi => (hbefore i (by omega)).2 (hl.2.2 i hi)⟩
        · exact .inr (hfirst fun i hi => (hbefore i hi).2 (hl.2.2 i (by omega)))
theorem Ech.snoc : ∀ {R : List ((Nat → Int) × Nat)} {e : Nat → Int} {c : Nat}, Ech p n R → c < n → p ∣ e c - 1 → (∀ i, i < c → p ∣ e i) → (∀ x, x ∈ R → p ∣ e x.2) → Ech p n (R ++ [(e, c)])
  | [], e, c, _, h1, h2, h3, _ => ⟨h1, h2, h3, fun x hx => absurd hx (List.not_mem_nil), trivial⟩
  | (f, d) :: R, e, c, h, h1, h2, h3, h4 => by
    obtain ⟨a1, a2, a3, a4, a5⟩ := h
    refine ⟨a1, a2, a3, fun x hx => ?_, Ech.snoc a5 h1 h2 h3 fun x hx => h4 x (List.mem_cons_of_mem _ hx)⟩
    rcases List.mem_append.1 hx with hx | hx
    · exact a4 x hx
    · rw [List.mem_singleton] at hx
      subst hx
      exact h4 (f, d) (List.mem_cons_self ..)
theorem Ech.nodup (hp : 2 ≤ p) : ∀ {R : List ((Nat → Int) × Nat)}, Ech p n R → (R.map (·.2)).Nodup
  | [], _ => List.nodup_nil
  | (e, c) :: R, h => by
    obtain ⟨a1, a2, a3, a4, a5⟩ := h
    refine List.nodup_cons.2 ⟨fun hm => ?_, Ech.nodup hp a5⟩
    obtain ⟨x, hx, e1⟩ := List.mem_map.1 hm
    have e1' : x.2 = c := e1
    have h1 := a4 x hx
    have h2 := (Ech.lead_mem hp a5 hx).2.1
    rw [e1'] at h2
    exact h2 h1
/-- The columns are those at which sums of multiples begin. -/
theorem Ech.cols (hp : 2 ≤ p) {R : List ((Nat → Int) × Nat)} (h : Ech p n R) (c : Nat) : c ∈ R.map (·.2) ↔ ∃ v, Sp p n (R.map (·.1)) v ∧ Lead p n v c := by
  constructor
  · intro hm
    obtain ⟨x, hx, rfl⟩ := List.mem_map.1 hm
    exact ⟨x.1, Sp.mem (List.mem_map.2 ⟨x, hx, rfl⟩), h.lead_mem hp hx⟩
  · rintro ⟨v, hv, hl⟩
    rcases h.lead hp hv with hz | ⟨x, hx, hl'⟩
    · exact absurd (hz c hl.1) hl.2.1
    · rw [hl.uniq hl']
      exact List.mem_map.2 ⟨x, hx, rfl⟩
theorem nodup_le : ∀ {l m : List Nat}, l.Nodup → (∀ x, x ∈ l → x ∈ m) → l.length ≤ m.length
  | [], _, _, _ => Nat.zero_le _
  | a :: l, m, hd, hs => by
    have ha := hs a (List.mem_cons_self ..)
    obtain ⟨hn, hd'⟩ := List.nodup_cons.1 hd
    have h1 := nodup_le (m := m.erase a) hd' fun x hx => by
      have hne : x ≠ a := fun e => hn (e ▸ hx)
      exact (List.mem_erase_of_ne hne).2 (hs x (List.mem_cons_of_mem _ hx))
    have h2 := List.length_erase_of_mem ha
    have h3 := List.length_pos_of_mem ha
    simp only [List.length_cons]
    omega
theorem Ech.same_cols (hp : 2 ≤ p) {R S : List ((Nat → Int) × Nat)} (hR : Ech p n R) (hS : Ech p n S) (h : ∀ v, Sp p n (R.map (·.1)) v ↔ Sp p n (S.map (·.1)) v) (c : Nat) :
    c ∈ R.map (·.2) ↔ c ∈ S.map (·.2) := by
  rw [hR.cols hp, hS.cols hp]
  exact ⟨fun ⟨v, a, b⟩ => ⟨v, (h v).1 a, b⟩, fun ⟨v, a, b⟩ => ⟨v, (h v).2 a, b⟩⟩
theorem Ech.same_len (hp : 2 ≤ p) {R S : List ((Nat → Int) × Nat)} (hR : Ech p n R) (hS : Ech p n S) (h : ∀ v, Sp p n (R.map (·.1)) v ↔ Sp p n (S.map (·.1)) v) : R.length = S.length := by
  have h1 := nodup_le (hR.nodup hp) fun c hc => (hR.same_cols hp hS h c).1 hc
  have h2 := nodup_le (hS.nodup hp) fun c hc => (hR.same_cols hp hS h c).2 hc
  simp only [List.length_map] at h1 h2
  omega
/-- Sums of multiples that are alike at the columns are alike. -/
theorem Ech.uniq (hp : 2 ≤ p) {R : List ((Nat → Int) × Nat)} (h : Ech p n R) {u v : Nat → Int} (hu : Sp p n (R.map (·.1)) u) (hv : Sp p n (R.map (·.1)) v) (hc : ∀ x, x ∈ R → p ∣ u x.2 - v x.2) :
    ∀ k, k < n → p ∣ u k - v k := by
  rcases h.lead hp (hu.sub hv) with hz | ⟨x, hx, hl⟩
  · exact hz
  · exact absurd (hc x hx) hl.2.1
end
end Go.Proofs.Ytfaegfhbbkicgaa

/-
  Rows taken in one by one, modulo a small prime: the program's way, as plain functions, and what it keeps. Conditions: p is 2, 3, 5 or 7.
-/

namespace Go.Proofs.Ytfaegfhbbkicgaa

def P7 (p : Int) : Prop := p = 2 ∨ p = 3 ∨ p = 5 ∨ p = 7
theorem P7.two {p : Int} (h : P7 p) : 2 ≤ p := by unfold P7 at h; omega
theorem P7.le {p : Int} (h : P7 p) : p ≤ 7 := by unfold P7 at h; omega
/-- All numbers of a row are rests modulo p. -/
def Rg (p : Int) (x : List Int) : Prop := ∀ j, 0 ≤ nth x j ∧ nth x j < p
theorem nth_past {x : List Int} {j : Nat} (h : x.length ≤ j) : nth x j = 0 := by simp [nth, List.getD, h]
/-- A row plus a multiple of another one. -/
def addT (p : Int) (x : List Int) (f : Int) (y : List Int) : List Int := (List.range x.length).map fun j => (nth x j + f * nth y j) % p
theorem nth_rangeMap {n j : Nat} (f : Nat → Int) (h : j < n) : nth ((List.range n).map f) j = f j := by simp [nth, List.getD, h]
theorem addT_len (p : Int) (x : List Int) (f : Int) (y : List Int) : (addT p x f y).length = x.length := by simp [addT]
theorem addT_nth {p : Int} {x : List Int} {f : Int} {y : List Int} {j : Nat} (h : j < x.length) : nth (addT p x f y) j = (nth x j + f * nth y j) % p := nth_rangeMap _ h
theorem addT_rg {p : Int} (hp : 0 < p) (x : List Int) (f : Int) (y : List Int) : Rg p (addT p x f y) := fun j => by
  by_cases h : j < x.length
  · rw [addT_nth h]; exact ⟨Int.emod_nonneg _ (by omega), Int.emod_lt_of_pos _ hp⟩
  · rw [nth_past (by rw [addT_len]; omega)]; exact ⟨Int.le_refl _, hp⟩
/-- The same, as far as a place. -/
def addK (p : Int) (x : List Int) (f : Int) (y : List Int) (k : Nat) : List Int := (List.range x.length).map fun j => if j < k then (nth x j + f * nth y j) % p else nth x j
theorem addK_len (p : Int) (x : List Int) (f : Int) (y : List Int) (k : Nat) : (addK p x f y k).length = x.length := by simp [addK]
theorem addK_nth {p : Int} {x : List Int} {f : Int} {y : List Int} {k j : Nat} (h : j < x.length) : nth (addK p x f y k) j = if j < k then (nth x j + f * nth y j) % p else nth x j := nth_rangeMap _ h
theorem nth_ext {x y : List Int} (hl : x.length = y.length) (h : ∀ j, j < x.length → nth x j = nth y j) : x = y := by
  apply List.ext_getElem hl
  intro j h1 h2
  have := h j h1
  rwa [nth_get h1, nth_get h2] at this
theorem addK_zero (p : Int) (x : List Int) (f : Int) (y : List Int) : addK p x f y 0 = x :=
  nth_ext (addK_len ..) fun j hj => by rw [addK_nth (by rwa [addK_len] at hj), if_neg (by omega)]
theorem addK_all (p : Int) (x : List Int) (f : Int) (y : List Int) : addK p x f y x.length = addT p x f y :=
  nth_ext (by rw [addK_len, addT_len]) fun j hj => by
    rw [addK_len] at hj
    rw [addK_nth hj, if_pos hj, addT_nth hj]
theorem nth_set_at {x : List Int} {k : Nat} (h : k < x.length) (v : Int) (j : Nat) : nth (x.set k v) j = if j = k then v else nth x j := by
  unfold nth
  rw [List.getD_eq_getElem?_getD, List.getD_eq_getElem?_getD, List.getElem?_set]
  by_cases e : k = j
  · subst e; simp [h]
  · rw [if_neg e, if_neg (fun hh => e hh.symm)]
theorem addK_succ {p : Int} {x : List Int} {f : Int} {y : List Int} {k : Nat} (h : k < x.length) : (addK p x f y k).set k ((nth x k + f * nth y k) % p) = addK p x f y (k + 1) :=
  nth_ext (by rw [List.length_set, addK_len, addK_len]) fun j hj => by
    rw [List.length_set, addK_len] at hj
    rw [nth_set_at (by rw [addK_len]; exact h), addK_nth hj, addK_nth hj]
    by_cases e : j = k
    · subst e; rw [if_pos rfl, if_pos (by omega)]
    · rw [if_neg e]
      by_cases hlt : j < k
      · rw [if_pos hlt, if_pos (by omega)]
      · rw [if_neg hlt, if_neg (by omega)]
theorem addK_rg {p : Int} (hp : 0 < p) {x : List Int} (hx : Rg p x) (f : Int) (y : List Int) (k : Nat) : Rg p (addK p x f y k) := fun j => by
  by_cases h : j < x.length
  · rw [addK_nth h]
    split
    · exact ⟨Int.emod_nonneg _ (by omega), Int.emod_lt_of_pos _ hp⟩
    · exact hx j
  · rw [nth_past (by rw [addK_len]; omega)]; exact ⟨Int.le_refl _, hp⟩
theorem emod_dvd (p x : Int) : p ∣ x % p - x := by
  refine ⟨-(x / p), ?_⟩
  have := Int.mul_ediv_add_emod x p
  rw [Int.mul_neg]; omega
theorem addT_dvd {p : Int} {x : List Int} {f : Int} {y : List Int} {j : Nat} (h : j < x.length) : p ∣ nth (addT p x f y) j - (nth x j + f * nth y j) := by
  rw [addT_nth h]; exact emod_dvd _ _
theorem dvd_iff0 {p x : Int} (h : 0 ≤ x ∧ x < p) : p ∣ x ↔ x = 0 := by
  refine ⟨fun hd => ?_, fun e => e ▸ Int.dvd_zero _⟩
  by_cases hx : x = 0
  · exact hx
  · have := Int.le_of_dvd (by omega) hd; omega

/-- A row less multiples of others, one after another. -/
def redE (p : Int) (E : List (List Int × Int)) (x : List Int) : List Int := E.foldl (fun x e => addT p x (p - nth x e.2.toNat) e.1) x
theorem redE_cons (p : Int) (e : List Int × Int) (E : List (List Int × Int)) (x : List Int) : redE p (e :: E) x = redE p E (addT p x (p - nth x e.2.toNat) e.1) := rfl
theorem redE_snoc (p : Int) (e : List Int × Int) (E : List (List Int × Int)) (x : List Int) : redE p (E ++ [e]) x = addT p (redE p E x) (p - nth (redE p E x) e.2.toNat) e.1 := by
  simp [redE, List.foldl_append]
theorem redE_len (p : Int) : ∀ (E : List (List Int × Int)) (x : List Int), (redE p E x).length = x.length
  | [], _ => rfl
  | e :: E, x => by rw [redE_cons, redE_len p E, addT_len]
theorem redE_rg {p : Int} (hp : 0 < p) : ∀ (E : List (List Int × Int)) {x : List Int}, Rg p x → Rg p (redE p E x)
  | [], _, h => h
  | e :: E, x, _ => by rw [redE_cons]; exact redE_rg hp E (addT_rg hp _ _ _)
/-- The rows as functions, with their columns. -/
def vec (E : List (List Int × Int)) : List (Nat → Int) := E.map fun e => nth e.1
def prs (E : List (List Int × Int)) : List ((Nat → Int) × Nat) := E.map fun e => (nth e.1, e.2.toNat)
theorem prs_vec (E : List (List Int × Int)) : (prs E).map (·.1) = vec E := by simp [prs, vec, List.map_map, Function.comp_def]
theorem redE_sp {p : Int} {n : Nat} : ∀ (E : List (List Int × Int)) {x : List Int}, x.length = n → Sp p n (vec E) (fun k => nth (redE p E x) k - nth x k)
  | [], x, _ => fun k _ => by
    show p ∣ nth x k - nth x k
    rw [Int.sub_self]; exact Int.dvd_zero _
  | e :: E, x, hl => by
    have ih := redE_sp (p := p) (n := n) E (x := addT p x (p - nth x e.2.toNat) e.1) (by rw [addT_len]; exact hl)
    refine ⟨p - nth x e.2.toNat, ih.congr fun k hk => ?_⟩
    rw [redE_cons]
    have h1 := addT_dvd (p := p) (x := x) (f := p - nth x e.2.toNat) (y := e.1) (j := k) (by omega)
    show p ∣ nth (redE p E (addT p x (p - nth x e.2.toNat) e.1)) k - nth (addT p x (p - nth x e.2.toNat) e.1) k - (nth (redE p E (addT p x (p - nth x e.2.toNat) e.1)) k - nth x k - (p - nth x e.2.toNat) * nth e.1 k)
    generalize nth (addT p x (p - nth x e.2.toNat) e.1) k = a at *
    generalize (p - nth x e.2.toNat) * nth e.1 k = b at *
    generalize nth (redE p E _) k = c at *
    obtain ⟨q, hq⟩ := h1
    exact ⟨-q, by rw [Int.mul_neg]; omega⟩
theorem redE_keep {p : Int} {c : Nat} : ∀ (E : List (List Int × Int)) {x : List Int}, c < x.length → (∀ e, e ∈ E → p ∣ nth e.1 c) → p ∣ nth (redE p E x) c - nth x c
  | [], x, _, _ => by
    show p ∣ nth x c - nth x c
    rw [Int.sub_self]; exact Int.dvd_zero _
  | e :: E, x, hc, h => by
    have ih := redE_keep (p := p) E (x := addT p x (p - nth x e.2.toNat) e.1) (by rw [addT_len]; exact hc) fun e' he' => h e' (List.mem_cons_of_mem _ he')
    rw [redE_cons]
    have h1 := addT_dvd (p := p) (x := x) (f := p - nth x e.2.toNat) (y := e.1) (j := c) hc
    have h2 : p ∣ (p - nth x e.2.toNat) * nth e.1 c := Int.dvd_mul_of_dvd_right (h e (List.mem_cons_self ..))
    have h3 := Int.dvd_add (Int.dvd_add ih h1) h2
    have e1 : nth (redE p E (addT p x (p - nth x e.2.toNat) e.1)) c - nth (addT p x (p - nth x e.2.toNat) e.1) c + (nth (addT p x (p - nth x e.2.toNat) e.1) c - (nth x c + (p - nth x e.2.toNat) * nth e.1 c)) + (p - nth x e.2.toNat) * nth e.1 c = nth (redE p E (addT p x (p - nth x e.2.toNat) e.1)) c - nth x c := by omega
    rwa [e1] at h3
theorem redE_zero {p : Int} {n : Nat} : ∀ (E : List (List Int × Int)) {x : List Int}, x.length = n → Ech p n (prs E) → ∀ e, e ∈ E → p ∣ nth (redE p E x) e.2.toNat
  | e :: E, x, hl, h, d, hd => by
    obtain ⟨hc, h1, _, hz, hE⟩ := h
    have hl' : (addT p x (p - nth x e.2.toNat) e.1).length = n := by rw [addT_len]; exact hl
    rcases List.mem_cons.1 hd with rfl | hd'
    · rw [redE_cons]
      have hk := redE_keep (p := p) (c := d.2.toNat) E (x := addT p x (p - nth x d.2.toNat) d.1) (by omega) fun y hy => hz (nth y.1, y.2.toNat) (List.mem_map.2 ⟨y, hy, rfl⟩)
      have ha := addT_dvd (p := p) (x := x) (f := p - nth x d.2.toNat) (y := d.1) (j := d.2.toNat) (by omega)
      have h2 : p ∣ (p - nth x d.2.toNat) * (nth d.1 d.2.toNat - 1) := Int.dvd_mul_of_dvd_right h1
      rw [Int.mul_sub, Int.mul_one] at h2
      have h3 := Int.dvd_add (Int.dvd_add hk ha) h2
      have h4 := Int.dvd_add h3 (Int.dvd_refl p)
      have e1 : nth (redE p E (addT p x (p - nth x d.2.toNat) d.1)) d.2.toNat - nth (addT p x (p - nth x d.2.toNat) d.1) d.2.toNat + (nth (addT p x (p - nth x d.2.toNat) d.1) d.2.toNat - (nth x d.2.toNat + (p - nth x d.2.toNat) * nth d.1 d.2.toNat)) + ((p - nth x d.2.toNat) * nth d.1 d.2.toNat - (p - nth x d.2.toNat)) + p = nth (redE p E (addT p x (p - nth x d.2.toNat) d.1)) d.2.toNat := by omega
      rwa [e1] at h4
    · rw [redE_cons]
      exact redE_zero E hl' hE d hd'

/-- The first place with another number than 0. -/
def ldN (x : List Int) : Nat := (x.takeWhile (fun y => decide (y = 0))).length
theorem ldN_le (x : List Int) : ldN x ≤ x.length := (List.takeWhile_sublist _).length_le
theorem ldN_is : ∀ (xs : List Int) (k : Nat), k ≤ xs.length → (∀ j, j < k → nth xs j = 0) → (k = xs.length ∨ nth xs k ≠ 0) → ldN xs = k
  | [], k, hk, _, _ => by
    have : k = 0 := by simpa using hk
    subst this; rfl
  | y :: xs, 0, _, _, h => by
    rcases h with h | h
    · simp at h
    · have hy : y ≠ 0 := h
      simp [ldN, List.takeWhile, hy]
  | y :: xs, k + 1, hk, hall, h => by
    have hy : y = 0 := hall 0 (by omega)
    have ih := ldN_is xs k (by simpa using hk) (fun j hj => hall (j + 1) (by omega)) (by
      rcases h with h | h
      · left; simpa using h
      · right; exact h)
    have e : ldN (y :: xs) = ldN xs + 1 := by simp [ldN, List.takeWhile, hy]
    rw [e, ih]
theorem ldN_before : ∀ (xs : List Int) (j : Nat), j < ldN xs → nth xs j = 0
  | [], j, h => by simp [ldN] at h
  | y :: xs, j, h => by
    by_cases hy : y = 0
    · have e : ldN (y :: xs) = ldN xs + 1 := by simp [ldN, List.takeWhile, hy]
      match j with
      | 0 => exact hy
      | j + 1 => exact ldN_before xs j (by omega)
    · have e : ldN (y :: xs) = 0 := by simp [ldN, List.takeWhile, hy]
      omega
theorem ldN_at : ∀ (xs : List Int), ldN xs < xs.length → nth xs (ldN xs) ≠ 0
  | [], h => by simp at h
  | y :: xs, h => by
    by_cases hy : y = 0
    · have e : ldN (y :: xs) = ldN xs + 1 := by simp [ldN, List.takeWhile, hy]
      rw [e] at h ⊢
      exact ldN_at xs (by simpa using h)
    · have e : ldN (y :: xs) = 0 := by simp [ldN, List.takeWhile, hy]
      rw [e]; exact hy
/-- The number whose product with x has the rest 1. -/
def inv7 (p x : Int) : Int := ((((List.range 7).find? fun (y : Nat) => decide (x * (y : Int) % p = 1)).getD 0 : Nat) : Int)
theorem inv7_is {p x y : Int} (hp : P7 p) (hx : 0 < x ∧ x < p) (hy : 0 < y ∧ y < p) (h : x * y % p = 1) : y = inv7 p x := by
  have hx7 : x = 1 ∨ x = 2 ∨ x = 3 ∨ x = 4 ∨ x = 5 ∨ x = 6 := by have := hp.le; omega
  have hy7 : y = 1 ∨ y = 2 ∨ y = 3 ∨ y = 4 ∨ y = 5 ∨ y = 6 := by have := hp.le; omega
  rcases hp with rfl | rfl | rfl | rfl <;> rcases hx7 with rfl | rfl | rfl | rfl | rfl | rfl <;> first | (exfalso; omega) | (rcases hy7 with rfl | rfl | rfl | rfl | rfl | rfl <;> first | (exfalso; omega) | (revert h; decide))
theorem inv7_ok {p x : Int} (hp : P7 p) (hx : 0 < x ∧ x < p) : 0 < inv7 p x ∧ inv7 p x < p ∧ x * inv7 p x % p = 1 := by
  have hx7 : x = 1 ∨ x = 2 ∨ x = 3 ∨ x = 4 ∨ x = 5 ∨ x = 6 := by have := hp.le; omega
  rcases hp with rfl | rfl | rfl | rfl <;> rcases hx7 with rfl | rfl | rfl | rfl | rfl | rfl <;> first | (exfalso; omega) | decide
/-- The row that is kept. -/
def nrm (p : Int) (r : List Int) : List Int := addT p r (inv7 p (nth r (ldN r)) - 1) r
theorem nrm_len (p : Int) (r : List Int) : (nrm p r).length = r.length := addT_len ..
theorem nrm_dvd {p : Int} {r : List Int} {j : Nat} (h : j < r.length) : p ∣ nth (nrm p r) j - inv7 p (nth r (ldN r)) * nth r j := by
  have h1 := addT_dvd (p := p) (x := r) (f := inv7 p (nth r (ldN r)) - 1) (y := r) h
  rw [Int.sub_mul, Int.one_mul] at h1
  have e : nth r j + (inv7 p (nth r (ldN r)) * nth r j - nth r j) = inv7 p (nth r (ldN r)) * nth r j := by omega
  rwa [e] at h1
def addR (p : Int) (E : List (List Int × Int)) (x : List Int) : List (List Int × Int) :=
  if ldN (redE p E x) = x.length then E else E ++ [(nrm p (redE p E x), (ldN (redE p E x) : Int))]
def echel (p : Int) (rows : List (List Int)) : List (List Int × Int) := rows.foldl (addR p) []
/-- What the rows that are kept obey. -/
def EOk (p : Int) (n : Nat) (E : List (List Int × Int)) : Prop := (∀ e, e ∈ E → e.1.length = n ∧ Rg p e.1 ∧ 0 ≤ e.2 ∧ e.2 < n) ∧ Ech p n (prs E)
theorem EOk.nil (p : Int) (n : Nat) : EOk p n [] := ⟨fun _ h => absurd h (List.not_mem_nil), trivial⟩
theorem addR_ok {p : Int} {n : Nat} (hp : P7 p) {E : List (List Int × Int)} {x : List Int} (h : EOk p n E) (hl : x.length = n) (hx : Rg p x) :
    EOk p n (addR p E x) ∧ ∀ v, Sp p n (vec (addR p E x)) v ↔ Sp p n (vec E ++ [nth x]) v := by
  have hp2 := hp.two
  have hrl := redE_len p E x
  have hrg := redE_rg (p := p) (by omega) E hx
  have hsp := redE_sp (p := p) E hl
  have hz := redE_zero (p := p) E hl h.2
  unfold addR
  obtain ⟨r, hr⟩ : ∃ r, r = redE p E x := ⟨_, rfl⟩
  rw [← hr] at hrl hrg hsp hz ⊢
  have hle := ldN_le r
  by_cases hend : ldN r = x.length
  · rw [if_pos hend]
    refine ⟨h, Sp.same (fun e he => Sp.mem (List.mem_append_left _ he)) fun e he => ?_⟩
    rcases List.mem_append.1 he with he | he
    · exact Sp.mem he
    · rw [List.mem_singleton] at he
      subst he
      have h0 : Sp p n (vec E) (nth r) := Sp.zero fun k hk => by rw [ldN_before r k (by omega)]; exact Int.dvd_zero _
      exact (h0.sub hsp).of_eq fun k _ => by
        show nth r k - (nth r k - nth x k) = nth x k
        omega
  · rw [if_neg hend]
    have hlt : ldN r < r.length := by omega
    have hne := ldN_at r hlt
    have hrc := hrg (ldN r)
    have hinv := inv7_ok hp (x := nth r (ldN r)) ⟨by omega, hrc.2⟩
    have hnd := fun {j : Nat} (hj : j < r.length) => nrm_dvd (p := p) hj
    obtain ⟨f, hf⟩ : ∃ f, f = inv7 p (nth r (ldN r)) := ⟨_, rfl⟩
    rw [← hf] at hinv hnd
    obtain ⟨y, hy⟩ : ∃ y, y = nrm p r := ⟨_, rfl⟩
    rw [← hy] at hnd ⊢
    have hyl : y.length = n := by rw [hy, nrm_len]; omega
    have hyr : Rg p y := by rw [hy]; exact addT_rg (by omega) _ _ _
    have h1 : p ∣ nth y (ldN r) - 1 := by
      have a := hnd hlt
      have b := emod_dvd p (nth r (ldN r) * f)
      rw [hinv.2.2] at b
      have c := Int.dvd_sub a b
      have e : nth y (ldN r) - f * nth r (ldN r) - (1 - nth r (ldN r) * f) = nth y (ldN r) - 1 := by rw [Int.mul_comm f]; omega
      rwa [e] at c
    have h0 : ∀ i, i < n → p ∣ nth r i → p ∣ nth y i := fun i hi hd => by
      have a := hnd (j := i) (by omega)
      have b := Int.dvd_mul_of_dvd_right (b := f) hd
      have c := Int.dvd_add a b
      have e : nth y i - f * nth r i + f * nth r i = nth y i := by omega
      rwa [e] at c
    refine ⟨⟨fun e he => ?_, ?_⟩, ?_⟩
    · rcases List.mem_append.1 he with he | he
      · exact h.1 e he
      · rw [List.mem_singleton] at he
        subst he
        exact ⟨hyl, hyr, by omega, by show (ldN r : Int) < n; omega⟩
    · have e : prs (E ++ [(y, (ldN r : Int))]) = prs E ++ [(nth y, ldN r)] := by simp [prs]
      rw [e]
      refine h.2.snoc (by omega) h1 (fun i hi => h0 i (by omega) (by rw [ldN_before r i hi]; exact Int.dvd_zero _)) fun q hq => ?_
      obtain ⟨e', he', rfl⟩ := List.mem_map.1 hq
      exact h0 _ (by have := (h.1 e' he').2.2; show e'.2.toNat < n; omega) (hz e' he')
    · have e : vec (E ++ [(y, (ldN r : Int))]) = vec E ++ [nth y] := by simp [vec]
      rw [e]
      have hr' : Sp p n (vec E ++ [nth x]) (nth r) := by
        have a := (Sp.app_left (R' := [nth x]) hsp).add (Sp.mem (List.mem_append_right (vec E) (List.mem_singleton.2 rfl)))
        exact a.of_eq fun k _ => by
          show nth r k - nth x k + nth x k = nth r k
          omega
      refine Sp.same (fun q hq => ?_) fun q hq => ?_
      · rcases List.mem_append.1 hq with hq | hq
        · exact Sp.mem (List.mem_append_left _ hq)
        · rw [List.mem_singleton] at hq
          subst hq
          refine (hr'.mul f).congr fun k hk => ?_
          have a := hnd (j := k) (by omega)
          have e2 : f * nth r k - nth y k = -(nth y k - f * nth r k) := by omega
          rw [e2]; exact Int.dvd_neg.2 a
      · rcases List.mem_append.1 hq with hq | hq
        · exact Sp.mem (List.mem_append_left _ hq)
        · rw [List.mem_singleton] at hq
          subst hq
          have hy' : Sp p n (vec E ++ [nth y]) (nth y) := Sp.mem (List.mem_append_right _ (List.mem_singleton.2 rfl))
          have hrr : Sp p n (vec E ++ [nth y]) (nth r) := by
            refine (hy'.mul (nth r (ldN r))).congr fun k hk => ?_
            have a := Int.dvd_mul_of_dvd_right (b := nth r (ldN r)) (hnd (j := k) (by omega))
            have b := Int.dvd_mul_of_dvd_left (c := nth r k) (emod_dvd p (nth r (ldN r) * f))
            rw [hinv.2.2] at b
            rw [Int.mul_sub] at a
            rw [Int.sub_mul, Int.one_mul, Int.mul_assoc] at b
            have c := Int.dvd_sub a b
            generalize nth r (ldN r) * nth y k = s at *
            generalize nth r (ldN r) * (f * nth r k) = t at *
            have e3 : s - t - (nth r k - t) = s - nth r k := by omega
            rwa [e3] at c
          exact (hrr.sub (Sp.app_left hsp)).of_eq fun k _ => by
            show nth r k - (nth r k - nth x k) = nth x k
            omega
theorem echel_from {p : Int} {n : Nat} (hp : P7 p) : ∀ (rows : List (List Int)) (E : List (List Int × Int)), (∀ x, x ∈ rows → x.length = n ∧ Rg p x) → EOk p n E →
    EOk p n (rows.foldl (addR p) E) ∧ ∀ v, Sp p n (vec (rows.foldl (addR p) E)) v ↔ Sp p n (vec E ++ rows.map nth) v
  | [], E, _, h => ⟨h, fun v => by simp⟩
  | x :: rows, E, hr, h => by
    obtain ⟨hl, hx⟩ := hr x (List.mem_cons_self ..)
    obtain ⟨h1, h2⟩ := addR_ok hp h hl hx
    obtain ⟨h3, h4⟩ := echel_from hp rows (addR p E x) (fun y hy => hr y (List.mem_cons_of_mem _ hy)) h1
    refine ⟨h3, fun v => ?_⟩
    rw [List.foldl_cons, h4 v]
    have e : vec E ++ (x :: rows).map nth = (vec E ++ [nth x]) ++ rows.map nth := by simp
    rw [e]
    refine Sp.same (fun q hq => ?_) (fun q hq => ?_) v
    · rcases List.mem_append.1 hq with hq | hq
      · exact Sp.app_left ((h2 q).1 (Sp.mem hq))
      · exact Sp.mem (List.mem_append_right _ hq)
    · rcases List.mem_append.1 hq with hq | hq
      · exact Sp.app_left ((h2 q).2 (Sp.mem hq))
      · exact Sp.mem (List.mem_append_right _ hq)
theorem echel_ok {p : Int} {n : Nat} (hp : P7 p) {rows : List (List Int)} (hr : ∀ x, x ∈ rows → x.length = n ∧ Rg p x) :
    EOk p n (echel p rows) ∧ ∀ v, Sp p n (vec (echel p rows)) v ↔ Sp p n (rows.map nth) v := by
  have h := echel_from hp rows [] hr (EOk.nil p n)
  exact ⟨h.1, fun v => h.2 v⟩
end Go.Proofs.Ytfaegfhbbkicgaa

/-
  Matrices as values: copying, measuring, comparing, marking, holding. Conditions: lengths below 2^40.
-/



namespace Go.Proofs.Ytfaegfhbbkicgaa
open Go.RowKit

theorem Try.infoMx : (Try.prog.info? 27).map (·.size) = some 4 := by kernel_rfl
/-- What a call that makes a matrix hands back. -/
def FreshMx (w w' : World) (e : Ending) (p r c : Int) (xs : List Int) : Prop :=
  ∃ A n k, e = .returned (.agg #[.int .i64 p, .int .i64 r, .int .i64 c, .slice A n k]) ∧ Own w' w.heap.size w'.heap.size A n k xs ∧ Below w.heap.size w w'
set_option maxHeartbeats 1000000 in
theorem toMatrix_any (p r c : Int) (A : Option Addr) (n k : Nat) (xs : List Int) (w : World) (hs : SI w A n xs) (hn : n ≤ 1099511627776) :
    Calls Try.prog 16 #[.agg #[.int .i64 p, .int .i64 r, .int .i64 c, .slice A n k]] w fun e w' => FreshMx w w' e p r c xs := by
  obtain ⟨w1, hw1⟩ : ∃ w1, w1 = ((w.alloc (.cells #[.int .i64 p, .int .i64 r, .int .i64 c, .slice A n k] 24)).alloc (.cells #[.int .i64 0, .int .i64 0, .int .i64 0, .slice none 0 0] 27)).alloc (.cells #[.int .i64 0, .int .i64 0, .int .i64 0, .slice none 0 0] 27) := ⟨_, rfl⟩
  obtain ⟨g1, hg1⟩ : ∃ g1, g1 = w.heap.size := ⟨_, rfl⟩
  have k1 : Blk w1 g1 24 #[.int .i64 p, .int .i64 r, .int .i64 c, .slice A n k] := by rw [hw1, hg1]; exact ((Blk.new w _ _).alloc _).alloc _
  have k2 : Blk w1 (g1 + 1) 27 #[.int .i64 0, .int .i64 0, .int .i64 0, .slice none 0 0] := by
    rw [hw1, hg1]
    have := (Blk.new (w.alloc (.cells #[.int .i64 p, .int .i64 r, .int .i64 c, .slice A n k] 24)) 27 #[.int .i64 0, .int .i64 0, .int .i64 0, .slice none 0 0]).alloc (.cells #[.int .i64 0, .int .i64 0, .int .i64 0, .slice none 0 0] 27)
    simpa using this
  have k3 : Blk w1 (g1 + 1 + 1) 27 #[.int .i64 0, .int .i64 0, .int .i64 0, .slice none 0 0] := by
    rw [hw1, hg1]
    have := (Blk.new ((w.alloc (.cells #[.int .i64 p, .int .i64 r, .int .i64 c, .slice A n k] 24)).alloc (.cells #[.int .i64 0, .int .i64 0, .int .i64 0, .slice none 0 0] 27)) 27 #[.int .i64 0, .int .i64 0, .int .i64 0, .slice none 0 0])
    simpa using this
  have hb1 : Below w.heap.size w w1 := by rw [hw1]; go_grown
  have HS_0 := Lib.hid (hs.below hb1 (Nat.le_refl _))
  have HSB := Lib.hid (SI.old hs (show w.heap.size ≤ g1 + 1 + 1 by omega))
  have HW1 := Lib.hid hw1
  have HG1 := Lib.hid hg1
  have HK_0 := Lib.hid (And.intro k1 (And.intro k2 k3))
  have HB_0 := Lib.hid hb1
  clear k1 k2 k3 hb1 hs hw1 hg1
  go_enter Try.func16, Try.ntmps16
  go_upto_region 2 with fail
  rw [← HW1.out, ← HG1.out]
  have hc1 : w1.cell? ⟨g1, 0, none⟩ = some (.int .i64 p) := HK_0.out.1.cell 0
  have hc2 : w1.cell? ⟨g1 + 1 + 1, 0, none⟩ = some (.int .i64 0) := HK_0.out.2.2.cell 0
  have hf2 := HK_0.out.2.2.frozen 0
  go_upto_region 3 with fail
  clear hc1 hc2 hf2
  obtain ⟨v1, hv⟩ : ∃ v, v = w1.setCell ⟨g1 + 1 + 1, 0, none⟩ (.int .i64 p) := ⟨_, rfl⟩
  have HK_1 : Hid (Blk v1 g1 24 #[.int .i64 p, .int .i64 r, .int .i64 c, .slice A n k] ∧ Blk v1 (g1 + 1) 27 #[.int .i64 0, .int .i64 0, .int .i64 0, .slice none 0 0] ∧ Blk v1 (g1 + 1 + 1) 27 #[.int .i64 p, .int .i64 0, .int .i64 0, .slice none 0 0]) := Lib.hid (by
    rw [hv]
    exact ⟨HK_0.out.1.far (by show g1 ≠ g1 + 1 + 1; omega) _, HK_0.out.2.1.far (by show g1 + 1 ≠ g1 + 1 + 1; omega) _, HK_0.out.2.2.set_ 0 _⟩)
  have hbs : Below w.heap.size w1 v1 := by rw [hv]; exact (Below.refl _ _).setCell (by have := HG1.out; show w.heap.size ≤ g1 + 1 + 1; omega) _
  have HB_1 : Hid (Below w.heap.size w v1) := Lib.hid (HB_0.out.trans hbs)
  have HS_1 : Hid (SI v1 A n xs) := Lib.hid (by
    rw [hv]
    have hg : w1.grownBy (w1.setCell ⟨g1 + 1 + 1, 0, none⟩ (.int .i64 p)) (some (g1 + 1 + 1)) := grown_setP _ _ _
    exact SI.kept_ HS_0.out hg HSB.out)
  rw [← hv]
  clear hv hbs HK_0 HB_0 HS_0
  have hc1 : v1.cell? ⟨g1, 1, none⟩ = some (.int .i64 r) := HK_1.out.1.cell 1
  have hc2 : v1.cell? ⟨g1 + 1 + 1, 1, none⟩ = some (.int .i64 0) := HK_1.out.2.2.cell 1
  have hf2 := HK_1.out.2.2.frozen 1
  go_upto_region 4 with fail
  clear hc1 hc2 hf2
  obtain ⟨v2, hv⟩ : ∃ v, v = v1.setCell ⟨g1 + 1 + 1, 1, none⟩ (.int .i64 r) := ⟨_, rfl⟩
  have HK_2 : Hid (Blk v2 g1 24 #[.int .i64 p, .int .i64 r, .int .i64 c, .slice A n k] ∧ Blk v2 (g1 + 1) 27 #[.int .i64 0, .int .i64 0, .int .i64 0, .slice none 0 0] ∧ Blk v2 (g1 + 1 + 1) 27 #[.int .i64 p, .int .i64 r, .int .i64 0, .slice none 0 0]) := Lib.hid (by
    rw [hv]
    exact ⟨HK_1.out.1.far (by show g1 ≠ g1 + 1 + 1; omega) _, HK_1.out.2.1.far (by show g1 + 1 ≠ g1 + 1 + 1; omega) _, HK_1.out.2.2.set_ 1 _⟩)
  have hbs : Below w.heap.size v1 v2 := by rw [hv]; exact (Below.refl _ _).setCell (by have := HG1.out; show w.heap.size ≤ g1 + 1 + 1; omega) _
  have HB_2 : Hid (Below w.heap.size w v2) := Lib.hid (HB_1.out.trans hbs)
  have HS_2 : Hid (SI v2 A n xs) := Lib.hid (by
    rw [hv]
    have hg : v1.grownBy (v1.setCell ⟨g1 + 1 + 1, 1, none⟩ (.int .i64 r)) (some (g1 + 1 + 1)) := grown_setP _ _ _
    exact SI.kept_ HS_1.out hg HSB.out)
  rw [← hv]
  clear hv hbs HK_1 HB_1 HS_1
  have hc1 : v2.cell? ⟨g1, 2, none⟩ = some (.int .i64 c) := HK_2.out.1.cell 2
  have hc2 : v2.cell? ⟨g1 + 1 + 1, 2, none⟩ = some (.int .i64 0) := HK_2.out.2.2.cell 2
  have hf2 := HK_2.out.2.2.frozen 2
  go_upto_region 5 with fail
  clear hc1 hc2 hf2
  obtain ⟨v3, hv⟩ : ∃ v, v = v2.setCell ⟨g1 + 1 + 1, 2, none⟩ (.int .i64 c) := ⟨_, rfl⟩
  have HK_3 : Hid (Blk v3 g1 24 #[.int .i64 p, .int .i64 r, .int .i64 c, .slice A n k] ∧ Blk v3 (g1 + 1) 27 #[.int .i64 0, .int .i64 0, .int .i64 0, .slice none 0 0] ∧ Blk v3 (g1 + 1 + 1) 27 #[.int .i64 p, .int .i64 r, .int .i64 c, .slice none 0 0]) := Lib.hid (by
    rw [hv]
    exact ⟨HK_2.out.1.far (by show g1 ≠ g1 + 1 + 1; omega) _, HK_2.out.2.1.far (by show g1 + 1 ≠ g1 + 1 + 1; omega) _, HK_2.out.2.2.set_ 2 _⟩)
  have hbs : Below w.heap.size v2 v3 := by rw [hv]; exact (Below.refl _ _).setCell (by have := HG1.out; show w.heap.size ≤ g1 + 1 + 1; omega) _
  have HB_3 : Hid (Below w.heap.size w v3) := Lib.hid (HB_2.out.trans hbs)
  have HS_3 : Hid (SI v3 A n xs) := Lib.hid (by
    rw [hv]
    have hg : v2.grownBy (v2.setCell ⟨g1 + 1 + 1, 2, none⟩ (.int .i64 c)) (some (g1 + 1 + 1)) := grown_setP _ _ _
    exact SI.kept_ HS_2.out hg HSB.out)
  rw [← hv]
  clear hv hbs HK_2 HB_2 HS_2
  have hcl1 : v3.cell? ⟨g1, 3, none⟩ = some (.slice A n k) := HK_3.out.1.cell 3
  have HLa : Hid (g1 + 1 + 1 < v3.heap.size) := Lib.hid HK_3.out.2.2.lt
  go_upto_region 6 with (first
    | (go_at_call 24
       refine (toIntS_fr _ _ _ xs _ HS_3.out hn).mono ?_
       rintro e u1 ⟨B1, m1, d1, rfl, ho4, hb4⟩
       have HK1' : Hid (Blk u1 g1 24 #[.int .i64 p, .int .i64 r, .int .i64 c, .slice A n k] ∧ Blk u1 (g1 + 1) 27 #[.int .i64 0, .int .i64 0, .int .i64 0, .slice none 0 0] ∧ Blk u1 (g1 + 1 + 1) 27 #[.int .i64 p, .int .i64 r, .int .i64 c, .slice none 0 0]) := Lib.hid ⟨HK_3.out.1.below hb4 HK_3.out.1.lt, HK_3.out.2.1.below hb4 HK_3.out.2.1.lt, HK_3.out.2.2.below hb4 HK_3.out.2.2.lt⟩
       have hsz1 := hb4.size
       have HQ1 : Hid (Below v3.heap.size v3 u1) := Lib.hid hb4
       have HO1 : Hid (Own u1 v3.heap.size u1.heap.size B1 m1 d1 xs) := Lib.hid ho4
       have hd1 : u1.cell? ⟨g1 + 1 + 1, 3, none⟩ = some (.slice none 0 0) := HK1'.out.2.2.cell 3
       have he1 := HK1'.out.2.2.frozen 3
       clear ho4 hb4))
  clear hcl1 hd1 he1
  obtain ⟨v4, hv4⟩ : ∃ v4, v4 = u1.setCell ⟨g1 + 1 + 1, 3, none⟩ (.slice B1 m1 d1) := ⟨_, rfl⟩
  have hg4 : u1.grownBy v4 (some (g1 + 1 + 1)) := by rw [hv4]; exact grown_setP _ _ _
  have HKd : Hid (Blk v4 g1 24 #[.int .i64 p, .int .i64 r, .int .i64 c, .slice A n k] ∧ Blk v4 (g1 + 1) 27 #[.int .i64 0, .int .i64 0, .int .i64 0, .slice none 0 0] ∧ Blk v4 (g1 + 1 + 1) 27 #[.int .i64 p, .int .i64 r, .int .i64 c, .slice B1 m1 d1]) := Lib.hid (by
    rw [hv4]
    exact ⟨HK1'.out.1.far (by show g1 ≠ g1 + 1 + 1; omega) _, HK1'.out.2.1.far (by show g1 + 1 ≠ g1 + 1 + 1; omega) _, HK1'.out.2.2.set_ 3 _⟩)
  have HBd : Hid (Below w.heap.size w v4) := Lib.hid ((HB_3.out.trans (HQ1.out.mono HB_3.out.size)).grown hg4 (by have := HB_3.out.size; omega) (by rintro k ⟨⟩; have := HG1.out; omega))
  have HLd : Hid (g1 + 1 + 1 < v3.heap.size ∧ v3.heap.size ≤ u1.heap.size ∧ u1.heap.size ≤ v4.heap.size ∧ w.heap.size ≤ v3.heap.size) := Lib.hid ⟨HK_3.out.2.2.lt, hsz1, hg4.size, HB_3.out.size⟩
  have HP1 : Hid (Own v4 v3.heap.size u1.heap.size B1 m1 d1 xs) := Lib.hid (HO1.out.grown hg4 (fun k hk => by injection hk with hk; have := HLd.out.1; omega))
  rw [← hv4]
  clear hv4 hg4 hsz1
  go_wp2_with (first
    | (refine wpList_load_rowP rfl 27 (.tmp 3) rfl (g1 + 1 + 1) rfl 27 #[.int .i64 p, .int .i64 r, .int .i64 c, .slice B1 m1 d1] _ HKd.out.2.2 Try.underlying27 rfl Try.infoMx ?_)
    | (refine wpList_store_rowP rfl 27 (.tmp 2) (.tmp 17) rfl (g1 + 1) #[.int .i64 p, .int .i64 r, .int .i64 c, .slice B1 m1 d1] rfl rfl 27 #[.int .i64 0, .int .i64 0, .int .i64 0, .slice none 0 0] HKd.out.2.1 Try.infoMx rfl (by simp [Value.oneCell']) ?_; intro w5 hb5 hg5)
    | fail)
  refine bodyPost_ret (results_rowP Try.results16 _ _ _ 27 #[.int .i64 p, .int .i64 r, .int .i64 c, .slice B1 m1 d1] _ rfl hb5 Try.underlying27 rfl Try.infoMx) rfl ?_
  have l1 := HLd.out
  have l5 := hg5.size
  have hG := HG1.out
  refine ⟨B1, m1, d1, rfl, ?_, ?_⟩
  · exact (HP1.out.grown hg5 (fun k hk => by injection hk with hk; omega)).wide (by omega) (by omega)
  · exact HBd.out.grown hg5 HBd.out.size (by rintro k ⟨⟩; omega)
set_option maxHeartbeats 1000000 in
theorem szMatrix_any (p r c : Int) (A : Option Addr) (n k : Nat) (q : Int) (w : World) (hn : n ≤ 9223372036854775807) (hq : 0 ≤ q) (hq' : q ≤ 1048576) :
    Calls Try.prog 14 #[.agg #[.int .i64 p, .int .i64 r, .int .i64 c, .slice A n k], .int .i64 q] w fun e w' => e = .returned (.int .i64 (if q < (n : Int) then -1 else q - n)) ∧ Below w.heap.size w w' := by
  obtain ⟨w1, hw1⟩ : ∃ w1, w1 = w.alloc (.cells #[.int .i64 p, .int .i64 r, .int .i64 c, .slice A n k] 24) := ⟨_, rfl⟩
  obtain ⟨g, hg⟩ : ∃ g, g = w.heap.size := ⟨_, rfl⟩
  have hk : Blk w1 g 24 #[.int .i64 p, .int .i64 r, .int .i64 c, .slice A n k] := by rw [hw1, hg]; exact Blk.new _ _ _
  have HB : Hid (Below w.heap.size w w1) := Lib.hid (by rw [hw1]; exact Below.alloc_self _ _)
  obtain ⟨q0, q1, q2, q3⟩ := cells4 hk
  have HW := Lib.hid hw1
  have HG := Lib.hid hg
  clear hk hw1 hg q0 q1 q2
  have HS1 := Lib.hid (fun w => szIntS_any A n k q w hn hq hq')
  by_cases h1 : q < (n : Int)
  · rw [if_pos h1] at HS1 ⊢
    clear h1
    go_enter Try.func14, Try.ntmps14
    go_upto_region 1 with fail
    rw [← HW.out, ← HG.out]
    go_wp2_with (go_at_call 56; refine (HS1.out _).mono ?_; rintro e w2 ⟨rfl, rfl⟩)
    go_ret
    exact ⟨rfl, HB.out⟩
  · rw [if_neg h1] at HS1 ⊢
    obtain ⟨l1, hl1⟩ : ∃ l1 : Int, l1 = q - (n : Int) := ⟨_, rfl⟩
    rw [← hl1] at HS1 ⊢
    have hl1' : ¬ l1 < 0 := by omega
    clear h1 hl1
    go_enter Try.func14, Try.ntmps14
    go_upto_region 1 with fail
    rw [← HW.out, ← HG.out]
    go_wp2_with (go_at_call 56; refine (HS1.out _).mono ?_; rintro e w2 ⟨rfl, rfl⟩)
    go_ret
    exact ⟨rfl, HB.out⟩
set_option maxRecDepth 100000 in
set_option maxHeartbeats 1000000 in
theorem eqMatrix_yes (p r c : Int) (A B : Option Addr) (n k m d : Nat) (xs : List Int) (w : World) (h1 : SI w A n xs) (k1 : SI w B m xs) (hn : xs.length ≤ 1099511627776) :
    Calls Try.prog 19 #[.agg #[.int .i64 p, .int .i64 r, .int .i64 c, .slice A n k], .agg #[.int .i64 p, .int .i64 r, .int .i64 c, .slice B m d]] w fun e w' => e = .returned (.bool true) ∧ Below w.heap.size w w' := by
  obtain ⟨w1, hw1⟩ : ∃ w1, w1 = (w.alloc (.cells #[.int .i64 p, .int .i64 r, .int .i64 c, .slice A n k] 27)).alloc (.cells #[.int .i64 p, .int .i64 r, .int .i64 c, .slice B m d] 27) := ⟨_, rfl⟩
  obtain ⟨g, hg⟩ : ∃ g, g = w.heap.size := ⟨_, rfl⟩
  have hk : Blk w1 g 27 #[.int .i64 p, .int .i64 r, .int .i64 c, .slice A n k] := by rw [hw1, hg]; exact (Blk.new _ _ _).alloc _
  have hk2 : Blk w1 (g + 1) 27 #[.int .i64 p, .int .i64 r, .int .i64 c, .slice B m d] := by
    rw [hw1, hg]
    have := Blk.new (w.alloc (.cells #[.int .i64 p, .int .i64 r, .int .i64 c, .slice A n k] 27)) 27 #[.int .i64 p, .int .i64 r, .int .i64 c, .slice B m d]
    simpa using this
  have hb : Below w.heap.size w w1 := by rw [hw1]; go_grown
  have HB := Lib.hid hb
  have HW := Lib.hid hw1
  have HG := Lib.hid hg
  have HS := Lib.hid (And.intro (h1.below hb (Nat.le_refl _)) (k1.below hb (Nat.le_refl _)))
  have HN := Lib.hid (show n ≤ 1099511627776 ∧ m ≤ 1099511627776 by have := h1.1; have := k1.1; omega)
  obtain ⟨q0, q1, q2, q3⟩ := cells4 hk
  obtain ⟨r0, r1, r2, r3⟩ := cells4 hk2
  clear hk hk2 hb hw1 hg h1 k1 hn
  go_enter Try.func19, Try.ntmps19
  go_upto_region 1 with fail
  rw [← HW.out, ← HG.out]
  go_wp2_with (first
    | (go_at_call 18
       refine (eqIntS_any _ _ _ _ _ _ xs xs _ HS.out.1 HS.out.2 HN.out.1 HN.out.2).mono ?_
       rintro e w2 ⟨rfl, hd⟩
       rw [eqL_self]
       have HD2 := Lib.hid hd
       clear hd))
  go_ret
  exact ⟨rfl, HB.out.trans (HD2.out.below _)⟩
set_option maxHeartbeats 1000000 in
theorem markMatrix_any (p r c : Int) (A : Option Addr) (n k lo hi : Nat) (xs : List Int) (q : Int) (w : World) (ho : Own w lo hi A n k xs) (hhi : hi ≤ w.heap.size) (hn : n ≤ 1099511627776) (hq : 0 ≤ q) (hq' : q ≤ 1099511627776) :
    Calls Try.prog 20 #[.agg #[.int .i64 p, .int .i64 r, .int .i64 c, .slice A n k], .int .i64 q] w fun e w' => e = .returned (.int .i64 (q + n)) ∧ Own w' lo hi A n k (marks n q) ∧ Within lo hi w w' := by
  obtain ⟨w1, hw1⟩ : ∃ w1, w1 = w.alloc (.cells #[.int .i64 p, .int .i64 r, .int .i64 c, .slice A n k] 27) := ⟨_, rfl⟩
  obtain ⟨g, hg⟩ : ∃ g, g = w.heap.size := ⟨_, rfl⟩
  have hk : Blk w1 g 27 #[.int .i64 p, .int .i64 r, .int .i64 c, .slice A n k] := by rw [hw1, hg]; exact Blk.new _ _ _
  have hb : Below w.heap.size w w1 := by rw [hw1]; exact Below.alloc_self _ _
  have HIN : Hid (Within lo hi w w1) := Lib.hid (Within.of_below_ hb)
  have HW := Lib.hid hw1
  have HG := Lib.hid hg
  have HO := Lib.hid (ho.below hb (by omega))
  obtain ⟨q0, q1, q2, q3⟩ := cells4 hk
  clear hk hb hw1 hg ho q0 q1 q2
  go_enter Try.func20, Try.ntmps20
  go_upto_region 1 with fail
  rw [← HW.out, ← HG.out]
  go_wp2_with (first
    | (go_at_call 21
       refine (markIntS_any _ _ _ lo hi xs q _ HO.out hn hq hq').mono ?_
       rintro e w2 ⟨rfl, ho, hgr⟩
       have HI2 : Hid (Within lo hi w w2) := Lib.hid (HIN.out.trans (Within.of_grown hgr (fun k e => HO.out.lt k e)))
       have HO2 := Lib.hid ho
       clear ho hgr))
  go_ret
  exact ⟨rfl, HO2.out, HI2.out⟩
set_option maxHeartbeats 1000000 in
theorem heldMatrix_yes (p r c : Int) (A : Option Addr) (n k : Nat) (q : Int) (w : World) (h : SI w A n (marks n q)) (hn : n ≤ 1099511627776) (hq : 0 ≤ q) (hq' : q ≤ 1099511627776) :
    Calls Try.prog 28 #[.agg #[.int .i64 p, .int .i64 r, .int .i64 c, .slice A n k], .int .i64 q] w fun e w' => e = .returned (.int .i64 (q + n)) ∧ Below w.heap.size w w' := by
  obtain ⟨w1, hw1⟩ : ∃ w1, w1 = w.alloc (.cells #[.int .i64 p, .int .i64 r, .int .i64 c, .slice A n k] 27) := ⟨_, rfl⟩
  obtain ⟨g, hg⟩ : ∃ g, g = w.heap.size := ⟨_, rfl⟩
  have hk : Blk w1 g 27 #[.int .i64 p, .int .i64 r, .int .i64 c, .slice A n k] := by rw [hw1, hg]; exact Blk.new _ _ _
  have hb : Below w.heap.size w w1 := by rw [hw1]; exact Below.alloc_self _ _
  have HB := Lib.hid hb
  have HW := Lib.hid hw1
  have HG := Lib.hid hg
  have HS := Lib.hid (h.below hb (Nat.le_refl _))
  obtain ⟨q0, q1, q2, q3⟩ := cells4 hk
  have e1 : ¬ q + (n : Int) < 0 := by omega
  clear hk hb hw1 hg h q0 q1 q2
  go_enter Try.func28, Try.ntmps28
  go_upto_region 1 with fail
  rw [← HW.out, ← HG.out]
  go_wp2_with (first
    | (go_at_call 22
       refine (heldIntS_yes _ _ _ q _ HS.out hn hq hq').mono ?_
       rintro e w2 ⟨rfl, hd⟩
       have HD2 := Lib.hid hd
       clear hd))
  go_ret
  exact ⟨rfl, HB.out.trans (HD2.out.below _)⟩
end Go.Proofs.Ytfaegfhbbkicgaa

/-
  Whether a matrix is one: both sides. Conditions: lengths below 2^40.
-/



namespace Go.Proofs.Ytfaegfhbbkicgaa
open Go.RowKit

instance P7.dec (p : Int) : Decidable (P7 p) := by unfold P7; exact inferInstance
def matP (p r c : Int) (xs : List Int) : Prop := P7 p ∧ (0 ≤ r ∧ r ≤ 7) ∧ (1 ≤ c ∧ c ≤ 7) ∧ (xs.length : Int) = r * c ∧ ∀ k, k < xs.length → 0 ≤ nth xs k ∧ nth xs k < p
instance matP.dec (p r c : Int) (xs : List Int) : Decidable (matP p r c xs) := by unfold matP; exact inferInstance
def matB (p r c : Int) (xs : List Int) : Bool := decide (matP p r c xs)
theorem matB_false {p r c : Int} {xs : List Int} (h : ¬ matP p r c xs) : matB p r c xs = false := decide_eq_false h
theorem matB_true {p r c : Int} {xs : List Int} (h : matP p r c xs) : matB p r c xs = true := decide_eq_true h
theorem matB_P {p r c : Int} {xs : List Int} (h : matB p r c xs = true) : matP p r c xs := of_decide_eq_true h
theorem mul_small {r c : Int} (hr : 0 ≤ r ∧ r ≤ 7) (hc : 0 ≤ c ∧ c ≤ 7) : 0 ≤ r * c ∧ r * c ≤ 49 := by
  have h1 : 0 ≤ r * c := Int.mul_nonneg hr.1 hc.1
  have h2 : r * c ≤ 7 * 7 := Int.mul_le_mul hr.2 hc.2 hc.1 (by decide)
  omega
theorem l7Prime_yes {p : Int} (h : P7 p) (w : World) : Calls Try.prog 78 #[.int .i64 p] w fun e w' => e = .returned (.bool true) ∧ w = w' := by
  rcases h with rfl | rfl | rfl | rfl <;>
  · go_enter Try.func78, Try.ntmps78
    go_wp2
    go_ret
    exact ⟨rfl, rfl⟩
theorem l7Prime_no {p : Int} (h : ¬ P7 p) (w : World) : Calls Try.prog 78 #[.int .i64 p] w fun e w' => e = .returned (.bool false) ∧ w = w' := by
  unfold P7 at h
  have h2 : (p == 2) = false := by simp; omega
  have h3 : (p == 3) = false := by simp; omega
  have h5 : (p == 5) = false := by simp; omega
  have h7 : (p == 7) = false := by simp; omega
  clear h
  go_enter Try.func78, Try.ntmps78
  go_wp2
  go_ret
  exact ⟨rfl, rfl⟩
theorem isModulus_yes {p : Int} (h : P7 p) (w : World) : Calls Try.prog 80 #[.int .i64 p] w fun e w' => e = .returned (.bool true) ∧ w = w' := by
  rcases h with rfl | rfl | rfl | rfl <;>
  · go_enter Try.func80, Try.ntmps80
    go_wp2
    go_ret
    exact ⟨rfl, rfl⟩
theorem isModulus_no {p : Int} (h : ¬ P7 p) (w : World) : Calls Try.prog 80 #[.int .i64 p] w fun e w' => e = .returned (.bool false) ∧ w = w' := by
  unfold P7 at h
  have h2 : (p == 2) = false := by simp; omega
  have h3 : (p == 3) = false := by simp; omega
  have h5 : (p == 5) = false := by simp; omega
  have h7 : (p == 7) = false := by simp; omega
  clear h
  go_enter Try.func80, Try.ntmps80
  go_wp2
  go_ret
  exact ⟨rfl, rfl⟩
theorem isNone_any (p x : Int) (g : Nat) (w : World) (hk : w.cell? ⟨g, 0, none⟩ = some (.int .i64 p)) :
    Calls Try.prog 180 #[.int .i64 x, .pointer (some ⟨g, 0, none⟩)] w fun e w' => e = .returned (.bool (decide (¬ (0 ≤ x ∧ x < p)))) ∧ w = w' := by
  by_cases h0 : x < 0
  · have HE : Hid (true = decide (¬ (0 ≤ x ∧ x < p))) := Lib.hid (decide_eq_true (by omega)).symm
    go_enter Try.func180, Try.ntmps180
    go_wp2
    go_ret
    first | exact ⟨ret_bool HE.out, rfl⟩ | exact ⟨rfl, rfl⟩
  · by_cases h1 : x ≥ p
    · have HE : Hid (true = decide (¬ (0 ≤ x ∧ x < p))) := Lib.hid (decide_eq_true (by omega)).symm
      go_enter Try.func180, Try.ntmps180
      go_wp2
      go_ret
      first | exact ⟨ret_bool HE.out, rfl⟩ | exact ⟨rfl, rfl⟩
    · have HE : Hid (false = decide (¬ (0 ≤ x ∧ x < p))) := Lib.hid (decide_eq_false (by omega)).symm
      go_enter Try.func180, Try.ntmps180
      go_wp2
      go_ret
      first | exact ⟨ret_bool HE.out, rfl⟩ | exact ⟨rfl, rfl⟩
set_option maxHeartbeats 800000 in
theorem indexNone_any (A : Option Addr) (n c : Nat) (xs : List Int) (p : Int) (g : Nat) (w : World) (hs : SI w A n xs) (hn : n ≤ 1099511627776) (hk : w.cell? ⟨g, 0, none⟩ = some (.int .i64 p)) :
    Calls Try.prog 138 #[.slice A n c, .func (.func 180) #[] #[.pointer (some ⟨g, 0, none⟩)]] w fun r w' =>
      ∃ i : Int, r = .returned (.int .i64 i) ∧ (i < 0 ∧ (∀ k, k < n → 0 ≤ nth xs k ∧ nth xs k < p) ∨ 0 ≤ i ∧ ∃ k, k < n ∧ ¬ (0 ≤ nth xs k ∧ nth xs k < p)) ∧ Drawn w w' := by
  have HF : Hid (∀ w', Drawn w w' → ∀ y, Calls Try.prog 180 #[.int .i64 y, .pointer (some ⟨g, 0, none⟩)] w' fun e w2 => e = .returned (.bool (decide (¬ (0 ≤ y ∧ y < p)))) ∧ w' = w2) := Lib.hid (fun w' hd y => isNone_any p y g w' (by obtain ⟨m, rfl⟩ := hd; exact hk))
  clear hk
  go_enter Try.func138, Try.ntmps138
  go_wp2
  go_loopw [8] (fun i wr => ∃ k : Nat, k ≤ n ∧ i = .int .i64 k ∧ Drawn w wr ∧ ∀ j, j < k → 0 ≤ nth xs j ∧ nth xs j < p)
    (fun i _ => n - (intOf i).toNat)
  case atStart => exact ⟨0, Nat.zero_le _, rfl, Drawn.refl _, fun j hj => absurd hj (by omega)⟩
  case round =>
    obtain ⟨k, hk, rfl, hD, hall⟩ := hrel
    have HA := Lib.hid hall
    have HDR := Lib.hid hD
    have hs := hD.si hs
    clear hall hD
    by_cases hlt : k < n
    · have hlI : (k : Int) < (n : Int) := by omega
      obtain ⟨b, o, rfl, hb, hc⟩ := hs.at_ (by omega)
      have hc1 := hc k hlt
      obtain ⟨y, hy⟩ : ∃ y, y = nth xs k := ⟨_, rfl⟩
      rw [← hy] at hc1
      have HY := Lib.hid hy
      clear hc hy hs
      by_cases hg : 0 ≤ y ∧ y < p
      · have HG := Lib.hid hg
        have HF2 := Lib.hid (HF.out wr HDR.out y)
        rw [decide_eq_false (fun h => h hg)] at HF2
        clear hg
        go_wp2_with (go_at_call 180; refine HF2.out.mono ?_; rintro r w2 ⟨rfl, rfl⟩)
        go_roundw
        case rel => exact ⟨k + 1, by omega, by go_num, HDR.out, fun j hj => by
          rcases Nat.lt_or_ge j k with h | h
          · exact HA.out j h
          · obtain rfl : j = k := by omega
            rw [← HY.out]; exact HG.out⟩
        case measure => simp [intOf]; omega
      · have HG := Lib.hid hg
        have HF2 := Lib.hid (HF.out wr HDR.out y)
        rw [decide_eq_true hg] at HF2
        clear hg
        go_wp2_with (go_at_call 180; refine HF2.out.mono ?_; rintro r w2 ⟨rfl, rfl⟩)
        go_ret
        exact ⟨(k : Int), rfl, .inr ⟨by omega, k, hlt, by rw [← HY.out]; exact HG.out⟩, HDR.out⟩
    · have hkn : k = n := by omega
      subst hkn
      go_wp2
      go_ret
      exact ⟨-1, rfl, .inl ⟨by omega, HA.out⟩, HDR.out⟩
set_option maxHeartbeats 400000 in
theorem containsNone_is (b : Bool) (A : Option Addr) (n c : Nat) (xs : List Int) (p : Int) (g : Nat) (w : World) (hs : SI w A n xs) (hn : n ≤ 1099511627776) (hk : w.cell? ⟨g, 0, none⟩ = some (.int .i64 p)) (hb : b = false ↔ ∀ k, k < n → 0 ≤ nth xs k ∧ nth xs k < p) :
    Calls Try.prog 87 #[.slice A n c, .func (.func 180) #[] #[.pointer (some ⟨g, 0, none⟩)]] w fun r w' => r = .returned (.bool b) ∧ Drawn w w' := by
  have HC := Lib.hid (indexNone_any A n c xs p g w hs hn hk)
  have HBB := Lib.hid hb
  clear hs hk hb
  go_enter Try.func87, Try.ntmps87
  go_wp2_with (go_at_call 138; refine HC.out.mono ?_; rintro r w2 ⟨i, rfl, hi, hd⟩; have HI := Lib.hid hi; have HD := Lib.hid hd; clear hi hd)
  go_ret
  refine ⟨ret_bool ?_, HD.out⟩
  rcases HI.out with ⟨h1, h2⟩ | ⟨h1, k, hk, h2⟩
  · rw [HBB.out.2 h2]
    simp only [decide_eq_false_iff_not]; omega
  · have hbt : b = true := by
      cases b with
      | true => rfl
      | false => exact absurd (HBB.out.1 rfl k hk) h2
    rw [hbt]
    simp only [decide_eq_true_eq]; omega
end Go.Proofs.Ytfaegfhbbkicgaa

/-
  CountSpaces on both sides. No conditions.
-/




namespace Go.Proofs.Ytfaegfhbbkicgaa
open Go.RowKit Go.Shelf

attribute [local go_sem] Oper.semAt_some

/-- What is summed up when the last t counts are in. -/
def cntT (p : Int) (L : List Int) : Nat → Int
  | 0 => 0
  | t + 1 => wrap64 (wrap64 (cntT p L t * p) + nth L (L.length - 1 - t))
open Classical in
noncomputable def cntS (p k m : Int) : Int := if P7 p ∧ boxB [] k m = true then cntT p (gauN k m) (gauN k m).length else -1
theorem cnt_no {p k m : Int} (h : ¬ (P7 p ∧ boxB [] k m = true)) : cntS p k m = -1 := by unfold cntS; rw [if_neg h]
theorem cnt_yes {p k m : Int} (h : P7 p) (h2 : boxB [] k m = true) : cntS p k m = cntT p (gauN k m) (gauN k m).length := by unfold cntS; rw [if_pos ⟨h, h2⟩]
theorem gau_pos {k m : Int} (h : boxB [] k m = true) : 0 < (gauN k m).length := by
  unfold gauN; rw [if_pos h, gauL_len]; omega
theorem implGauss_nil {k m : Int} (h : boxB [] k m = false) (w : World) :
    Calls Try.prog 79 #[.int .i64 k, .int .i64 m] w fun e w' => e = .returned (.slice none 0 0) ∧ w' = w := by
  have HI := Lib.hid (fun w' => isBox_any k m w')
  rw [← box_empty, h] at HI
  clear h
  go_enter Try.func79, Try.ntmps79
  go_wp2_with (go_at_call 99; refine (HI.out _).mono ?_; rintro e w2 ⟨rfl, rfl⟩)
  go_ret
  exact ⟨rfl, rfl⟩
set_option maxRecDepth 100000 in
set_option maxHeartbeats 2000000 in
theorem specCount_any (p k m : Int) (w : World) :
    Calls Try.prog 29 #[.int .i64 p, .int .i64 k, .int .i64 m] w fun e w' => e = .returned (.int .i64 (cntS p k m)) ∧ Below w.heap.size w w' := by
  have HG := Lib.hid (specGauss_any k m w)
  by_cases hp : P7 p
  · have HP := Lib.hid (fun u => l7Prime_yes hp u)
    cases hu : boxB [] k m with
    | false =>
      have HE := Lib.hid (cnt_no (p := p) (k := k) (m := m) (fun h => by rw [hu] at h; exact absurd h.2 (by decide)))
      have HN := Lib.hid (gau_no hu)
      rw [HE.out]
      rw [HN.out] at HG
      clear hp hu
      go_enter Try.func29, Try.ntmps29
      go_wp2_with (first
        | (go_at_call 77; refine HG.out.mono ?_; rintro e w2 ⟨A, n, c, rfl, ho, hb⟩; have HB := Lib.hid hb; obtain rfl : n = 0 := ho.len.symm; clear ho hb)
        | (go_at_call 78; refine (HP.out _).mono ?_; rintro e w3 ⟨rfl, rfl⟩))
      go_ret
      exact ⟨rfl, HB.out⟩
    | true =>
      have HE := Lib.hid (cnt_yes hp hu)
      rw [HE.out]
      have hpos := gau_pos hu
      have hsm := gau_small k m
      obtain ⟨L, hL⟩ : ∃ L, L = gauN k m := ⟨_, rfl⟩
      rw [← hL] at HG hpos hsm ⊢
      clear hp hu hL
      go_enter Try.func29, Try.ntmps29
      obtain ⟨N, hN⟩ : ∃ N, N = L.length := ⟨_, rfl⟩
      have hN0 : ¬ ((N : Int) == 0) = true := by simp; omega
      have hN0' : ((N : Int) == 0) = false := by simp; omega
      have hwn : IntKind.i64.wrap ((N : Int) - 1) = (N : Int) - 1 := IntWalk.i64_in _ (by omega)
      have HN := Lib.hid hN
      rw [← hN] at hpos hsm ⊢
      clear hN
      go_wp2_with (first
        | (go_at_call 77; refine HG.out.mono ?_; rintro e w2 ⟨A, n, c, rfl, ho, hb⟩; have HB := Lib.hid hb; have hnn : n = N := (by have h1 := ho.len; have h2 := HN.out; omega); subst hnn; have HO := Lib.hid ho; clear ho hb)
        | (go_at_call 78; refine (HP.out _).mono ?_; rintro e w3 ⟨rfl, rfl⟩))
      go_loopw [8, 9] (fun xv iv wr => ∃ t : Nat, t ≤ n ∧ iv = .int .i64 ((n : Int) - 1 - (t : Int)) ∧ xv = .int .i64 (cntT p L t) ∧ wr = w2)
        (fun _ iv _ => (intOf iv + 1).toNat)
      case atStart => exact ⟨0, Nat.zero_le _, by simp, rfl, rfl⟩
      case round =>
        obtain ⟨t, ht, rfl, rfl, rfl⟩ := hrel
        by_cases hlt : t < n
        · obtain ⟨q, hq⟩ : ∃ q : Nat, q = n - 1 - t := ⟨_, rfl⟩
          have hqI : (n : Int) - 1 - (t : Int) = (q : Int) := by omega
          rw [hqI]
          obtain ⟨g, rfl, _⟩ := HO.out.place hpos
          have hcx := HO.out.cellAt (k := q) (by omega)
          have HST : Hid (cntT p L (t + 1) = wrap64 (wrap64 (cntT p L t * p) + nth L q)) := Lib.hid (by show wrap64 (wrap64 (cntT p L t * p) + nth L (L.length - 1 - t)) = _; rw [← HN.out, ← hq])
          obtain ⟨x, hx⟩ : ∃ x, x = nth L q := ⟨_, rfl⟩
          rw [← hx] at hcx HST
          obtain ⟨s, hs⟩ : ∃ s, s = cntT p L t := ⟨_, rfl⟩
          rw [← hs] at HST ⊢
          have hw1 : IntKind.i64.wrap ((q : Int) - 1) = (q : Int) - 1 := IntWalk.i64_in _ (by omega)
          have hql : (q : Int) < (n : Int) := by omega
          have HQ := Lib.hid hqI
          have hqn : q < n := by omega
          clear hq hqI hx hs
          go_wp2
          go_roundw
          case rel => exact ⟨t + 1, by omega, by have := HQ.out; simp; omega, by rw [HST.out], by first | rfl | trivial⟩
          case measure => simp [intOf] <;> omega
        · obtain rfl : t = n := by omega
          have hneg : (t : Int) - 1 - (t : Int) = -1 := by omega
          rw [hneg]
          go_wp2
          go_ret
          exact ⟨rfl, HB.out⟩
  · have HP := Lib.hid (fun u => l7Prime_no hp u)
    have HE := Lib.hid (cnt_no (p := p) (k := k) (m := m) (fun h => hp h.1))
    rw [HE.out]
    clear hp
    go_enter Try.func29, Try.ntmps29
    go_wp2_with (first
      | (go_at_call 77; refine HG.out.mono ?_; rintro e w2 ⟨A, n, c, rfl, ho, hb⟩; have HB := Lib.hid hb; clear ho hb)
      | (go_at_call 78; refine (HP.out _).mono ?_; rintro e w3 ⟨rfl, rfl⟩))
    go_ret
    exact ⟨rfl, HB.out⟩
end Go.Proofs.Ytfaegfhbbkicgaa

/-
  CountSpaces on the program's side. No conditions.
-/

namespace Go.Proofs.Ytfaegfhbbkicgaa
open Go.RowKit Go.Shelf

attribute [local go_sem] Oper.semAt_some

/-- The sum of what has come. -/
def cntU (p : Int) (ys : List (Nat × Int)) : Int := ys.foldl (fun s y => wrap64 (wrap64 (s * p) + y.2)) 0
theorem cntU_snoc (p : Int) (ys : List (Nat × Int)) (y : Nat × Int) : cntU p (ys ++ [y]) = wrap64 (wrap64 (cntU p ys * p) + y.2) := by simp [cntU]
theorem cntU_all (p : Int) (L : List Int) : ∀ t, cntU p (bkU L t) = cntT p L t
  | 0 => rfl
  | t + 1 => by rw [bkU_succ, cntU_snoc, cntU_all p L t]; rfl
set_option maxRecDepth 100000 in
set_option maxHeartbeats 4000000 in
theorem implCount_yes (p k m : Int) (w : World) (hp : P7 p) (hu : boxB [] k m = true) :
    Calls Try.prog 30 #[.int .i64 p, .int .i64 k, .int .i64 m] w fun e w' => e = .returned (.int .i64 (cntS p k m)) ∧ Below w.heap.size w w' := by
  rw [cnt_yes hp hu]
  have hpos := gau_pos hu
  have hsm := gau_small k m
  obtain ⟨F, hF⟩ : ∃ F, F = Fence.wide := ⟨_, rfl⟩
  have h1 : F.fn 79 := by rw [hF]; trivial
  have h2 : F.fn 80 := by rw [hF]; trivial
  have h3 : F.fn 81 := by rw [hF]; trivial
  have h4 : F.fn 146 := by rw [hF]; trivial
  have h5 : F.fn 30 := by rw [hF]; trivial
  have hro : F.round = none := by rw [hF]; rfl
  have HG := Lib.hid (fun u (N : Nat) => (callsIn_wide (n := N)).2 (implGauss_any k m u))
  have HP := Lib.hid (fun u (N : Nat) => (callsIn_wide (n := N)).2 (isModulus_yes hp u))
  refine (callsIn_wide (n := 10)).1 ?_
  rw [← hF] at HG HP ⊢
  obtain ⟨L, hL⟩ : ∃ L, L = gauN k m := ⟨_, rfl⟩
  rw [← hL] at HG hpos hsm ⊢
  clear hp hu hL hF
  refine callsIn_of_wp_marks Try.func30 rfl h5 ?_ hro
  simp only [Try.ntmps30, List.size_toArray, List.length_cons, List.length_nil, Nat.reduceAdd, Nat.reduceSub, Array.replicate_succ, Array.replicate_zero, List.push_toArray, List.append_toArray, List.nil_append, List.cons_append]
  gi_wp2_with (first
    | (gi_at_call 79
       refine (HG.out _ _).mono ?_
       rintro e w2 ⟨A, n, c, rfl, ho, hb⟩
       have HO := Lib.hid ho
       have HB := Lib.hid hb
       have HN : Hid (L.length = n) := Lib.hid ho.len
       obtain ⟨gq, rfl, hq1, hq2⟩ := ho.place (by rw [← ho.len]; exact hpos)
       have c0 : w2.cell? ⟨w.heap.size, 0, none⟩ = some (.int .i64 p) := (hb.cell (p := ⟨w.heap.size, 0, none⟩) (by show w.heap.size < _; simp)).trans (Boxed.new w 3 (.int .i64 p)).cell
       have hq : ∀ u, (binOp .eql 22 (.slice (some ⟨gq, 0, none⟩) n c) (.slice none 0 0)).run Try.prog u = .ok (.bool false) u := fun u => eql_some _ _ _ u
       clear ho hb)
    | (gi_at_call 80
       refine (HP.out _ _).mono ?_
       rintro e w3 ⟨rfl, rfl⟩)
    | (gi_at_call 81
       refine (bkw_in F _ h3 hro _ _ _ _).mono ?_
       rintro e w' ⟨rfl, rfl⟩))
  have hnl : n ≤ 1099511627776 := by have := HN.out; omega
  have hb1 : Below w.heap.size w w2 := by
    have h6 : Below w.heap.size w (w.alloc (.cells #[.int .i64 p] 3)) := Below.alloc_self _ _
    exact h6.trans (HB.out.mono (by simp))
  have hz : w.heap.size < w2.heap.size := Nat.lt_of_lt_of_le (by simp) HB.out.size
  have bS := Boxed.new w2 3 (.int .i64 0)
  have bN := Boxed.new (w2.alloc (.cells #[.int .i64 0] 3)) 22 (.slice (some ⟨gq, 0, none⟩) n c)
  rw [World.size_alloc] at bN
  have hB2 : Below w2.heap.size w2 ((w2.alloc (.cells #[.int .i64 0] 3)).alloc (.cells #[.slice (some ⟨gq, 0, none⟩) n c] 22)) := ((Below.refl _ w2).alloc (Nat.le_refl _) _).alloc (by simp) _
  have hB0 : Below w.heap.size w ((w2.alloc (.cells #[.int .i64 0] 3)).alloc (.cells #[.slice (some ⟨gq, 0, none⟩) n c] 22)) := hb1.trans (hB2.mono (Nat.le_of_lt hz))
  refine wpIn_rangeFunc_ownG hro (by omega) (gf := 146) (lb := #[.pointer (some ⟨w2.heap.size + 1, 0, none⟩)]) rfl h4 (enters_of Try.func146 (by kernel_rfl) rfl)
    (bkw_stops F _ h4 hro (by omega) (w2.heap.size + 1) gq 0 n c L HN.out hnl _ (by simp) (by simp; omega) bN.cell (fun j hj => by rw [Nat.zero_add]; exact (hB2.cell (p := ⟨gq, j, none⟩) hq2).trans (HO.out.cellAt hj))) KpS.trans (KpS.put (by simp) (by simp; omega)) (Below.refl _ _) (fun _ => rfl)
    (fun pre W => (W.cell? ⟨w2.heap.size, 0, none⟩ = some (.int .i64 (cntU p pre)) ∧ W.frozen? ⟨w2.heap.size, 0, none⟩ = false ∧ W.cell? ⟨w.heap.size, 0, none⟩ = some (.int .i64 p) ∧ w2.heap.size + 2 ≤ W.heap.size) ∧ Below w.heap.size w W)
    (fun _ _ _ => False)
    (OwnFrom.and (Own.from (fun s A B row hs hg hr => ⟨cell_kept hs.1 hg hr, (frozen_kept hs.1 hg hr).trans hs.2.1, cell_kept hs.2.2.1 hg hr, Nat.le_trans hs.2.2.2 hg.size⟩) _) (ownFrom_below (Nat.le_refl _) (by simp; omega)))
    (fun _ _ _ _ _ hs _ _ => hs)
    ⟨⟨(bS.alloc _).cell, (bS.alloc _).frozen, (hB2.cell (p := ⟨w.heap.size, 0, none⟩) hz).trans c0, by simp⟩, hB0⟩
    (fun x => { tmps := #[.int .i64 p, .int .i64 k, .int .i64 m, .pointer (some ⟨w.heap.size, 0, none⟩), undef, undef, .int .i64 0, .slice (some ⟨gq, 0, none⟩) n c, .pointer (some ⟨w2.heap.size, 0, none⟩), undef, .int .i64 x.2, .int .i64 k, .int .i64 m, .slice (some ⟨gq, 0, none⟩) n c, .int .i64 p, .bool true, .bool false, .bool false, .slice (some ⟨gq, 0, none⟩) n c, .bool false, .bool false, .slice (some ⟨gq, 0, none⟩) n c, .func (.func 146) #[] #[.pointer (some ⟨w2.heap.size + 1, 0, none⟩)], .int .i64 (x.1 : Int), .int .i64 x.2, undef, undef, undef, undef, undef, undef], defers := [] }) ?assign ?body ?done ?stop
  case assign =>
    intro l x W K hK
    gi_wp2
    exact hK
  case body =>
    rintro l pre x W ⟨⟨hc, hf, hcp, hsz⟩, hBW⟩ _
    gi_wp2
    have hg := grown_setP W ⟨w2.heap.size, 0, none⟩ (.int .i64 (wrap64 (wrap64 (cntU p pre * p) + x.2)))
    exact ⟨(KeepsOthers.setCell _ _ _).from _, ⟨hg.block _ (by omega) (fun e => by injection e with e; simp at e), hg.block _ (by omega) (fun e => by injection e with e; simp at e; omega)⟩,
      ⟨by rw [cntU_snoc]; exact World.cell?_setCell_same' _ _ _ (by rw [hc]; rfl), by rw [World.frozen?_setCell]; exact hf,
        (World.cell?_of_block (a := ⟨w.heap.size, 0, none⟩) (hg.block _ (by show w.heap.size < _; omega) (fun e => by injection e with e; simp at e; omega))).trans hcp, Nat.le_trans hsz hg.size⟩, hBW.setCell (p := ⟨w2.heap.size, 0, none⟩) (Nat.le_of_lt hz) _⟩
  case done =>
    rintro D ys W hD rfl ⟨⟨hc, _⟩, hBW⟩ hK
    rw [cntU_all] at hc
    have HN' := HN.out
    gi_wp2
    refine ⟨by simp, .inl ⟨_, _, rfl, run_takeDeferred hK, ?_⟩⟩
    exact ⟨_, results_tmp rfl _ _ _, by rw [HN']; rfl, hBW.trans (belowK_b (w := w) (Nat.le_refl _) W D _ _ (by simp at hD; omega) hK rfl rfl)⟩
  case stop =>
    rintro D c pre W _ _ h _
    exact h.elim
set_option maxRecDepth 100000 in
set_option maxHeartbeats 2000000 in
theorem implCount_any (p k m : Int) (w : World) :
    Calls Try.prog 30 #[.int .i64 p, .int .i64 k, .int .i64 m] w fun e w' => e = .returned (.int .i64 (cntS p k m)) ∧ Below w.heap.size w w' := by
  by_cases hp : P7 p
  · cases hu : boxB [] k m with
    | true => exact implCount_yes p k m w hp hu
    | false =>
      have HG := Lib.hid (fun u => implGauss_nil hu u)
      have HP := Lib.hid (fun u => isModulus_yes hp u)
      have HE := Lib.hid (cnt_no (p := p) (k := k) (m := m) (fun h => by rw [hu] at h; exact absurd h.2 (by decide)))
      rw [HE.out]
      have hq := eql_nil
      clear hp hu
      go_enter Try.func30, Try.ntmps30
      go_wp2_with (first
        | (go_at_call 79; refine (HG.out _).mono ?_; rintro e w2 ⟨rfl, rfl⟩)
        | (go_at_call 80; refine (HP.out _).mono ?_; rintro e w3 ⟨rfl, rfl⟩))
      go_ret
      exact ⟨rfl, Below.alloc_self _ _⟩
  · have HG := Lib.hid (fun u => implGauss_any k m u)
    have HP := Lib.hid (fun u => isModulus_no hp u)
    have HE := Lib.hid (cnt_no (p := p) (k := k) (m := m) (fun h => hp h.1))
    rw [HE.out]
    clear hp
    go_enter Try.func30, Try.ntmps30
    go_wp2_with (first
      | (go_at_call 79; refine (HG.out _).mono ?_; rintro e w2 ⟨A, n, c, rfl, ho, hb⟩; have HB := Lib.hid hb
         have c0 : w2.cell? ⟨w.heap.size, 0, none⟩ = some (.int .i64 p) := (hb.cell (p := ⟨w.heap.size, 0, none⟩) (by show w.heap.size < _; simp)).trans (Boxed.new w 3 (.int .i64 p)).cell
         clear ho hb)
      | (go_at_call 80; refine (HP.out _).mono ?_; rintro e w3 ⟨rfl, rfl⟩))
    go_ret
    have h6 : Below w.heap.size w (w.alloc (.cells #[.int .i64 p] 3)) := Below.alloc_self _ _
    exact ⟨rfl, h6.trans (HB.out.mono (by simp))⟩
end Go.Proofs.Ytfaegfhbbkicgaa

/-
  Opening a slice of integers that came in; closed facts of this dump. No conditions.
-/




namespace Go.Proofs.Ytfaegfhbbkicgaa
open Go.ChangeShapes Go.WideShapes Go.ChangeAt Go.RowKit

theorem own : ownKnob Try.prog.godebug = none := by kernel_rfl
theorem laidOut : laidOutB Try.prog = true := by kernel_rfl

/-- What an opened slice of integers gives: it reads as its numbers. -/
theorem SI.of_cells {w : World} {a : Addr} {n : Nat} {zs : List Int} (hl : n ≤ zs.length) (hc : ∀ i, i < zs.length → w.cell? (a.add i) = some (.int .i64 (zs.getD i 0))) : SI w (some a) n (zs.take n) := by
  refine ⟨by simp; omega, fun hn => ?_⟩
  obtain ⟨b, o, s⟩ := a
  have h0 := hc 0 (by omega)
  have hs : s = none := by simpa [Addr.add] using World.cell?_spot h0
  subst hs
  refine ⟨b, o, rfl, block_lt_of_cell (a := ⟨b, o, none⟩) (by simpa [Addr.add] using h0), fun k hk => ?_⟩
  rw [nth_take hk, ← add_pt]
  exact hc k (by omega)

/-- Every number fits an int. -/
def Fits (xs : List Int) : Prop := ∀ x ∈ xs, -9223372036854775808 ≤ x ∧ x ≤ 9223372036854775807
theorem SI.of_trod {H : Type} {enc : TypeId × Value → H} {W : World} {q : Nat} {f : Nat → Bool} {a0 : Option Addr} {len0 cap0 : Nat} {d : DataW H} {p : List MemPlace}
    (h0 : DataW.Trod enc Try.prog W q f true 22 (.slice a0 len0 cap0) d p) : ∃ xs, SI W a0 len0 xs ∧ Fits xs := by
  obtain ⟨fuel, hf⟩ := h0
  rcases open_ints Try.underlying22 Try.underlying3 (by kernel_rfl) hf with ⟨hcs, _⟩ | ⟨x, l, c, zs, hcs, _, hl, hm, hz, _, hcell, hwz⟩
  · simp [Value.cells] at hcs
    obtain ⟨rfl, rfl, rfl⟩ := hcs
    exact ⟨[], SI.nil _ _, fun x hx => by cases hx⟩
  · simp [Value.cells] at hcs
    obtain ⟨rfl, rfl, rfl⟩ := hcs
    exact ⟨_, SI.of_cells (by rw [hz]; split <;> omega) hcell, fun n hn => bounds_i64 (hwz n (List.mem_of_mem_take hn))⟩
end Go.Proofs.Ytfaegfhbbkicgaa
