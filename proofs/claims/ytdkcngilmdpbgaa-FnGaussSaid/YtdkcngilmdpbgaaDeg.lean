/-
  Whether a shape is in a box, and the degree of a box: the standard tableaux of the shape that fills it, on both sides. Conditions: lengths below 2^40.
-/
import Derived.Test.YtdkcngilmdpbgaaDual
import Derived.Test.YtdkcngilmdpbgaaStd
namespace Go.Proofs.Ytdkcngilmdpbgaa
open Go.RowKit

theorem specInBox_any (A : Option Addr) (n c : Nat) (xs : List Int) (k m : Int) (w : World) (hs : SI w A n xs) (hn : n ≤ 1099511627776) :
    Calls Try.prog 15 #[.slice A n c, .int .i64 k, .int .i64 m] w fun e w' => e = .returned (.bool (boxB xs k m)) ∧ Drawn w w' := by
  have HI := Lib.hid (l4Box_any A n c xs k m w hs hn)
  generalize boxB xs k m = z at HI ⊢
  clear hs
  go_enter Try.func15, Try.ntmps15
  go_wp2_with (go_at_call 63; refine HI.out.mono ?_; rintro e w1 ⟨rfl, hd1⟩; have HD1 := Lib.hid hd1; clear hd1)
  go_ret
  exact ⟨rfl, HD1.out⟩
theorem implInBox_any (A : Option Addr) (n c : Nat) (xs : List Int) (k m : Int) (w : World) (hs : SI w A n xs) (hn : n ≤ 1099511627776) :
    Calls Try.prog 17 #[.slice A n c, .int .i64 k, .int .i64 m] w fun e w' => e = .returned (.bool (boxB xs k m)) ∧ Drawn w w' := by
  have HI := Lib.hid (fitsInto_any A n c xs k m w hs hn)
  generalize boxB xs k m = z at HI ⊢
  clear hs
  go_enter Try.func17, Try.ntmps17
  go_wp2_with (go_at_call 64; refine HI.out.mono ?_; rintro e w1 ⟨rfl, hd1⟩; have HD1 := Lib.hid hd1; clear hd1)
  go_ret
  exact ⟨rfl, HD1.out⟩
/-- What DegreeOfGr answers. -/
def degN (k m : Int) : Int := if boxB [] k m = true then stdCount (duaS [] k m) else -1
theorem deg_no {k m : Int} (h : boxB [] k m = false) : degN k m = -1 := by unfold degN; rw [if_neg (by rw [h]; decide)]
theorem deg_yes {k m : Int} (h : boxB [] k m = true) : degN k m = stdCount (duaS [] k m) := by unfold degN; rw [if_pos h]
theorem SI.none (w : World) : SI w none 0 [] := ⟨rfl, fun h => absurd h (by omega)⟩
theorem box_empty (k m : Int) : boxB [] k m = decide (1 ≤ m ∧ m ≤ 7 ∧ 0 ≤ k ∧ k ≤ m) := by
  cases hu : boxB [] k m with
  | true => have h := boxB_P hu; rw [decide_eq_true ⟨h.1, h.2.1, h.2.2.1, h.2.2.2.1⟩]
  | false =>
    rw [decide_eq_false]
    intro h
    have : boxP [] k m := ⟨h.1, h.2.1, h.2.2.1, h.2.2.2, ⟨by simp, fun j hj => absurd hj (by simp)⟩, by simp; omega, by
      rw [nth_out (by simp)]; omega⟩
    rw [boxB_true this] at hu; cases hu
theorem duaS_len (k m : Int) : (duaS [] k m).length ≤ 1099511627776 := Nat.le_trans (duaS_small [] k m) (by decide)
set_option maxHeartbeats 800000 in
theorem specDeg_any (k m : Int) (w : World) :
    Calls Try.prog 30 #[.int .i64 k, .int .i64 m] w fun e w' => e = .returned (.int .i64 (degN k m)) ∧ Below w.heap.size w w' := by
  obtain ⟨w1, hw1⟩ : ∃ w1, w1 = w.alloc (.cells #[] 3) := ⟨_, rfl⟩
  have HW1 := Lib.hid hw1
  have HB1 : Hid (Below w.heap.size w w1) := Lib.hid (by rw [hw1]; exact Below.alloc_self _ _)
  have HI := Lib.hid (fun A c w' => l4Box_any A 0 c [] k m w' ⟨rfl, fun h => absurd h (by omega)⟩ (by omega))
  clear hw1
  cases hu : boxB [] k m with
  | false =>
    rw [hu] at HI
    have HE := Lib.hid (deg_no hu)
    clear hu
    go_enter Try.func30, Try.ntmps30
    go_wp2_with (go_at_call 63; refine (HI.out _ _ _).mono ?_; rintro e w2 ⟨rfl, hd2⟩; have HB2 : Hid (Below w.heap.size w w2) := Lib.hid ((Below.alloc_self w _).trans (hd2.below _)); clear hd2)
    go_ret
    rw [HE.out]
    exact ⟨rfl, HB2.out⟩
  | true =>
    rw [hu] at HI
    have HE := Lib.hid (deg_yes hu)
    have hlen := duaS_len k m
    have HD := Lib.hid (fun A c w' => specDual_any A 0 c [] k m w' ⟨rfl, fun h => absurd h (by omega)⟩ (by omega))
    generalize duaS [] k m = ys at HD HE hlen
    have HY := Lib.hid hlen
    clear hu hlen
    go_enter Try.func30, Try.ntmps30
    go_wp2_with (first
      | (go_at_call 63; refine (HI.out _ _ _).mono ?_; rintro e w2 ⟨rfl, hd2⟩; have HB2 : Hid (Below w.heap.size w w2) := Lib.hid ((Below.alloc_self w _).trans (hd2.below _)); clear hd2)
      | (go_at_call 19; refine (HD.out _ _ _).mono ?_; rintro e w3 ⟨A3, n3, c3, rfl, ho3, hb3⟩
         have HB3 : Hid (Below w.heap.size w w3) := Lib.hid ((HB2.out.alloc HB2.out.size _).trans (hb3.mono (HB2.out.alloc HB2.out.size _).size))
         have HS := Lib.hid (specStd_any A3 n3 c3 ys w3 ho3.si (by have := ho3.len; have := HY.out; omega))
         clear ho3 hb3)
      | (go_at_call 79; refine HS.out.mono ?_; rintro e w4 ⟨rfl, hb4⟩; have HB4 : Hid (Below w.heap.size w w4) := Lib.hid (HB3.out.trans (hb4.mono HB3.out.size)); clear hb4))
    go_ret
    rw [HE.out]
    exact ⟨rfl, HB4.out⟩
theorem fullShape_any (k m : Int) (w : World) :
    Calls Try.prog 80 #[.int .i64 k, .int .i64 m] w fun e w' => Fresh w w' e (duaS [] k m) := by
  have HD := Lib.hid (fun w' => implDual_any none 0 0 [] k m w' (SI.none _) (by omega))
  generalize duaS [] k m = ys at HD ⊢
  go_enter Try.func80, Try.ntmps80
  go_wp2_with (go_at_call 20; refine (HD.out _).mono ?_; rintro e w3 ⟨A3, n3, c3, rfl, ho3, hb3⟩; have HO3 := Lib.hid ho3; have HB3 := Lib.hid hb3; clear ho3 hb3)
  go_ret
  exact ⟨A3, n3, c3, rfl, HO3.out, HB3.out⟩
set_option maxHeartbeats 800000 in
theorem implDeg_any (k m : Int) (w : World) :
    Calls Try.prog 31 #[.int .i64 k, .int .i64 m] w fun e w' => e = .returned (.int .i64 (degN k m)) ∧ Below w.heap.size w w' := by
  have HI := Lib.hid (fun w' => isBox_any k m w')
  rw [← box_empty] at HI
  cases hu : boxB [] k m with
  | false =>
    rw [hu] at HI
    have HE := Lib.hid (deg_no hu)
    clear hu
    go_enter Try.func31, Try.ntmps31
    go_wp2_with (go_at_call 73; refine (HI.out _).mono ?_; rintro e w2 ⟨rfl, rfl⟩)
    go_ret
    rw [HE.out]
    exact ⟨rfl, Below.refl _ _⟩
  | true =>
    rw [hu] at HI
    have HE := Lib.hid (deg_yes hu)
    have hlen := duaS_len k m
    have HD := Lib.hid (fun w' => fullShape_any k m w')
    generalize duaS [] k m = ys at HD HE hlen
    have HY := Lib.hid hlen
    clear hu hlen
    go_enter Try.func31, Try.ntmps31
    go_wp2_with (first
      | (go_at_call 73; refine (HI.out _).mono ?_; rintro e w2 ⟨rfl, rfl⟩)
      | (go_at_call 80; refine (HD.out _).mono ?_; rintro e w3 ⟨A3, n3, c3, rfl, ho3, hb3⟩
         have HB3 := Lib.hid hb3
         have HS := Lib.hid (implStd_any A3 n3 c3 ys w3 ho3.si (by have := ho3.len; have := HY.out; omega))
         clear ho3 hb3)
      | (go_at_call 52; refine HS.out.mono ?_; rintro e w4 ⟨rfl, hb4⟩; have HB4 : Hid (Below w.heap.size w w4) := Lib.hid (HB3.out.trans (hb4.mono HB3.out.size)); clear hb4))
    go_ret
    rw [HE.out]
    exact ⟨rfl, HB4.out⟩
end Go.Proofs.Ytdkcngilmdpbgaa
