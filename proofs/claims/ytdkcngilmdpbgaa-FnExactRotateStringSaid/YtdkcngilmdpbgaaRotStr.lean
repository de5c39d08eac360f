/-
  A string turned: its last number in front, on both sides. Conditions: lengths below 2^40.
-/
import Derived.Test.YtdkcngilmdpbgaaStrI
import Derived.Test.YtdkcngilmdpbgaaStrS
import Derived.Test.YtdkcngilmdpbgaaCat
import Derived.Test.YtdkcngilmdpbgaaApp
import Derived.StillTailTactics
import Derived.BigRegion
import Derived.Deep.RegionHeld3
namespace Go.Proofs.Ytdkcngilmdpbgaa
open Go.RowKit

/-- What RotateString answers. -/
def rotL (xs : List Int) : List Int := if strB xs = true then nth xs (xs.length - 1) :: xs.take (xs.length - 1) else []
theorem rotL_no {xs : List Int} (h : strB xs = false) : rotL xs = [] := by unfold rotL; rw [if_neg (by rw [h]; decide)]
theorem rotL_yes {xs : List Int} (h : strB xs = true) : rotL xs = [nth xs (xs.length - 1)] ++ xs.take (xs.length - 1) := by unfold rotL; rw [if_pos h]; rfl
theorem rotL_small (xs : List Int) : (rotL xs).length ≤ 1099511627775 := by
  unfold rotL
  split
  · rename_i h
    have := (strB_P h).2.1
    rw [List.length_cons, List.length_take]
    omega
  · simp
theorem SI.drop {w : World} {b o n : Nat} {xs : List Int} (h : SI w (some ⟨b, o, none⟩) n xs) {k : Nat} (hk : k < n) : SI w (some ⟨b, o + k, none⟩) (n - k) (xs.drop k) := by
  refine ⟨by rw [List.length_drop, h.1], fun hn => ?_⟩
  obtain ⟨b', o', e, hb, hc⟩ := h.2 (by omega)
  simp only [Option.some.injEq, Addr.mk.injEq] at e
  obtain ⟨rfl, rfl, _⟩ := e
  refine ⟨b, o + k, rfl, hb, fun j hj => ?_⟩
  have := hc (k + j) (by omega)
  rw [show o + k + j = o + (k + j) by omega, this]
  congr 2
  unfold nth
  rw [List.getD_eq_getElem?_getD, List.getD_eq_getElem?_getD, List.getElem?_drop]
set_option maxRecDepth 100000 in
set_option maxHeartbeats 1600000 in
theorem specRot_any (A : Option Addr) (n c : Nat) (xs : List Int) (w : World) (hs : SI w A n xs) (hnc : n ≤ c) (hn : n ≤ 1099511627776) :
    Calls Try.prog 28 #[.slice A n c] w fun e w' => Fresh w w' e (rotL xs) := by
  have HI := Lib.hid (specIsString_any A n c xs w hs hn)
  cases hu : strB xs with
  | false =>
    rw [hu] at HI
    have HE := Lib.hid (rotL_no hu)
    clear hu hs
    go_enter Try.func28, Try.ntmps28
    go_wp2_with (go_at_call 76; refine HI.out.mono ?_; rintro e w1 ⟨rfl, hd1⟩; have HB1 := Lib.hid (hd1.below w.heap.size); clear hd1)
    go_ret
    rw [HE.out]
    exact Fresh.nil_ret' HB1.out
  | true =>
    rw [hu] at HI
    have hp := strB_P hu
    have hl := hs.1
    have HE := Lib.hid (rotL_yes hu)
    have hn7 : n ≤ 7 := by have := hp.2.1; omega
    have hn1 : 1 ≤ n := by have := hp.1; omega
    obtain ⟨q, hq⟩ : ∃ q, q = n - 1 := ⟨_, rfl⟩
    rw [hl, ← hq] at HE
    obtain ⟨b, o, rfl, hb, hc⟩ := hs.at_ (by omega)
    have hc1 := hc q (by omega)
    obtain ⟨x, hx⟩ : ∃ x, x = nth xs q := ⟨_, rfl⟩
    rw [← hx] at hc1 HE
    have HC := Lib.hid hc1
    have HS := Lib.hid (hs.take (k := q) (by omega))
    have HBL := Lib.hid hb
    have hwq : IntKind.i64.wrap ((n : Int) - 1) = (q : Int) := by rw [show (n : Int) - 1 = (q : Int) by omega]; exact IntWalk.i64_in _ (by omega)
    have hqn : (q : Int) < (n : Int) := by omega
    have hqn2 : (q : Int) ≤ (n : Int) := by omega
    have hqc : (q : Int) ≤ (c : Int) := by omega
    have hq0 : (0 : Int) ≤ (q : Int) := by omega
    have hcq : ¬ c = q := by omega
    have hnq1 : n - q = 1 := by omega
    have HQ := Lib.hid hq
    clear hu hs hp hc hx hc1 hl hq
    go_enter Try.func28, Try.ntmps28
    go_wp2_with (go_at_call 76; refine HI.out.mono ?_; rintro e w1 ⟨rfl, hd1⟩; have HD1 := Lib.hid hd1; clear hd1)
    have q0 : w1.cell? ⟨b, o + q, none⟩ = some (.int .i64 x) := (Below.cell (HD1.out.below w.heap.size) (p := ⟨b, o + q, none⟩) HBL.out).trans HC.out
    have hB2 : Below w.heap.size w (w1.drew.alloc (.cells #[.int .i64 x] 3)) := ((HD1.out.below w.heap.size).drew).alloc (HD1.out.below w.heap.size).size _
    have HB2 := Lib.hid hB2
    have HO2 : Hid (Own (w1.drew.alloc (.cells #[.int .i64 x] 3)) w.heap.size (w1.drew.alloc (.cells #[.int .i64 x] 3)).heap.size (some ⟨w1.heap.size, 0, none⟩) 1 1 [x]) := Lib.hid (Own.lit1 (w := w1.drew) (HD1.out.below w.heap.size).size)
    have HS2 : Hid (SI (w1.drew.alloc (.cells #[.int .i64 x] 3)) (some ⟨b, o, none⟩) q (xs.take q)) := Lib.hid (HS.out.below hB2 (Nat.le_refl _))
    clear hB2
    go_region_held3 (fun w' => w'.cell? ⟨b, o + q, none⟩ = some (.int .i64 x))
      (first | go_keep | exact K5)
      (first
        | (refine step_append_any _ (by first | rfl | kernel_rfl | simp [Region.wanted, yielded]) (.tmp 12) (.tmp 17) (by rfl) w.heap.size (some ⟨w1.heap.size, 0, none⟩) 1 1 [x] (some ⟨b, o, none⟩) q c (xs.take q) (by rfl) (by rfl) HO2.out HS2.out HB2.out.size (by omega) (by omega) ?_
           intro A5 c5 w5 ho5 hg5 hb5
           have K5 : w5.cell? ⟨b, o + q, none⟩ = some (.int .i64 x) := (Below.cell (HB2.out.trans hb5) (p := ⟨b, o + q, none⟩) HBL.out).trans HC.out
           have HO5 := Lib.hid ho5
           have HB5 := Lib.hid (HB2.out.trans hb5)
           clear ho5 hg5 hb5))
    go_wp2
    go_ret
    rw [HE.out]
    exact ⟨A5, _, c5, rfl, HO5.out, HB5.out⟩
set_option maxRecDepth 100000 in
set_option maxHeartbeats 1600000 in
theorem implRot_any (A : Option Addr) (n c : Nat) (xs : List Int) (w : World) (hs : SI w A n xs) (hnc : n ≤ c) (hn : n ≤ 1099511627776) :
    Calls Try.prog 29 #[.slice A n c] w fun e w' => Fresh w w' e (rotL xs) := by
  have HI := Lib.hid (implIsString_any A n c xs w hs hn)
  cases hu : strB xs with
  | false =>
    rw [hu] at HI
    have HE := Lib.hid (rotL_no hu)
    clear hu hs
    go_enter Try.func29, Try.ntmps29
    go_wp2_with (go_at_call 77; refine HI.out.mono ?_; rintro e w1 ⟨rfl, hd1⟩; have HB1 := Lib.hid (hd1.below w.heap.size); clear hd1)
    go_ret
    rw [HE.out]
    exact Fresh.nil_ret' HB1.out
  | true =>
    rw [hu] at HI
    have hp := strB_P hu
    have hl := hs.1
    have hE := rotL_yes hu
    have hn7 : n ≤ 7 := by have := hp.2.1; omega
    have hn1 : 1 ≤ n := by have := hp.1; omega
    obtain ⟨q, hq⟩ : ∃ q, q = n - 1 := ⟨_, rfl⟩
    rw [hl, ← hq] at hE
    obtain ⟨b, o, rfl, hb, hc⟩ := hs.at_ (by omega)
    have hx1 : xs.drop q = [nth xs q] := by
      rw [List.drop_eq_getElem_cons (by omega), List.drop_eq_nil_of_le (by omega), nth_get (by omega)]
    have hsd := hs.drop (k := q) (by omega)
    rw [hx1, show n - q = 1 by omega] at hsd
    have HE := Lib.hid hE
    have HS := Lib.hid (hs.take (k := q) (by omega))
    have HSD := Lib.hid hsd
    generalize nth xs q = x at HE HSD
    have hwq : IntKind.i64.wrap ((n : Int) - 1) = (q : Int) := by rw [show (n : Int) - 1 = (q : Int) by omega]; exact IntWalk.i64_in _ (by omega)
    have hqn : (q : Int) < (n : Int) := by omega
    have hqn2 : (q : Int) ≤ (n : Int) := by omega
    have hqc : (q : Int) ≤ (c : Int) := by omega
    have hq0 : (0 : Int) ≤ (q : Int) := by omega
    have hcq : ¬ c = q := by omega
    have hnq1 : n - q = 1 := by omega
    have HQ := Lib.hid hq
    clear hu hs hp hc hl hx1 hsd hE hq
    go_enter Try.func29, Try.ntmps29
    go_upto_region 4 with (go_at_call 77; refine HI.out.mono ?_; rintro e w1 ⟨rfl, hd1⟩; have HD1 := Lib.hid hd1; clear hd1)
    refine wp_region_still_tail 6 (by kernel_rfl) (by kernel_rfl) ?_
    simp only [List.take_succ_cons, List.take_zero, List.drop_succ_cons, List.drop_zero]
    repeat still_step
    refine wpStill_nil ?_
    change wpList _ _ _ _ _ w1.drew
    have HB2 : Hid (Below w.heap.size w (w1.alloc (.cells #[.slice (some ⟨b, o + q, none⟩) 1 (c - q), .slice (some ⟨b, o, none⟩) q c] 22)).drew) := Lib.hid (((HD1.out.below w.heap.size).alloc (HD1.out.below w.heap.size).size _).drew)
    have HK2 : Hid (Blk (w1.alloc (.cells #[.slice (some ⟨b, o + q, none⟩) 1 (c - q), .slice (some ⟨b, o, none⟩) q c] 22)).drew w1.heap.size 22 #[.slice (some ⟨b, o + q, none⟩) 1 (c - q), .slice (some ⟨b, o, none⟩) q c]) := Lib.hid (Blk.new w1 _ _)
    have HCC := Lib.hid (concat2_any w1.heap.size 2 1 (c - q) q c (some ⟨b, o + q, none⟩) (some ⟨b, o, none⟩) [x] (xs.take q) _ HK2.out (HSD.out.below HB2.out (Nat.le_refl _)) (HS.out.below HB2.out (Nat.le_refl _)) (by omega) (by omega))
    go_wp2_with (go_at_call 78; refine HCC.out.mono ?_; rintro e w3 ⟨A3, n3, c3, rfl, ho3, hb3⟩; have HO3 := Lib.hid ho3; have HB3 := Lib.hid hb3; clear ho3 hb3)
    go_ret
    rw [HE.out]
    exact ⟨A3, n3, c3, rfl, HO3.out.wide HB2.out.size (Nat.le_refl _), HB2.out.trans (HB3.out.mono HB2.out.size)⟩
end Go.Proofs.Ytdkcngilmdpbgaa
