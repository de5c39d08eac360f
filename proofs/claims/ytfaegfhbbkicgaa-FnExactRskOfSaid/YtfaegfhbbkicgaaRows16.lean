/-
  The lengths of rows as an array of sixteen numbers, and back. Conditions: lengths below 2^40.
-/
import Derived.Test.YtfaegfhbbkicgaaCopyA
import Derived.Test.YtfaegfhbbkicgaaShape
import Derived.Test.YtfaegfhbbkicgaaImplA
namespace Go.Proofs.Ytfaegfhbbkicgaa
open Go.RowKit

abbrev arrD (l : List Int) : Array Value := #[.int .i64 (nth l 0), .int .i64 (nth l 1), .int .i64 (nth l 2), .int .i64 (nth l 3), .int .i64 (nth l 4), .int .i64 (nth l 5), .int .i64 (nth l 6), .int .i64 (nth l 7), .int .i64 (nth l 8), .int .i64 (nth l 9), .int .i64 (nth l 10), .int .i64 (nth l 11), .int .i64 (nth l 12), .int .i64 (nth l 13), .int .i64 (nth l 14), .int .i64 (nth l 15)]
abbrev arr16 (l : List Int) : Value := .agg (arrD l)
theorem lt16 {k : Nat} (h : k < 16) : k = 0 ∨ k = 1 ∨ k = 2 ∨ k = 3 ∨ k = 4 ∨ k = 5 ∨ k = 6 ∨ k = 7 ∨ k = 8 ∨ k = 9 ∨ k = 10 ∨ k = 11 ∨ k = 12 ∨ k = 13 ∨ k = 14 ∨ k = 15 := by omega
theorem arrD_get (l : List Int) (k : Nat) (h : k < 16) : (arrD l)[k]? = some (.int .i64 (nth l k)) := by
  rcases lt16 h with rfl | rfl | rfl | rfl | rfl | rfl | rfl | rfl | rfl | rfl | rfl | rfl | rfl | rfl | rfl | rfl <;> rfl
theorem arrD_of {l : List Int} (h : l.length = 16) : (l.map (Value.int .i64)).toArray = arrD l := by
  apply Array.ext_getElem?
  intro k
  by_cases hk : k < 16
  · rw [arrD_get l k hk]
    simp only [List.getElem?_toArray, List.getElem?_map]
    rw [nth_get? (by omega)]; rfl
  · rw [Array.getElem?_eq_none (by simp [h]; omega), Array.getElem?_eq_none (by simp; omega)]
theorem arrD_set (l : List Int) (k : Nat) (_ : k < 16) (x : Int) (hl : l.length = 16) : (arrD l).setIfInBounds k (.int .i64 x) = arrD (l.set k x) := by
  rw [← arrD_of hl, ← arrD_of (l := l.set k x) (by simpa using hl)]
  simp [List.map_set]
theorem arrD_one (l : List Int) : (arrD l).all (·.oneCell') = true := by simp [Value.oneCell']
theorem Try.infoRows : (Try.prog.info? 82).map (·.size) = some 16 := by kernel_rfl
theorem Try.undRows : Try.prog.underlying 82 = some (.array 16 3) := Try.underlying82
theorem Try.lenRows : Try.prog.arrayLen 82 = 16 := by kernel_rfl
theorem Try.elemRows : Try.prog.elem 82 = 3 := by kernel_rfl
theorem SI.of_rows {w : World} {g t n : Nat} {l : List Int} (h : Blk w g t (arrD l)) (hn : n ≤ 16) (hl : l.length = 16) : SI w (some ⟨g, 0, none⟩) n (l.take n) := by
  refine ⟨by simp; omega, fun _ => ⟨g, 0, rfl, h.lt, fun k hk => ?_⟩⟩
  rw [nth_take hk, Nat.zero_add, h.cell, arrD_get l k (by omega)]
theorem sliceRows_to (a : Addr) (n : Nat) (hn : n ≤ 16) (w : World) : (Instr.sliceAt 82 (.pointer (some a)) none (some (.int .i64 n)) none).run Try.prog w = .ok (.slice (some a) n 16) w := by
  obtain ⟨i0, hi, hz0, hz1, hz2⟩ := info_parts Try.infoInt
  have h := run_sliceAt_array_h (P := Try.prog) w 82 a (by rw [Try.lenRows, Try.elemRows]; exact Try.undRows) .i64 (n : Int) (by omega) (by rw [Try.lenRows]; omega)
  rw [h, Try.lenRows, Try.elemRows]
  simp [sizeOf, typeInfo, hi, slicedAt, Addr.add]
abbrev zero16 : Array Value := #[.int .i64 0, .int .i64 0, .int .i64 0, .int .i64 0, .int .i64 0, .int .i64 0, .int .i64 0, .int .i64 0, .int .i64 0, .int .i64 0, .int .i64 0, .int .i64 0, .int .i64 0, .int .i64 0, .int .i64 0, .int .i64 0]
set_option maxRecDepth 100000 in
set_option maxHeartbeats 800000 in
theorem rowLengthsOf_any (A : Option Addr) (n c : Nat) (xs : List Int) (w : World) (hs : SI w A n xs) (hn : n ≤ 16) :
    Calls Try.prog 68 #[.slice A n c] w fun e w' => e = .returned (arr16 (padN 16 xs)) ∧ Below w.heap.size w w' := by
  have HL := Lib.hid hs.1
  have HS := Lib.hid hs
  clear hs
  obtain ⟨t, ht⟩ : ∃ t, t = 82 := ⟨_, rfl⟩
  have hz : zero16 = ((List.replicate 16 (0 : Int)).map (Value.int .i64)).toArray := rfl
  have hz0 : Blk ((w.alloc (.cells zero16 82)).alloc (.cells zero16 82)) (w.heap.size + 1) 82 ((List.replicate 16 (0 : Int)).map (Value.int .i64)).toArray := by
    rw [← hz]
    have := Blk.new (w.alloc (.cells zero16 82)) 82 zero16
    rwa [show (w.alloc (.cells zero16 82)).heap.size = w.heap.size + 1 from by simp] at this
  have hz1 : Blk ((w.alloc (.cells zero16 82)).alloc (.cells zero16 82)) w.heap.size 82 zero16 := (Blk.new w 82 zero16).alloc _
  have hz2 : Below w.heap.size w ((w.alloc (.cells zero16 82)).alloc (.cells zero16 82)) := ((Below.refl _ _).alloc (Nat.le_refl _) _).alloc (by simp) _
  have hz3 : SI ((w.alloc (.cells zero16 82)).alloc (.cells zero16 82)) A n xs := (HS.out.alloc _).alloc _
  have HZ0 := Lib.hid hz0
  have HZ1 := Lib.hid hz1
  have HZ2 := Lib.hid hz2
  have HZ3 := Lib.hid hz3
  clear hz0 hz1 hz2 hz3 hz ht t
  go_enter Try.func68, Try.ntmps68
  go_wp2_with (first
    | (skip
       refine wpList_copy_arr rfl (.tmp 4) (.tmp 5) rfl (w.heap.size + 1) 16 A n c rfl rfl 82 xs HZ0.out HZ3.out hn ?_
       intro w4 hb4 hg4
       rw [arrD_of (padN_len (by rw [HL.out]; exact hn))] at hb4
       have HB4 := Lib.hid hb4
       have HA4 : Hid (Blk w4 w.heap.size 82 zero16) := Lib.hid (HZ1.out.grown hg4 (by intro e; injection e with e; omega))
       have HW4 : Hid (Below w.heap.size w w4) := Lib.hid (HZ2.out.grown hg4 HZ2.out.size (by rintro q ⟨⟩; omega))
       clear hb4 hg4)
    | (refine wpList_load_blk rfl 82 (.tmp 3) rfl (w.heap.size + 1) rfl 82 (arrD (padN 16 xs)) 16 3 HB4.out Try.undRows Try.infoRows ?_)
    | (refine wpList_store_blk rfl 82 (.tmp 2) (.tmp 7) rfl w.heap.size (arrD (padN 16 xs)) rfl rfl 82 zero16 HA4.out Try.infoRows rfl (arrD_one _) ?_; intro w5 hb5 hg5)
    | fail)
  refine bodyPost_ret (results_blk Try.results68 _ _ _ _ _ 16 3 rfl hb5 Try.undRows Try.infoRows) rfl ?_
  exact ⟨rfl, HW4.out.grown hg5 HW4.out.size (by rintro q ⟨⟩; exact Nat.le_refl _)⟩
end Go.Proofs.Ytfaegfhbbkicgaa
