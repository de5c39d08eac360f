/-
  Texts Pmf to Pmf, merged. Conditions: as each says.
-/
import Derived.Test.YtololcgifhefnaaPkA2
/-
  The matrix of a permutation: the functions, on both sides. Conditions: lengths below 2^40.
-/


namespace Go.Proofs.Ytololcgifhefnaa
open Go.RowKit

/-- What PermMatrix answers. -/
def PmxIs (p : Int) (xs : List Int) (zp zr zc : Int) (z : List Int) : Prop :=
  (P7 p ∧ isPermB xs = true → p = zp ∧ zr = xs.length ∧ zc = xs.length ∧ z = onesK xs.length xs.length xs xs.length) ∧ (¬ (P7 p ∧ isPermB xs = true) → zp = 0 ∧ zr = 0 ∧ zc = 0 ∧ z = [])
theorem pmx_ex (p : Int) (xs : List Int) : ∃ zp zr zc z, PmxIs p xs zp zr zc z := by
  by_cases h : P7 p ∧ isPermB xs = true
  · exact ⟨_, _, _, _, fun _ => ⟨rfl, rfl, rfl, rfl⟩, fun h' => absurd h h'⟩
  · exact ⟨_, _, _, _, fun h' => absurd h' h, fun _ => ⟨rfl, rfl, rfl, rfl⟩⟩
theorem PmxIs.len {p : Int} {xs : List Int} {zp zr zc : Int} {z : List Int} (h : PmxIs p xs zp zr zc z) : z.length ≤ 1000 := by
  by_cases h1 : P7 p ∧ isPermB xs = true
  · obtain ⟨_, _, _, rfl⟩ := h.1 h1
    rw [onesK_len]
    have h2 := (isPermB_P h1.2).2.1
    have := nat_mul_small (r := xs.length) (c := xs.length) (by omega) (by omega)
    omega
  · obtain ⟨_, _, _, rfl⟩ := h.2 h1
    simp
theorem FreshMx.zero {w w1 w5 : World} {g : Nat} (hw : Below w.heap.size w w1) (hg : g = w.heap.size) (hg5 : w1.grownBy w5 (some g)) : FreshMx w w5 (.returned (.agg #[.int .i64 0, .int .i64 0, .int .i64 0, .slice none 0 0])) 0 0 0 [] :=
  ⟨none, 0, 0, rfl, Own.nil _ _ _, hw.grown hg5 hw.size (by rintro q ⟨⟩; omega)⟩
set_option maxRecDepth 100000 in
set_option maxHeartbeats 2000000 in
theorem specPmx_z (p : Int) (A : Option Addr) (n c : Nat) (xs : List Int) (w : World) (hs : SI w A n xs) (hnc : n ≤ c) (hn : n ≤ 1099511627776) (zp zr zc : Int) (z : List Int) (hz : PmxIs p xs zp zr zc z) :
    Calls Try.prog 20 #[.int .i64 p, .slice A n c] w fun e w' => FreshMx w w' e zp zr zc z := by
  obtain ⟨w1, hw1⟩ : ∃ w1, w1 = w.alloc (.cells #[.int .i64 0, .int .i64 0, .int .i64 0, .slice none 0 0] 27) := ⟨_, rfl⟩
  obtain ⟨g, hg⟩ : ∃ g, g = w.heap.size := ⟨_, rfl⟩
  have hk : Blk w1 g 27 #[.int .i64 0, .int .i64 0, .int .i64 0, .slice none 0 0] := by rw [hw1, hg]; exact Blk.new _ _ _
  have hb : Below w.heap.size w w1 := by rw [hw1]; exact Below.alloc_self _ _
  have HB := Lib.hid hb
  have HW := Lib.hid hw1
  have HG := Lib.hid hg
  have HK := Lib.hid hk
  have HL := Lib.hid hs.1
  have HS := Lib.hid (hs.below hb (Nat.le_refl _))
  have HNC := Lib.hid hnc
  clear hw1 hg hk hb hs
  by_cases hP : P7 p
  case neg =>
    have HM := Lib.hid (fun w => l7Prime_no hP w)
    obtain ⟨rfl, rfl, rfl, rfl⟩ := hz.2 (fun h => hP h.1)
    clear hP hz
    go_enter Try.func20, Try.ntmps20
    go_upto_region 1 with fail
    rw [← HW.out, ← HG.out]
    go_wp2_with (first
    | (go_at_call 49; with_reducible refine (HM.out _).mono ?_; rintro e w2 ⟨rfl, rfl⟩)
    | (go_at_call 55; with_reducible refine (specIsPerm_is c HU.out HS.out hnc hn).mono ?_; rintro e w3 ⟨rfl, hd3⟩; have HB3 : Hid (Below w1.heap.size w1 w3) := Lib.hid (Below.trans (Below.refl _ _) (hd3.below _)); have HK3 := Lib.hid (HK.out.below HB3.out HK.out.lt); clear hd3)
    | (refine wpList_store_rowP rfl 27 (.tmp 4) (.tmp 13) rfl g #[.int .i64 0, .int .i64 0, .int .i64 0, .slice none 0 0] rfl rfl 27 #[.int .i64 0, .int .i64 0, .int .i64 0, .slice none 0 0] HK.out Try.infoMx rfl (by simp [Value.oneCell']) ?_; intro w5 hb5 hg5)
    | fail)
    refine bodyPost_ret (results_rowP Try.results20 _ _ _ 27 #[.int .i64 0, .int .i64 0, .int .i64 0, .slice none 0 0] _ rfl hb5 Try.underlying27 rfl Try.infoMx) rfl ?_
    exact FreshMx.zero HB.out HG.out hg5
  case pos =>
    have HM := Lib.hid (fun w => l7Prime_yes hP w)
    cases hu : isPermB xs with
    | false =>
      have HU := Lib.hid hu
      obtain ⟨rfl, rfl, rfl, rfl⟩ := hz.2 (fun h => by rw [hu] at h; cases h.2)
      clear hP hz hu
      go_enter Try.func20, Try.ntmps20
      go_upto_region 1 with fail
      rw [← HW.out, ← HG.out]
      go_wp2_with (first
    | (go_at_call 49; with_reducible refine (HM.out _).mono ?_; rintro e w2 ⟨rfl, rfl⟩)
    | (go_at_call 55; with_reducible refine (specIsPerm_is c HU.out HS.out hnc hn).mono ?_; rintro e w3 ⟨rfl, hd3⟩; have HB3 : Hid (Below w1.heap.size w1 w3) := Lib.hid (Below.trans (Below.refl _ _) (hd3.below _)); have HK3 := Lib.hid (HK.out.below HB3.out HK.out.lt); clear hd3)
    | (refine wpList_store_rowP rfl 27 (.tmp 4) (.tmp 13) rfl g #[.int .i64 0, .int .i64 0, .int .i64 0, .slice none 0 0] rfl rfl 27 #[.int .i64 0, .int .i64 0, .int .i64 0, .slice none 0 0] HK3.out Try.infoMx rfl (by simp [Value.oneCell']) ?_; intro w5 hb5 hg5)
    | fail)
      refine bodyPost_ret (results_rowP Try.results20 _ _ _ 27 #[.int .i64 0, .int .i64 0, .int .i64 0, .slice none 0 0] _ rfl hb5 Try.underlying27 rfl Try.infoMx) rfl ?_
      exact FreshMx.zero (HB.out.trans (HB3.out.mono HB.out.size)) HG.out hg5
    | true =>
      have HU := Lib.hid hu
      obtain ⟨rfl, rfl, rfl, rfl⟩ := hz.1 ⟨hP, hu⟩
      have hpp := isPermB_P hu
      have hxn : xs.length = n := HL.out
      have hrg := hpp.range
      have hn7 : n ≤ 14 := by have := hpp.2.1; omega
      rw [hxn] at hrg ⊢
      have HMK := Lib.hid (fun w' (hb' : Below w1.heap.size w1 w') => l7Perm_any p n c A xs w' (HS.out.below hb' (Nat.le_refl _)) hn7 hrg)
      clear hP hz hu hpp hrg hxn
      go_enter Try.func20, Try.ntmps20
      go_upto_region 1 with fail
      rw [← HW.out, ← HG.out]
      go_wp2_with (first
    | (go_at_call 49; with_reducible refine (HM.out _).mono ?_; rintro e w2 ⟨rfl, rfl⟩)
    | (go_at_call 55; with_reducible refine (specIsPerm_is c HU.out HS.out hnc hn).mono ?_; rintro e w3 ⟨rfl, hd3⟩; have HB3 : Hid (Below w1.heap.size w1 w3) := Lib.hid (Below.trans (Below.refl _ _) (hd3.below _)); have HK3 := Lib.hid (HK.out.below HB3.out HK.out.lt); clear hd3)
    | (go_at_call 56
       with_reducible refine (HMK.out _ HB3.out).mono ?_
       rintro e w4 ⟨A4, n4, k4, rfl, ho4, hb4⟩
       have HO4 := Lib.hid ho4
       have HB4 : Hid (Below w1.heap.size w1 w4) := Lib.hid (HB3.out.trans (hb4.mono HB3.out.size))
       have HK4 := Lib.hid (HK.out.below HB4.out HK.out.lt)
       have HZ4 := Lib.hid hb4.size
       clear ho4 hb4)
    | (refine wpList_store_rowP rfl 27 (.tmp 4) (.tmp 16) rfl g #[.int .i64 p, .int .i64 n, .int .i64 n, .slice A4 n4 k4] rfl rfl 27 #[.int .i64 0, .int .i64 0, .int .i64 0, .slice none 0 0] HK4.out Try.infoMx rfl (by simp [Value.oneCell']) ?_; intro w5 hb5 hg5)
    | fail)
      refine bodyPost_ret (results_rowP Try.results20 _ _ _ 27 #[.int .i64 p, .int .i64 n, .int .i64 n, .slice A4 n4 k4] _ rfl hb5 Try.underlying27 rfl Try.infoMx) rfl ?_
      have l1 := HG.out
      have l2 := hg5.size
      have l3 := HB3.out.size
      have l4 := HB.out.size
      have l5 := HB4.out.size
      have l6 := HK.out.lt
      refine ⟨A4, n4, k4, rfl, (HO4.out.grown hg5 (fun q hq => by injection hq with hq; omega)).wide (by omega) l2, ?_⟩
      exact (HB.out.trans (HB4.out.mono l4)).grown hg5 (by omega) (by rintro q ⟨⟩; omega)
set_option maxRecDepth 100000 in
set_option maxHeartbeats 2000000 in
theorem implPmx_z (p : Int) (A : Option Addr) (n c : Nat) (xs : List Int) (w : World) (hs : SI w A n xs) (hnc : n ≤ c) (hn : n ≤ 1099511627776) (zp zr zc : Int) (z : List Int) (hz : PmxIs p xs zp zr zc z) :
    Calls Try.prog 22 #[.int .i64 p, .slice A n c] w fun e w' => FreshMx w w' e zp zr zc z := by
  obtain ⟨w1, hw1⟩ : ∃ w1, w1 = w.alloc (.cells #[.int .i64 0, .int .i64 0, .int .i64 0, .slice none 0 0] 27) := ⟨_, rfl⟩
  obtain ⟨g, hg⟩ : ∃ g, g = w.heap.size := ⟨_, rfl⟩
  have hk : Blk w1 g 27 #[.int .i64 0, .int .i64 0, .int .i64 0, .slice none 0 0] := by rw [hw1, hg]; exact Blk.new _ _ _
  have hb : Below w.heap.size w w1 := by rw [hw1]; exact Below.alloc_self _ _
  have HB := Lib.hid hb
  have HW := Lib.hid hw1
  have HG := Lib.hid hg
  have HK := Lib.hid hk
  have HL := Lib.hid hs.1
  have HS := Lib.hid (hs.below hb (Nat.le_refl _))
  have HNC := Lib.hid hnc
  have HIP := Lib.hid (implIsPerm_any A n c xs w1 (hs.below hb (Nat.le_refl _)) hn)
  clear hw1 hg hk hb hs
  by_cases hP : P7 p
  case neg =>
    have HM := Lib.hid (fun w => isModulus_no hP w)
    obtain ⟨rfl, rfl, rfl, rfl⟩ := hz.2 (fun h => hP h.1)
    clear hP hz
    go_enter Try.func22, Try.ntmps22
    go_upto_region 1 with fail
    rw [← HW.out, ← HG.out]
    go_wp2_with (first
    | (go_at_call 51; with_reducible refine (HM.out _).mono ?_; rintro e w2 ⟨rfl, rfl⟩)
    | (go_at_call 57; with_reducible refine HIP.out.mono ?_; rintro e w3 ⟨rfl, hb3⟩; have HB3 : Hid (Below w1.heap.size w1 w3) := Lib.hid (hb3); have HK3 := Lib.hid (HK.out.below HB3.out HK.out.lt); clear hb3)
    | (refine wpList_store_rowP rfl 27 (.tmp 4) (.tmp 13) rfl g #[.int .i64 0, .int .i64 0, .int .i64 0, .slice none 0 0] rfl rfl 27 #[.int .i64 0, .int .i64 0, .int .i64 0, .slice none 0 0] HK.out Try.infoMx rfl (by simp [Value.oneCell']) ?_; intro w5 hb5 hg5)
    | fail)
    refine bodyPost_ret (results_rowP Try.results22 _ _ _ 27 #[.int .i64 0, .int .i64 0, .int .i64 0, .slice none 0 0] _ rfl hb5 Try.underlying27 rfl Try.infoMx) rfl ?_
    exact FreshMx.zero HB.out HG.out hg5
  case pos =>
    have HM := Lib.hid (fun w => isModulus_yes hP w)
    cases hu : isPermB xs with
    | false =>
      have HU := Lib.hid hu
      rw [hu] at HIP
      obtain ⟨rfl, rfl, rfl, rfl⟩ := hz.2 (fun h => by rw [hu] at h; cases h.2)
      clear hP hz hu
      go_enter Try.func22, Try.ntmps22
      go_upto_region 1 with fail
      rw [← HW.out, ← HG.out]
      go_wp2_with (first
    | (go_at_call 51; with_reducible refine (HM.out _).mono ?_; rintro e w2 ⟨rfl, rfl⟩)
    | (go_at_call 57; with_reducible refine HIP.out.mono ?_; rintro e w3 ⟨rfl, hb3⟩; have HB3 : Hid (Below w1.heap.size w1 w3) := Lib.hid (hb3); have HK3 := Lib.hid (HK.out.below HB3.out HK.out.lt); clear hb3)
    | (refine wpList_store_rowP rfl 27 (.tmp 4) (.tmp 13) rfl g #[.int .i64 0, .int .i64 0, .int .i64 0, .slice none 0 0] rfl rfl 27 #[.int .i64 0, .int .i64 0, .int .i64 0, .slice none 0 0] HK3.out Try.infoMx rfl (by simp [Value.oneCell']) ?_; intro w5 hb5 hg5)
    | fail)
      refine bodyPost_ret (results_rowP Try.results22 _ _ _ 27 #[.int .i64 0, .int .i64 0, .int .i64 0, .slice none 0 0] _ rfl hb5 Try.underlying27 rfl Try.infoMx) rfl ?_
      exact FreshMx.zero (HB.out.trans (HB3.out.mono HB.out.size)) HG.out hg5
    | true =>
      have HU := Lib.hid hu
      rw [hu] at HIP
      obtain ⟨rfl, rfl, rfl, rfl⟩ := hz.1 ⟨hP, hu⟩
      have hpp := isPermB_P hu
      have hxn : xs.length = n := HL.out
      have hrg := hpp.range
      have hn7 : n ≤ 14 := by have := hpp.2.1; omega
      rw [hxn] at hrg ⊢
      have HMK := Lib.hid (fun w' (hb' : Below w1.heap.size w1 w') => withOnes_any p n n c A xs w' (HS.out.below hb' (Nat.le_refl _)) hn7 hn7 hrg)
      clear hP hz hu hpp hrg hxn
      go_enter Try.func22, Try.ntmps22
      go_upto_region 1 with fail
      rw [← HW.out, ← HG.out]
      go_wp2_with (first
    | (go_at_call 51; with_reducible refine (HM.out _).mono ?_; rintro e w2 ⟨rfl, rfl⟩)
    | (go_at_call 57; with_reducible refine HIP.out.mono ?_; rintro e w3 ⟨rfl, hb3⟩; have HB3 : Hid (Below w1.heap.size w1 w3) := Lib.hid (hb3); have HK3 := Lib.hid (HK.out.below HB3.out HK.out.lt); clear hb3)
    | (go_at_call 58
       with_reducible refine (HMK.out _ HB3.out).mono ?_
       rintro e w4 ⟨A4, n4, k4, rfl, ho4, hb4⟩
       have HO4 := Lib.hid ho4
       have HB4 : Hid (Below w1.heap.size w1 w4) := Lib.hid (HB3.out.trans (hb4.mono HB3.out.size))
       have HK4 := Lib.hid (HK.out.below HB4.out HK.out.lt)
       have HZ4 := Lib.hid hb4.size
       clear ho4 hb4)
    | (refine wpList_store_rowP rfl 27 (.tmp 4) (.tmp 18) rfl g #[.int .i64 p, .int .i64 n, .int .i64 n, .slice A4 n4 k4] rfl rfl 27 #[.int .i64 0, .int .i64 0, .int .i64 0, .slice none 0 0] HK4.out Try.infoMx rfl (by simp [Value.oneCell']) ?_; intro w5 hb5 hg5)
    | fail)
      refine bodyPost_ret (results_rowP Try.results22 _ _ _ 27 #[.int .i64 p, .int .i64 n, .int .i64 n, .slice A4 n4 k4] _ rfl hb5 Try.underlying27 rfl Try.infoMx) rfl ?_
      have l1 := HG.out
      have l2 := hg5.size
      have l3 := HB3.out.size
      have l4 := HB.out.size
      have l5 := HB4.out.size
      have l6 := HK.out.lt
      refine ⟨A4, n4, k4, rfl, (HO4.out.grown hg5 (fun q hq => by injection hq with hq; omega)).wide (by omega) l2, ?_⟩
      exact (HB.out.trans (HB4.out.mono l4)).grown hg5 (by omega) (by rintro q ⟨⟩; omega)
end Go.Proofs.Ytololcgifhefnaa
