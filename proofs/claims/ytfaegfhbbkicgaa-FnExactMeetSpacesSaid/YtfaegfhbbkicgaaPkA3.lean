/-
  Texts SpaD to PosI, merged. Conditions: as each says.
-/
import Derived.RegionTactic
import Derived.BigRegion
import Derived.Deep.AppendLies
import Derived.Deep.Cut
import Derived.ProofKit
import Derived.OpenShut
import Derived.ChangeOld
import Derived.Lib.AppendZerosOnto
import Derived.Test.YtfaegfhbbkicgaaPkA2
/-
  Spans on the program's side: the functions. Conditions: the modulus is 2, 3, 5 or 7; sizes at most 14.
-/



namespace Go.Proofs.Ytfaegfhbbkicgaa
open Go.RowKit

/-- The rows of the reduced form, how many they are, and their numbers. -/
def spanL (p : Int) (C : Nat) (rows : List (List Int)) : List (List Int) := ((redD p C rows).map (·.1)).reverse
def spanN (p : Int) (C : Nat) (rows : List (List Int)) : Nat := (redD p C rows).length
def spanX (p : Int) (C : Nat) (rows : List (List Int)) : List Int := flatK (spanN p C rows) C (spanL p C rows) (spanN p C rows)
theorem EOk.len_le {p : Int} {n : Nat} {E : List (List Int × Int)} (hp : P7 p) (h : EOk p n E) : E.length ≤ n := by
  have h1 := nodup_le (h.2.nodup hp.two) (m := List.range n) (fun c hc => by
    obtain ⟨x, hx, rfl⟩ := List.mem_map.1 hc
    exact List.mem_range.2 (h.2.at_ hx).1)
  simp [prs] at h1
  omega
theorem redD_ok {p : Int} {n : Nat} {rows : List (List Int)} (hp : P7 p) (hr : ∀ x, x ∈ rows → x.length = n ∧ Rg p x) : EOk p n (redD p n rows) :=
  (DscI.all hp (echel_ok hp hr).1 n (Nat.le_refl _)).ok
theorem spanN_le {p : Int} {n : Nat} {rows : List (List Int)} (hp : P7 p) (hr : ∀ x, x ∈ rows → x.length = n ∧ Rg p x) : spanN p n rows ≤ n := (redD_ok hp hr).len_le hp
theorem spanL_len {p : Int} {n : Nat} {rows : List (List Int)} (hp : P7 p) (hr : ∀ x, x ∈ rows → x.length = n ∧ Rg p x) : ∀ x, x ∈ spanL p n rows → x.length = n := fun x hx => by
  unfold spanL at hx
  rw [List.mem_reverse] at hx
  obtain ⟨e, he, rfl⟩ := List.mem_map.1 hx
  exact ((redD_ok hp hr).1 e he).1
set_option maxRecDepth 100000 in
set_option maxHeartbeats 2000000 in
theorem spanOf_any (p : Int) (C R c : Nat) (A : Option Addr) (ls : List (List Int)) (w : World) (hp : P7 p) (hs : LS w A R ls) (hR : R ≤ 1000) (hl : ∀ x, x ∈ ls → x.length = C ∧ Rg p x) (hC : 0 < C ∧ C ≤ 14) :
    Calls Try.prog 76 #[.int .i64 p, .int .i64 C, .slice A R c] w fun e w' => FreshMx w w' e p (spanN p C ls) C (spanX p C ls) := by
  obtain ⟨w1, hw1⟩ : ∃ w1, w1 = w.alloc (.cells #[.int .i64 0, .int .i64 0, .int .i64 0, .slice none 0 0] 27) := ⟨_, rfl⟩
  obtain ⟨g, hg⟩ : ∃ g, g = w.heap.size := ⟨_, rfl⟩
  have hk : Blk w1 g 27 #[.int .i64 0, .int .i64 0, .int .i64 0, .slice none 0 0] := by rw [hw1, hg]; exact Blk.new _ _ _
  have hb : Below w.heap.size w w1 := by rw [hw1]; exact Below.alloc_self _ _
  have HB := Lib.hid hb
  have HSZ : Hid (w1.heap.size = g + 1) := Lib.hid (by rw [hw1, hg]; simp)
  have HW := Lib.hid hw1
  have HG := Lib.hid hg
  have HK := Lib.hid hk
  have HP := Lib.hid hp
  have HC := Lib.hid hC
  have HOK := Lib.hid (echel_ok hp hl).1
  have HEL : Hid ((echel p ls).length ≤ 1000) := Lib.hid (by have := (echel_ok hp hl).1.len_le hp; omega)
  have HN : Hid (spanN p C ls ≤ 14) := Lib.hid (Nat.le_trans (spanN_le hp hl) hC.2)
  have HLL := Lib.hid (spanL_len hp hl)
  have HEC := Lib.hid (echelonOf_any p C A R c ls w1 hp (hs.below hb (Nat.le_refl _)) hR hl (by omega))
  clear hw1 hg hk hb hp hC hs hl
  go_enter Try.func76, Try.ntmps76
  go_upto_region 1 with fail
  rw [← HW.out, ← HG.out]
  go_wp2_with (first
    | (go_at_call 128
       with_reducible refine HEC.out.mono ?_
       rintro e w2 ⟨AR, nR, cR, AC, nC, cC, rfl, ho2, hc2, hb2⟩
       have HO2 := Lib.hid ho2.si
       have HC2 := Lib.hid hc2.si
       have HB2 := Lib.hid hb2
       clear ho2 hc2 hb2)
    | (go_at_call 141
       with_reducible refine (reducedRows_any p C (echel p ls) AR AC nR cR nC cC w2 HP.out HOK.out HEL.out HO2.out HC2.out (by have := HC.out; omega)).mono ?_
       rintro e w3 ⟨A2, n2, c2, rfl, hred⟩
       have hls : LS w3 A2 n2 (spanL p C ls) := hred.1
       have hb3 := hred.2
       obtain rfl : n2 = spanN p C ls := by have h := hls.1; unfold spanL at h; rw [List.length_reverse, List.length_map] at h; exact h.symm
       have HLS := Lib.hid hls
       have HB3 : Hid (Below w1.heap.size w1 w3) := Lib.hid (HB2.out.trans (hb3.mono HB2.out.size))
       clear hred hls hb3)
    | (go_at_call 130
       with_reducible refine (matrixOf_any p C (spanN p C ls) c2 A2 (spanL p C ls) w3 HLS.out HC.out HN.out HLL.out).mono ?_
       rintro e w4 ⟨A4, n4, k4, rfl, ho4, hb4⟩
       have HO4 := Lib.hid ho4
       have HB4 : Hid (Below w1.heap.size w1 w4) := Lib.hid (HB3.out.trans (hb4.mono HB3.out.size))
       have HS4 : Hid (w3.heap.size ≤ w4.heap.size) := Lib.hid hb4.size
       have HK4 := Lib.hid (HK.out.below HB4.out HK.out.lt)
       clear ho4 hb4)
    | (refine wpList_store_rowP rfl 27 (.tmp 6) (.tmp 14) rfl g #[.int .i64 p, .int .i64 (spanN p C ls), .int .i64 C, .slice A4 n4 k4] rfl rfl 27 #[.int .i64 0, .int .i64 0, .int .i64 0, .slice none 0 0] HK4.out Try.infoMx rfl (by simp [Value.oneCell']) ?_; intro w5 hb5 hg5)
    | fail)
  refine bodyPost_ret (results_rowP Try.results76 _ _ _ 27 #[.int .i64 p, .int .i64 (spanN p C ls), .int .i64 C, .slice A4 n4 k4] _ rfl hb5 Try.underlying27 rfl Try.infoMx) rfl ?_
  have l1 := HSZ.out
  have l2 := HG.out
  have l3 := hg5.size
  have l4 := HB3.out.size
  have l5 := HS4.out
  have l6 := HB.out.size
  refine ⟨A4, n4, k4, rfl, ?_, ?_⟩
  · exact (HO4.out.grown hg5 (fun q hq => by injection hq with hq; omega)).wide (by omega) (by omega)
  · exact (HB.out.trans (HB4.out.mono l6)).grown hg5 (by omega) (by rintro q ⟨⟩; omega)
set_option maxHeartbeats 1000000 in
theorem allRows_any (p : Int) (R C : Nat) (A : Option Addr) (n k : Nat) (xs : List Int) (w : World) (hs : SI w A n xs) (hC : 0 < C ∧ C ≤ 14) (hR : R ≤ 14) (hl : xs.length = R * C) (hnk : n ≤ k) :
    Calls Try.prog 70 #[.agg #[.int .i64 p, .int .i64 R, .int .i64 C, .slice A n k]] w fun e w' => ∃ g, e = .returned (.slice (some ⟨g, 0, none⟩) R R) ∧ LS w' (some ⟨g, 0, none⟩) R (rowsC xs C R C) ∧ Below w.heap.size w w' := by
  obtain ⟨w1, hw1⟩ : ∃ w1, w1 = w.alloc (.cells #[.int .i64 p, .int .i64 R, .int .i64 C, .slice A n k] 27) := ⟨_, rfl⟩
  obtain ⟨g, hg⟩ : ∃ g, g = w.heap.size := ⟨_, rfl⟩
  have hk : Blk w1 g 27 #[.int .i64 p, .int .i64 R, .int .i64 C, .slice A n k] := by rw [hw1, hg]; exact Blk.new _ _ _
  have hb : Below w.heap.size w w1 := by rw [hw1]; exact Below.alloc_self _ _
  have hs1 := hs.below hb (Nat.le_refl _)
  have hnl : n = R * C := by have := hs.1; omega
  have hn196 : n ≤ 196 := by have := nat_mul_small hR hC.2; omega
  obtain ⟨b, o, hA⟩ : ∃ b o, 0 < R → A = some ⟨b, o, none⟩ := by
    by_cases hr0 : 0 < R
    · obtain ⟨b, o, e, _⟩ := hs1.2 (by
        have h5 : 1 * 1 ≤ R * C := Nat.mul_le_mul hr0 hC.1
        omega)
      exact ⟨b, o, fun _ => e⟩
    · exact ⟨0, 0, fun h => absurd h hr0⟩
  have HB := Lib.hid hb
  have HW := Lib.hid hw1
  have HG := Lib.hid hg
  have HK := Lib.hid hk
  have HS := Lib.hid hs1
  have HA := Lib.hid hA
  have HNL := Lib.hid hnl
  have HNK := Lib.hid hnk
  have HFR := Lib.hid (firstRows_any p (R : Int) A b o n k C R w1 hA hC hR (Nat.le_of_eq hnl.symm) hnk (by omega))
  obtain ⟨q0, q1, q2, q3⟩ := cells4 hk
  clear hw1 hg hk hb hs hs1 hA hnl hnk hl
  go_enter Try.func70, Try.ntmps70
  go_upto_region 1 with fail
  rw [← HW.out, ← HG.out]
  go_wp2_with (first
    | (refine wpList_load_rowP rfl 27 (.tmp 1) rfl g rfl 27 #[.int .i64 p, .int .i64 R, .int .i64 C, .slice A n k] _ HK.out Try.underlying27 rfl Try.infoMx ?_)
    | (go_at_call 62
       with_reducible refine HFR.out.mono ?_
       rintro e w2 ⟨g2, rfl, ho2, hb2⟩
       have HO2 := Lib.hid ho2
       have HB2 := Lib.hid hb2
       clear ho2 hb2)
    | fail)
  go_ret
  refine ⟨g2, rfl, ?_, HB.out.trans (HB2.out.mono HB.out.size)⟩
  have hsr := HS.out.below HB2.out (Nat.le_refl _)
  exact HO2.out.ls (rowsC_len ..) fun j hj => by
    have e := HA.out (by omega)
    subst e
    have h5 : (j + 1) * C ≤ R * C := Nat.mul_le_mul (by omega) (Nat.le_refl _)
    rw [Nat.add_mul, Nat.one_mul] at h5
    have h6 := HNL.out
    have h7 := HNK.out
    refine ⟨by rw [rowsC_li hj]; exact hsr.mid (C := C) (c := C) (i := j) (by omega), by show C ≤ k - j * C; omega, fun h => by cases h⟩
end Go.Proofs.Ytfaegfhbbkicgaa

/-
  SpanOf on the program's side. Conditions: lengths below 2^40.
-/


namespace Go.Proofs.Ytfaegfhbbkicgaa
open Go.RowKit

/-- What SpanOf answers. -/
def SpnIs (p r c : Int) (xs : List Int) (zp zr zc : Int) (z : List Int) : Prop :=
  (matB p r c xs = true → zp = p ∧ zr = spanN p c.toNat (rowsC xs c.toNat r.toNat c.toNat) ∧ zc = c ∧ z = spanX p c.toNat (rowsC xs c.toNat r.toNat c.toNat)) ∧ (matB p r c xs = false → zp = 0 ∧ zr = 0 ∧ zc = 0 ∧ z = [])
theorem spn_ex (p r c : Int) (xs : List Int) : ∃ zp zr zc z, SpnIs p r c xs zp zr zc z := by
  cases h : matB p r c xs with
  | true => exact ⟨_, _, _, _, fun _ => ⟨rfl, rfl, rfl, rfl⟩, fun h' => by rw [h] at h'; cases h'⟩
  | false => exact ⟨0, 0, 0, [], (fun h' => by rw [h] at h'; cases h'), fun _ => ⟨rfl, rfl, rfl, rfl⟩⟩
theorem SpnIs.len {p r c : Int} {xs : List Int} {zp zr zc : Int} {z : List Int} (h : SpnIs p r c xs zp zr zc z) : z.length ≤ 1000 := by
  cases hm : matB p r c xs with
  | true =>
    obtain ⟨_, _, _, rfl⟩ := h.1 hm
    have hM := matB_P hm
    obtain ⟨R, C, rfl, rfl, hR7, hC1, hC7, hxl⟩ := hM.nats
    unfold spanX
    rw [flatK_len]
    have h1 := spanN_le (n := C) hM.1 (rowsC_ok (by have := hM.1.two; omega) hM.rg C R C)
    simp only [Int.toNat_natCast]
    have := nat_mul_small (r := spanN p C (rowsC xs C R C)) (c := C) (by omega) (by omega)
    omega
  | false => obtain ⟨_, _, _, rfl⟩ := h.2 hm; simp
theorem FreshMx.zeroB {w w1 w5 : World} {g : Nat} (hw : Below w.heap.size w w1) (hg : w.heap.size ≤ g) (hg5 : w1.grownBy w5 (some g)) : FreshMx w w5 (.returned (.agg #[.int .i64 0, .int .i64 0, .int .i64 0, .slice none 0 0])) 0 0 0 [] :=
  ⟨none, 0, 0, rfl, Own.nil _ _ _, hw.grown hg5 hw.size (by rintro q ⟨⟩; exact hg)⟩
set_option maxRecDepth 100000 in
set_option maxHeartbeats 4000000 in
theorem implSpanOf_z (p r c : Int) (A : Option Addr) (n k : Nat) (xs : List Int) (w : World) (hs : SI w A n xs) (hn : n ≤ 1099511627776) (hnk : n ≤ k) (zp zr zc : Int) (z : List Int) (hz : SpnIs p r c xs zp zr zc z) :
    Calls Try.prog 183 #[.agg #[.int .i64 p, .int .i64 r, .int .i64 c, .slice A n k]] w fun e w' => FreshMx w w' e zp zr zc z := by
  obtain ⟨w1, hw1⟩ : ∃ w1, w1 = (w.alloc (.cells #[.int .i64 p, .int .i64 r, .int .i64 c, .slice A n k] 27)).alloc (.cells #[.int .i64 0, .int .i64 0, .int .i64 0, .slice none 0 0] 27) := ⟨_, rfl⟩
  obtain ⟨g, hg⟩ : ∃ g, g = w.heap.size := ⟨_, rfl⟩
  have hk : Blk w1 g 27 #[.int .i64 p, .int .i64 r, .int .i64 c, .slice A n k] := by rw [hw1, hg]; exact (Blk.new _ _ _).alloc _
  have hk2 : Blk w1 (g + 1) 27 #[.int .i64 0, .int .i64 0, .int .i64 0, .slice none 0 0] := by
    rw [hw1, hg]
    have := Blk.new (w.alloc (.cells #[.int .i64 p, .int .i64 r, .int .i64 c, .slice A n k] 27)) 27 #[.int .i64 0, .int .i64 0, .int .i64 0, .slice none 0 0]
    simpa using this
  have hb : Below w.heap.size w w1 := by rw [hw1]; go_grown
  have HB := Lib.hid hb
  have HW := Lib.hid hw1
  have HG := Lib.hid hg
  have HK := Lib.hid hk
  have HK2 := Lib.hid hk2
  have HSZ : Hid (w1.heap.size = g + 1 + 1) := Lib.hid (by rw [hw1, hg]; simp)
  have HL := Lib.hid hs.1
  have HS := Lib.hid (hs.below hb (Nat.le_refl _))
  have HMO := Lib.hid (implMatrixOk_any p r c A n k xs w1 (hs.below hb (Nat.le_refl _)) hn)
  clear hw1 hg hk hk2 hb hs
  cases hm : matB p r c xs with
  | false =>
    rw [hm] at HMO
    obtain ⟨rfl, rfl, rfl, rfl⟩ := hz.2 hm
    clear hm hz
    go_enter Try.func183, Try.ntmps183
    go_upto_region 1 with fail
    rw [← HW.out, ← HG.out]
    go_wp2_with (first
      | (refine wpList_load_rowP rfl 27 (.tmp 1) rfl g rfl 27 #[.int .i64 p, .int .i64 r, .int .i64 c, .slice A n k] _ HK.out Try.underlying27 rfl Try.infoMx ?_)
      | (go_at_call 127
         with_reducible refine HMO.out.mono ?_
         rintro e w2 ⟨rfl, hb2⟩
         have HB2 := Lib.hid hb2
         have HR2 := Lib.hid (HK2.out.below hb2 HK2.out.lt)
         clear hb2)
      | (refine wpList_store_rowP rfl 27 (.tmp 2) (.tmp 6) rfl (g + 1) #[.int .i64 0, .int .i64 0, .int .i64 0, .slice none 0 0] rfl rfl 27 #[.int .i64 0, .int .i64 0, .int .i64 0, .slice none 0 0] HR2.out Try.infoMx rfl (by simp [Value.oneCell']) ?_; intro w5 hb5 hg5)
      | fail)
    refine bodyPost_ret (results_rowP Try.results183 _ _ _ 27 #[.int .i64 0, .int .i64 0, .int .i64 0, .slice none 0 0] _ rfl hb5 Try.underlying27 rfl Try.infoMx) rfl ?_
    exact FreshMx.zeroB (HB.out.trans (HB2.out.mono HB.out.size)) (by have := HG.out; omega) hg5
  | true =>
    rw [hm] at HMO
    have HM := Lib.hid (matB_P hm)
    obtain ⟨rfl, rfl, rfl, rfl⟩ := hz.1 hm
    clear hm hz
    obtain ⟨R, C, rfl, rfl, hR7, hC1, hC7, hxl⟩ := HM.out.nats
    simp only [Int.toNat_natCast]
    have HXL := Lib.hid hxl
    have HRO := Lib.hid (rowsC_ok (by have := HM.out.1.two; omega) HM.out.rg C R C)
    have HSP := Lib.hid (fun g' w' (h : LS w' (some ⟨g', 0, none⟩) R (rowsC xs C R C)) => spanOf_any zp C R R (some ⟨g', 0, none⟩) (rowsC xs C R C) w' HM.out.1 h (by omega) HRO.out ⟨hC1, by omega⟩)
    clear hxl
    go_enter Try.func183, Try.ntmps183
    go_upto_region 1 with fail
    rw [← HW.out, ← HG.out]
    go_upto_region 3 with (first
      | (refine wpList_load_rowP rfl 27 (.tmp 1) rfl g rfl 27 #[.int .i64 zp, .int .i64 R, .int .i64 C, .slice A n k] _ HK.out Try.underlying27 rfl Try.infoMx ?_)
      | (go_at_call 127
         with_reducible refine HMO.out.mono ?_
         rintro e w2 ⟨rfl, hb2⟩
         have HB2 := Lib.hid hb2
         have HK3 := Lib.hid (HK.out.below hb2 HK.out.lt)
         have HR3 := Lib.hid (HK2.out.below hb2 HK2.out.lt)
         clear hb2)
      | fail)
    have hqd : w2.drew.cell? ⟨g, 0, none⟩ = some (.int .i64 zp) ∧ w2.drew.cell? ⟨g, 1, none⟩ = some (.int .i64 R) ∧ w2.drew.cell? ⟨g, 2, none⟩ = some (.int .i64 C) ∧ w2.drew.cell? ⟨g, 3, none⟩ = some (.slice A n k) := cells4 HK3.out
    have HQD := Lib.hid hqd
    have HQ := Lib.hid (cells4 HK3.out)
    have HAR := Lib.hid (fun w' (hb' : Below w2.heap.size w2 w') => allRows_any zp R C A n k xs w' ((HS.out.below HB2.out (Nat.le_refl _)).below hb' (Nat.le_refl _)) ⟨hC1, by omega⟩ (by omega) HXL.out hnk)
    clear hqd
    go_region_held3 (fun w' => w'.cell? ⟨g, 0, none⟩ = some (.int .i64 zp) ∧ w'.cell? ⟨g, 1, none⟩ = some (.int .i64 R) ∧ w'.cell? ⟨g, 2, none⟩ = some (.int .i64 C) ∧ w'.cell? ⟨g, 3, none⟩ = some (.slice A n k))
      (first | exact HQD.out | exact HQ.out | exact K4 | exact K5 | exact KZ)
      (first
        | (go_at_call 76
           with_reducible refine (HSP.out g4 w4 HLS4.out).mono ?_
           rintro e w5 ⟨B1, m1, d1, rfl, ho5, hb5⟩
           have HB5 : Hid (Below w2.heap.size w2 w5) := Lib.hid (HB4.out.trans (hb5.mono HB4.out.size))
           have HS5 : Hid (w4.heap.size ≤ w5.heap.size) := Lib.hid hb5.size
           have HK5 := Lib.hid (HK3.out.below HB5.out HK3.out.lt)
           have K5 := cells4 HK5.out
           have HR5 := Lib.hid (HR3.out.below HB5.out HR3.out.lt)
           obtain ⟨rr0, rr1, rr2, rr3⟩ := cells4 HR5.out
           obtain ⟨ff0, ff1, ff2, ff3⟩ := frozenM HR5.out
           have KZ := cells4 ((((HK5.out.far (p := ⟨g + 1, 0, none⟩) (by show g ≠ g + 1; omega) (.int .i64 zp)).far (p := ⟨g + 1, 1, none⟩) (by show g ≠ g + 1; omega) (.int .i64 (spanN zp C (rowsC xs C R C)))).far (p := ⟨g + 1, 2, none⟩) (by show g ≠ g + 1; omega) (.int .i64 C)).far (p := ⟨g + 1, 3, none⟩) (by show g ≠ g + 1; omega) (.slice B1 m1 d1))
           have HO5 := Lib.hid ho5
           have HRP : Hid (Blk ((((w5.setCell ⟨g + 1, 0, none⟩ (.int .i64 zp)).setCell ⟨g + 1, 1, none⟩ (.int .i64 (spanN zp C (rowsC xs C R C)))).setCell ⟨g + 1, 2, none⟩ (.int .i64 C)).setCell ⟨g + 1, 3, none⟩ (.slice B1 m1 d1)) (g + 1) 27 #[.int .i64 zp, .int .i64 (spanN zp C (rowsC xs C R C)), .int .i64 C, .slice B1 m1 d1]) := Lib.hid ((((HR5.out.set_ 0 _).set_ 1 _).set_ 2 _).set_ 3 _)
           have HGP := Lib.hid (grown_putM w5 (g + 1) (.int .i64 zp) (.int .i64 (spanN zp C (rowsC xs C R C))) (.int .i64 C) (.slice B1 m1 d1))
           clear ho5 hb5)
        | (go_at_call 70
           with_reducible refine (HAR.out _ ((Below.refl _ _).drew)).mono ?_
           rintro e w4 ⟨g4, rfl, hls4, hb4⟩
           have HB4 : Hid (Below w2.heap.size w2 w4) := Lib.hid (((Below.refl _ _).drew).trans hb4)
           have HK4 := Lib.hid (HK3.out.below HB4.out HK3.out.lt)
           have K4 := cells4 HK4.out
           have HLS4 := Lib.hid hls4
           clear hls4 hb4))
    go_wp2
    refine bodyPost_ret (results_rowP Try.results183 _ _ _ 27 #[.int .i64 zp, .int .i64 (spanN zp C (rowsC xs C R C)), .int .i64 C, .slice B1 m1 d1] _ rfl HRP.out Try.underlying27 rfl Try.infoMx) rfl ?_
    have l1 := HSZ.out
    have l2 := HG.out
    have l3 := HGP.out.size
    have l4 := HB4.out.size
    have l5 := HB.out.size
    have l6 := HB2.out.size
    have l7 := HS5.out
    have l8 := HB5.out.size
    refine ⟨B1, m1, d1, rfl, ?_, ?_⟩
    · exact (HO5.out.grown HGP.out (fun q hq => by injection hq with hq; omega)).wide (by omega) l3
    · exact ((HB.out.trans (HB2.out.mono l5)).trans (HB5.out.mono (by omega))).grown HGP.out (by omega) (by rintro q ⟨⟩; omega)
end Go.Proofs.Ytfaegfhbbkicgaa

/-
  The helpers of the exact laws at terms: copying, measuring, comparing. Conditions: lengths below 2^40.
-/

namespace Go.Proofs.Ytfaegfhbbkicgaa
open Go.RowKit

theorem grown_set (w : World) (a : Addr) (u : Value) : w.grownBy (w.setCell a u) (some a.block) :=
  ⟨rfl, rfl, rfl, by simp [World.setCell], fun k _ hk => Below.heap_setCell w a u k (fun e => hk (by rw [e]))⟩
theorem results_row {P : Program} {fn : Func} {p : Tmp} {ty : TypeId} (h : fn.results = #[.cell p ty]) (tmps : Array Value) (w : World) (g : Nat) (t : TypeId) (cs : Array Value) (d : TypeDesc)
    (hp : tmps.getD p undef = .pointer (some ⟨g, 0, none⟩)) (hg : Blk w g t cs) (hu : P.underlying ty = some d) (hd : (match d with | .struct _ | .array _ _ => true | _ => false) = true) (hi : (P.info? ty).map (·.size) = some cs.size) :
    (results fn tmps).run P w = .ok (.agg cs) w :=
  results_cell_row h tmps w g t cs (0, 0) d hp hg hu hd hi

/-- The terms copied after k rounds. -/
def copT (ts : List Tm) (k : Nat) : List Tm := ts.take k ++ zeroT (ts.length - k)
theorem copT_zero (ts : List Tm) : copT ts 0 = zeroT ts.length := by simp [copT]
theorem copT_all (ts : List Tm) : copT ts ts.length = ts := by simp [copT, zeroT]
theorem copT_succ {ts : List Tm} {k : Nat} (h : k < ts.length) : (copT ts k).set k ((tm ts k).1, (tm ts k).2) = copT ts (k + 1) := by
  unfold copT zeroT
  have hl : (ts.take k).length = k := by simp; omega
  rw [List.set_append_right _ _ (by omega), hl]
  have e : ts.length - k = (ts.length - (k + 1)) + 1 := by omega
  rw [e, List.replicate_succ, Nat.sub_self, List.set_cons_zero, take_tm h, List.append_assoc]
  rfl

end Go.Proofs.Ytfaegfhbbkicgaa

/-
  The helpers of the exact laws at terms: measuring and comparing. Conditions: lengths below 2^40.
-/




namespace Go.Proofs.Ytfaegfhbbkicgaa
open Go.RowKit

section
variable {P : Program} {ops : Array Oper} {C : World → Prop} {Q : Act → Prop} {a : Act} {o : Oper} {rest : List Oper}
theorem tq_class {id : Nat} {Q : Exit → Act → World → Prop} {w : World} {l : List Oper} (C : World → Prop) (hm : P.follows .mixedOrders = true) (hB : Region.lexB .any l.toArray = true) (hC : C w.drew)
    (h : wpQuiet P l.toArray C (fun a' => ∀ w', C w' → Q .normal a' w') l a) : (Code.region id l.toArray true).wp P Q a w :=
  wp_region_quiet hm hB hC (by simpa using h)
theorem tq_move (hg : o.guard = none) (x : Operand) (ho : o.op = .move x) (h : wpQuiet P ops C Q rest (a.put o.dst (a.eval x))) : wpQuiet P ops C Q (o :: rest) a := by
  refine wpQuiet_step fun K hK => ?_
  simp only [Region.wanted, hg, if_true]
  refine ⟨a.eval x, fun w _ => ?_, hK _ h⟩
  unfold Oper.quietAt execOp
  simp only [ho]
  exact ⟨rfl, rfl⟩
theorem tq_load (hg : o.guard = none) (ty : TypeId) (x : Operand) (ho : o.op = .load ty x) (b off : Nat) (hx : a.eval x = .pointer (some ⟨b, off, none⟩)) (cs : List Value) (d : TypeDesc)
    (hb : ∀ w, C w → w.rangeAt b off cs) (hu : P.underlying ty = some d) (hd : d.isRow = true) (hi : (P.info? ty).map (·.size) = some cs.length) (h : wpQuiet P ops C Q rest (a.put o.dst (.agg cs.toArray))) : wpQuiet P ops C Q (o :: rest) a := by
  refine wpQuiet_step fun K hK => ?_
  simp only [Region.wanted, hg, if_true]
  refine ⟨.agg cs.toArray, fun w hw => ?_, hK _ h⟩
  unfold Oper.quietAt execOp
  simp only [ho, hx, Instr.loadAt, Instr.sureAddr, Sem.run_bind, Sem.run_pure, Result.andThen_ok, run_loadVar_mid w b off ty cs d (hb w hw) hu hd hi]
  exact ⟨rfl, rfl⟩
end
/-- Worlds in which nothing has turned that was there. -/
def AfterT (wr w' : World) : Prop := Below wr.heap.size wr w'

/-- Equality of two lists of terms as a Bool. -/
def eqTs (ts us : List Tm) : Bool := decide (ts = us)
theorem eqTs_self (ts : List Tm) : eqTs ts ts = true := by simp [eqTs]
theorem eqTs_len {ts us : List Tm} (h : ts.length ≠ us.length) : eqTs ts us = false := by
  simp only [eqTs, decide_eq_false_iff_not]; intro e; exact h (by rw [e])
theorem eqTs_all {ts us : List Tm} (hl : ts.length = us.length) (h : ∀ j, j < ts.length → tm ts j = tm us j) : eqTs ts us = true := by
  simp only [eqTs, decide_eq_true_eq]
  exact tm_ext hl h
theorem eqTs_ne {ts us : List Tm} {k : Nat} (h : tm ts k ≠ tm us k) : eqTs ts us = false := by
  simp only [eqTs, decide_eq_false_iff_not]; intro e; exact h (by rw [e])
theorem TS.range {w : World} {b o k : Nat} {v : Value} {x : Int} (h0 : w.cell? ⟨b, o + k * 2, none⟩ = some v) (h1 : w.cell? ⟨b, o + k * 2 + 1, none⟩ = some (.int .i64 x)) : w.rangeAt b (o + k * 2) [v, .int .i64 x] := by
  intro j u hj
  match j, hj with
  | 0, hj => simp at hj; subst hj; exact h0
  | 1, hj => simp at hj; subst hj; exact h1

end Go.Proofs.Ytfaegfhbbkicgaa

/-
  The coefficient at given exponents, on both sides. Conditions: lengths below 2^40.
-/

namespace Go.Proofs.Ytfaegfhbbkicgaa
open Go.RowKit

set_option maxHeartbeats 400000 in
/-- l1Same: are the two lists one. -/
theorem l1Same_any (A A' : Option Addr) (n c n' c' : Nat) (xs ys : List Int) (w : World) (hs : SI w A n xs) (hs' : SI w A' n' ys) (hn : n ≤ 1099511627776) (hn' : n' ≤ 1099511627776) :
    Calls Try.prog 171 #[.slice A n c, .slice A' n' c'] w fun e w' => e = .returned (.bool (eqL xs ys)) ∧ Drawn w w' := by
  have hl := hs.1
  have hl' := hs'.1
  by_cases hne : n = n'
  · subst hne
    go_enter Try.func171, Try.ntmps171
    go_wp2
    go_loopw [5] (fun i wr => ∃ k : Nat, k ≤ n ∧ i = .int .i64 k ∧ Drawn w wr ∧ ∀ j, j < k → nth xs j = nth ys j)
      (fun i _ => n - (intOf i).toNat)
    case atStart => exact ⟨0, Nat.zero_le _, rfl, Drawn.refl _, fun j hj => absurd hj (by omega)⟩
    case round =>
      obtain ⟨k, hk, rfl, hD, hall⟩ := hrel
      have HA := Lib.hid hall
      have hs := hD.si hs
      have hs' := hD.si hs'
      have HD := Lib.hid hD
      clear hall hD
      by_cases hlt : k < n
      · obtain ⟨b, o, rfl, hb, hc⟩ := hs.at_ (by omega)
        obtain ⟨b', o', rfl, hb', hc'⟩ := hs'.at_ (by omega)
        have hc1 := hc k hlt
        have hc1' := hc' k hlt
        clear hc hc' hs hs' hl hl'
        by_cases heq : nth xs k = nth ys k
        · have HE := Lib.hid heq
          rw [← heq] at hc1'
          clear heq
          obtain ⟨x, hx⟩ : ∃ x, x = nth xs k := ⟨_, rfl⟩
          rw [← hx] at hc1 hc1'
          clear hx
          have hlI : (k : Int) < (n : Int) := by omega
          go_wp2_with fail
          go_quiet (fail)
          go_wp2
          go_roundw
          case rel => exact ⟨k + 1, by omega, by go_num, HD.out.drewN _, fun j hj => by
            rcases Nat.lt_or_ge j k with h | h
            · exact HA.out j h
            · obtain rfl : j = k := by omega
              exact HE.out⟩
          case measure => simp [intOf]; omega
        · have HE := Lib.hid heq
          obtain ⟨x, hx⟩ : ∃ x, x = nth xs k := ⟨_, rfl⟩
          obtain ⟨y, hy⟩ : ∃ y, y = nth ys k := ⟨_, rfl⟩
          rw [← hx] at hc1 heq
          rw [← hy] at hc1' heq
          clear hx hy
          have hlI : (k : Int) < (n : Int) := by omega
          have hb : (x != y) = true := by simpa using heq
          clear heq
          go_wp2_with fail
          go_quiet (fail)
          go_wp2
          go_ret
          exact ⟨ret_bool (eqL_ne HE.out).symm, HD.out.drewN _⟩
      · have hkn : k = n := by omega
        subst hkn
        go_wp2
        go_ret
        exact ⟨ret_bool (eqL_all (by omega) (by rw [hl]; exact HA.out)).symm, HD.out⟩
  · have hne' : ¬ (n : Int) = (n' : Int) := by omega
    go_enter Try.func171, Try.ntmps171
    go_wp2
    go_ret
    exact ⟨ret_bool (eqL_len (by omega)).symm, Drawn.refl _⟩

set_option maxHeartbeats 400000 in
/-- slices.Equal: are the two lists one. -/
theorem slicesEqual_any (A A' : Option Addr) (n c n' c' : Nat) (xs ys : List Int) (w : World) (hs : SI w A n xs) (hs' : SI w A' n' ys) (hn : n ≤ 1099511627776) (hn' : n' ≤ 1099511627776) :
    Calls Try.prog 182 #[.slice A n c, .slice A' n' c'] w fun e w' => e = .returned (.bool (eqL xs ys)) ∧ Drawn w w' := by
  have hl := hs.1
  have hl' := hs'.1
  by_cases hne : n = n'
  · subst hne
    go_enter Try.func182, Try.ntmps182
    go_wp2
    go_loopw [13] (fun i wr => ∃ k : Nat, k ≤ n ∧ i = .int .i64 k ∧ Drawn w wr ∧ ∀ j, j < k → nth xs j = nth ys j)
      (fun i _ => n - (intOf i).toNat)
    case atStart => exact ⟨0, Nat.zero_le _, rfl, Drawn.refl _, fun j hj => absurd hj (by omega)⟩
    case round =>
      obtain ⟨k, hk, rfl, hD, hall⟩ := hrel
      have HA := Lib.hid hall
      have hs := hD.si hs
      have hs' := hD.si hs'
      have HD := Lib.hid hD
      clear hall hD
      by_cases hlt : k < n
      · obtain ⟨b, o, rfl, hb, hc⟩ := hs.at_ (by omega)
        obtain ⟨b', o', rfl, hb', hc'⟩ := hs'.at_ (by omega)
        have hc1 := hc k hlt
        have hc1' := hc' k hlt
        clear hc hc' hs hs' hl hl'
        by_cases heq : nth xs k = nth ys k
        · have HE := Lib.hid heq
          rw [← heq] at hc1'
          clear heq
          obtain ⟨x, hx⟩ : ∃ x, x = nth xs k := ⟨_, rfl⟩
          rw [← hx] at hc1 hc1'
          clear hx
          have hlI : (k : Int) < (n : Int) := by omega
          go_wp2_with fail
          go_quiet (fail)
          go_wp2
          go_roundw
          case rel => exact ⟨k + 1, by omega, by go_num, HD.out.drewN _, fun j hj => by
            rcases Nat.lt_or_ge j k with h | h
            · exact HA.out j h
            · obtain rfl : j = k := by omega
              exact HE.out⟩
          case measure => simp [intOf]; omega
        · have HE := Lib.hid heq
          obtain ⟨x, hx⟩ : ∃ x, x = nth xs k := ⟨_, rfl⟩
          obtain ⟨y, hy⟩ : ∃ y, y = nth ys k := ⟨_, rfl⟩
          rw [← hx] at hc1 heq
          rw [← hy] at hc1' heq
          clear hx hy
          have hlI : (k : Int) < (n : Int) := by omega
          have hb : (x != y) = true := by simpa using heq
          clear heq
          go_wp2_with fail
          go_quiet (fail)
          go_wp2
          go_ret
          exact ⟨ret_bool (eqL_ne HE.out).symm, HD.out.drewN _⟩
      · have hkn : k = n := by omega
        subst hkn
        go_wp2
        go_ret
        exact ⟨ret_bool (eqL_all (by omega) (by rw [hl]; exact HA.out)).symm, HD.out⟩
  · have hne' : ¬ (n : Int) = (n' : Int) := by omega
    go_enter Try.func182, Try.ntmps182
    go_wp2
    go_ret
    exact ⟨ret_bool (eqL_len (by omega)).symm, Drawn.refl _⟩


/-- The number of the first term with the exponents e. -/
def coefOf : List Tm → List Int → Int
  | [], _ => 0
  | t :: r, e => if t.1 = e then t.2 else coefOf r e
theorem tm_zero (t : Tm) (r : List Tm) : tm (t :: r) 0 = t := rfl
theorem tm_succ (t : Tm) (r : List Tm) (k : Nat) : tm (t :: r) (k + 1) = tm r k := by simp [tm, List.getD]
theorem coef_none {e : List Int} : ∀ {ts : List Tm}, (∀ j, j < ts.length → ¬ (tm ts j).1 = e) → coefOf ts e = 0
  | [], _ => rfl
  | t :: r, h => by
    have h0 := h 0 (by simp)
    rw [tm_zero] at h0
    unfold coefOf
    rw [if_neg h0]
    exact coef_none fun j hj => by have := h (j + 1) (by simp; omega); rwa [tm_succ] at this
theorem coef_hit {e : List Int} : ∀ {ts : List Tm} {k : Nat}, k < ts.length → (∀ j, j < k → ¬ (tm ts j).1 = e) → (tm ts k).1 = e → coefOf ts e = (tm ts k).2
  | [], k, hk, _, _ => absurd hk (by simp)
  | t :: r, 0, _, _, he => by
    rw [tm_zero] at he ⊢
    unfold coefOf
    rw [if_pos he]
  | t :: r, k + 1, hk, h, he => by
    have h0 := h 0 (by omega)
    rw [tm_zero] at h0
    rw [tm_succ] at he ⊢
    unfold coefOf
    rw [if_neg h0]
    exact coef_hit (by simpa using hk) (fun j hj => by have := h (j + 1) (by omega); rwa [tm_succ] at this) he

end Go.Proofs.Ytfaegfhbbkicgaa

/-
  IsSpace on the program's side. Conditions: lengths below 2^40.
-/


namespace Go.Proofs.Ytfaegfhbbkicgaa
open Go.RowKit

/-- Is the matrix its own reduced form. -/
def isSpB (p r c : Int) (xs : List Int) : Bool := decide (matB p r c xs = true ∧ spanX p c.toNat (rowsC xs c.toNat r.toNat c.toNat) = xs)
theorem isSpB_no {p r c : Int} {xs : List Int} (h : matB p r c xs = false) : isSpB p r c xs = false := by simp [isSpB, h]
theorem isSpB_yes {p r c : Int} {xs : List Int} (h : matB p r c xs = true) {zp zr zc : Int} {z : List Int} (hz : SpnIs p r c xs zp zr zc z) : eqL z xs = isSpB p r c xs := by
  obtain ⟨_, _, _, rfl⟩ := hz.1 h
  simp [isSpB, h, eqL]
theorem Try.fieldMx3 (a b c d : Value) (w : World) : (Instr.field 27 (.agg #[a, b, c, d]) 3).run Try.prog w = .ok d w := by kernel_rfl
set_option maxRecDepth 100000 in
set_option maxHeartbeats 4000000 in
theorem implIsSpace_any (p r c : Int) (A : Option Addr) (n k : Nat) (xs : List Int) (w : World) (hs : SI w A n xs) (hn : n ≤ 1099511627776) (hnk : n ≤ k) :
    Calls Try.prog 134 #[.agg #[.int .i64 p, .int .i64 r, .int .i64 c, .slice A n k]] w fun e w' => e = .returned (.bool (isSpB p r c xs)) ∧ Below w.heap.size w w' := by
  obtain ⟨w1, hw1⟩ : ∃ w1, w1 = w.alloc (.cells #[.int .i64 p, .int .i64 r, .int .i64 c, .slice A n k] 27) := ⟨_, rfl⟩
  obtain ⟨g, hg⟩ : ∃ g, g = w.heap.size := ⟨_, rfl⟩
  have hk : Blk w1 g 27 #[.int .i64 p, .int .i64 r, .int .i64 c, .slice A n k] := by rw [hw1, hg]; exact Blk.new _ _ _
  have hb : Below w.heap.size w w1 := by rw [hw1]; exact Below.alloc_self _ _
  have HB := Lib.hid hb
  have HW := Lib.hid hw1
  have HG := Lib.hid hg
  have HK := Lib.hid hk
  have HS := Lib.hid (hs.below hb (Nat.le_refl _))
  have HMO := Lib.hid (fun w' (hb' : Below w1.heap.size w1 w') => implMatrixOk_any p r c A n k xs w' (HS.out.below hb' (Nat.le_refl _)) hn)
  have hqd : w1.drew.cell? ⟨g, 0, none⟩ = some (.int .i64 p) ∧ w1.drew.cell? ⟨g, 1, none⟩ = some (.int .i64 r) ∧ w1.drew.cell? ⟨g, 2, none⟩ = some (.int .i64 c) ∧ w1.drew.cell? ⟨g, 3, none⟩ = some (.slice A n k) := cells4 hk
  have HQD := Lib.hid hqd
  have HQ := Lib.hid (cells4 hk)
  clear hw1 hg hk hb hs hqd
  cases hm : matB p r c xs with
  | false =>
    rw [hm] at HMO
    have HM := Lib.hid hm
    clear hm
    go_enter Try.func134, Try.ntmps134
    go_upto_region 1 with fail
    rw [← HW.out, ← HG.out]
    obtain ⟨q0, q1, q2, q3⟩ := HQ.out
    first
      | (go_region_with (first
      | (go_at_call 127
         with_reducible refine (HMO.out _ ((Below.refl _ _).drew)).mono ?_
         rintro e w2 ⟨rfl, hb2⟩
         have HB2 : Hid (Below w1.heap.size w1 w2) := Lib.hid (((Below.refl _ _).drew).trans hb2)
         clear hb2)))
      | fail
    all_goals
      (go_wp2
       go_ret
       exact ⟨ret_bool (isSpB_no HM.out).symm, HB.out.trans (HB2.out.mono HB.out.size)⟩)
  | true =>
    rw [hm] at HMO
    obtain ⟨zp, zr, zc, z, hz⟩ := spn_ex p r c xs
    have HF := Lib.hid (isSpB_yes hm hz)
    have HZL := Lib.hid hz.len
    have HSO := Lib.hid (fun w' (hb' : Below w1.heap.size w1 w') => implSpanOf_z p r c A n k xs w' (HS.out.below hb' (Nat.le_refl _)) hn hnk zp zr zc z hz)
    clear hm hz
    go_enter Try.func134, Try.ntmps134
    go_upto_region 1 with fail
    rw [← HW.out, ← HG.out]
    go_region_held3 (fun w' => w'.cell? ⟨g, 0, none⟩ = some (.int .i64 p) ∧ w'.cell? ⟨g, 1, none⟩ = some (.int .i64 r) ∧ w'.cell? ⟨g, 2, none⟩ = some (.int .i64 c) ∧ w'.cell? ⟨g, 3, none⟩ = some (.slice A n k))
      (first | exact HQD.out | exact HQ.out | exact K2 | exact K3 | exact K4)
      (first
        | (go_at_call 182
           with_reducible refine (HEQ.out _ HB3.out).mono ?_
           rintro e w4 ⟨rfl, hd4⟩
           have HB4 : Hid (Below w1.heap.size w1 w4) := Lib.hid (HB3.out.trans (hd4.below _))
           have K4 := cells4 (HK.out.below HB4.out HK.out.lt)
           clear hd4)
        | (go_at_call 183
           with_reducible refine (HSO.out _ HB2.out).mono ?_
           rintro e w3 ⟨B3, m3, d3, rfl, ho3, hb3⟩
           have HB3 : Hid (Below w1.heap.size w1 w3) := Lib.hid (HB2.out.trans (hb3.mono HB2.out.size))
           have K3 := cells4 (HK.out.below HB3.out HK.out.lt)
           have HO3 := Lib.hid ho3
           have hfld := fun w' => Try.fieldMx3 (.int .i64 zp) (.int .i64 zr) (.int .i64 zc) (.slice B3 m3 d3) w'
           have HEQ : Hid (∀ w', Below w1.heap.size w1 w' → Calls Try.prog 182 #[.slice B3 m3 d3, .slice A n k] w3 fun e w' => e = .returned (.bool (eqL z xs)) ∧ Drawn w3 w') := Lib.hid (fun _ _ => slicesEqual_any B3 A m3 d3 n k z xs w3 HO3.out.si (HS.out.below HB3.out (Nat.le_refl _)) (by have := HO3.out.len; have := HZL.out; omega) hn)
           clear ho3 hb3)
        | (go_at_call 127
           with_reducible refine (HMO.out _ ((Below.refl _ _).drew)).mono ?_
           rintro e w2 ⟨rfl, hb2⟩
           have HB2 : Hid (Below w1.heap.size w1 w2) := Lib.hid (((Below.refl _ _).drew).trans hb2)
           have K2 := cells4 (HK.out.below HB2.out HK.out.lt)
           clear hb2))
    go_wp2
    go_ret
    exact ⟨ret_bool HF.out, HB.out.trans (HB4.out.mono HB.out.size)⟩
end Go.Proofs.Ytfaegfhbbkicgaa

/-
  Spans on the document's side: the first rows. Conditions: sizes at most 14.
-/


namespace Go.Proofs.Ytfaegfhbbkicgaa
open Go.RowKit

theorem Own.shape_ {w : World} {lo hi n c : Nat} {A : Option Addr} {xs : List Int} (h : Own w lo hi A n c xs) : (A = none ∧ n = 0 ∧ c = 0) ∨ ∃ g, A = some ⟨g, 0, none⟩ := by
  rcases h.1.2 with ⟨e1, _⟩ | ⟨g', cap, cur, e1, _, hg, _⟩
  · injection e1 with e2 e3 e4
    exact Or.inl ⟨e2, e3, e4⟩
  · injection e1 with e2 e3 e4
    exact Or.inr ⟨g', e2⟩
set_option maxRecDepth 100000 in
set_option maxHeartbeats 4000000 in
theorem l7Top_some (p r : Int) (C R b n k : Nat) (xs : List Int) (w : World) (hs : SI w (some ⟨b, 0, none⟩) n xs) (hC : C ≤ 14) (hR : R ≤ 14) (hRC : R * C ≤ n) (hnk : n ≤ k) :
    Calls Try.prog 125 #[.agg #[.int .i64 p, .int .i64 r, .int .i64 C, .slice (some ⟨b, 0, none⟩) n k], .int .i64 R] w fun e w' => FreshMx w w' e p R C (xs.take (R * C)) := by
  obtain ⟨w1, hw1⟩ : ∃ w1, w1 = (w.alloc (.cells #[.int .i64 p, .int .i64 r, .int .i64 C, .slice (some ⟨b, 0, none⟩) n k] 27)).alloc (.cells #[.int .i64 0, .int .i64 0, .int .i64 0, .slice none 0 0] 27) := ⟨_, rfl⟩
  obtain ⟨g, hg⟩ : ∃ g, g = w.heap.size := ⟨_, rfl⟩
  have hk : Blk w1 g 27 #[.int .i64 p, .int .i64 r, .int .i64 C, .slice (some ⟨b, 0, none⟩) n k] := by rw [hw1, hg]; exact (Blk.new _ _ _).alloc _
  have hk2 : Blk w1 (g + 1) 27 #[.int .i64 0, .int .i64 0, .int .i64 0, .slice none 0 0] := by
    rw [hw1, hg]
    have := Blk.new (w.alloc (.cells #[.int .i64 p, .int .i64 r, .int .i64 C, .slice (some ⟨b, 0, none⟩) n k] 27)) 27 #[.int .i64 0, .int .i64 0, .int .i64 0, .slice none 0 0]
    simpa using this
  have hb : Below w.heap.size w w1 := by rw [hw1]; go_grown
  obtain ⟨N, hN⟩ : ∃ N, N = R * C := ⟨_, rfl⟩
  rw [← hN] at hRC ⊢
  have hN196 : N ≤ 196 := by have := nat_mul_small hR hC; omega
  have hwr : IntKind.i64.wrap ((R : Int) * (C : Int)) = (N : Int) := wrap_mul_nat hN (by omega)
  have hNk : N ≤ k := by omega
  have HS := Lib.hid (hs.below hb (Nat.le_refl _))
  have HB1 := Lib.hid hb
  have HW := Lib.hid hw1
  have HG := Lib.hid hg
  have HK := Lib.hid hk
  have HK2 := Lib.hid hk2
  have HSZ : Hid (w1.heap.size = g + 1 + 1) := Lib.hid (by rw [hw1, hg]; simp)
  have hqd : w1.drew.cell? ⟨g, 0, none⟩ = some (.int .i64 p) ∧ w1.drew.cell? ⟨g, 1, none⟩ = some (.int .i64 r) ∧ w1.drew.cell? ⟨g, 2, none⟩ = some (.int .i64 C) ∧ w1.drew.cell? ⟨g, 3, none⟩ = some (.slice (some ⟨b, 0, none⟩) n k) := cells4 hk
  have HQD := Lib.hid hqd
  have HQ := Lib.hid (cells4 hk)
  have HC1 := Lib.hid (fun w' (hb' : Below w1.heap.size w1 w') => l1Ints_any (some ⟨b, 0, none⟩) N k (xs.take N) w' ((HS.out.below hb' (Nat.le_refl _)).take hRC) (by omega))
  have hNI : (0 : Int) ≤ (N : Int) := by omega
  have hNkI : (N : Int) ≤ (k : Int) := by omega
  clear hw1 hg hk hk2 hb hs hqd hN hRC hC hR
  go_enter Try.func125, Try.ntmps125
  go_upto_region 1 with fail
  rw [← HW.out, ← HG.out]
  go_region_held3 (fun w' => w'.cell? ⟨g, 0, none⟩ = some (.int .i64 p) ∧ w'.cell? ⟨g, 1, none⟩ = some (.int .i64 r) ∧ w'.cell? ⟨g, 2, none⟩ = some (.int .i64 C) ∧ w'.cell? ⟨g, 3, none⟩ = some (.slice (some ⟨b, 0, none⟩) n k))
    (first | exact HQD.out | exact HQ.out | exact K4 | exact KZ)
    (first
      | (go_at_call 170
         with_reducible refine (HC1.out _ ((Below.refl _ _).drew)).mono ?_
         rintro e w4 ⟨B1, m1, d1, rfl, ho4, hb4⟩
         have HB4 : Hid (Below w1.heap.size w1 w4) := Lib.hid (((Below.refl _ _).drew).trans hb4)
         have HK4 := Lib.hid (HK.out.below HB4.out HK.out.lt)
         have K4 := cells4 HK4.out
         have HR4 := Lib.hid (HK2.out.below HB4.out HK2.out.lt)
         obtain ⟨rr0, rr1, rr2, rr3⟩ := cells4 HR4.out
         obtain ⟨ff0, ff1, ff2, ff3⟩ := frozenM HR4.out
         have KZ := cells4 ((((HK4.out.far (p := ⟨g + 1, 0, none⟩) (by show g ≠ g + 1; omega) (.int .i64 p)).far (p := ⟨g + 1, 1, none⟩) (by show g ≠ g + 1; omega) (.int .i64 R)).far (p := ⟨g + 1, 2, none⟩) (by show g ≠ g + 1; omega) (.int .i64 C)).far (p := ⟨g + 1, 3, none⟩) (by show g ≠ g + 1; omega) (.slice B1 m1 d1))
         have HO4 : Hid (Own w4 w1.heap.size w4.heap.size B1 m1 d1 (xs.take N)) := Lib.hid ho4
         have HRP : Hid (Blk ((((w4.setCell ⟨g + 1, 0, none⟩ (.int .i64 p)).setCell ⟨g + 1, 1, none⟩ (.int .i64 R)).setCell ⟨g + 1, 2, none⟩ (.int .i64 C)).setCell ⟨g + 1, 3, none⟩ (.slice B1 m1 d1)) (g + 1) 27 #[.int .i64 p, .int .i64 R, .int .i64 C, .slice B1 m1 d1]) := Lib.hid ((((HR4.out.set_ 0 _).set_ 1 _).set_ 2 _).set_ 3 _)
         have HGP := Lib.hid (grown_putM w4 (g + 1) (.int .i64 p) (.int .i64 R) (.int .i64 C) (.slice B1 m1 d1))
         clear ho4 hb4))
  go_wp2
  refine bodyPost_ret (results_rowP Try.results125 _ _ _ 27 #[.int .i64 p, .int .i64 R, .int .i64 C, .slice B1 m1 d1] _ rfl HRP.out Try.underlying27 rfl Try.infoMx) rfl ?_
  have l1 := HSZ.out
  have l2 := HG.out
  have l3 := HGP.out.size
  have l4 := HB4.out.size
  have l5 := HB1.out.size
  refine ⟨B1, m1, d1, rfl, ?_, ?_⟩
  · exact (HO4.out.grown HGP.out (fun q hq => by injection hq with hq; omega)).wide (by omega) l3
  · exact (HB1.out.trans (HB4.out.mono l5)).grown HGP.out (by omega) (by rintro q ⟨⟩; omega)
-- none
set_option maxRecDepth 100000 in
set_option maxHeartbeats 4000000 in
theorem l7Top_none (p r : Int) (C R : Nat) (w : World) (hRC : R * C = 0) :
    Calls Try.prog 125 #[.agg #[.int .i64 p, .int .i64 r, .int .i64 C, .slice none 0 0], .int .i64 R] w fun e w' => FreshMx w w' e p R C [] := by
  obtain ⟨w1, hw1⟩ : ∃ w1, w1 = (w.alloc (.cells #[.int .i64 p, .int .i64 r, .int .i64 C, .slice none 0 0] 27)).alloc (.cells #[.int .i64 0, .int .i64 0, .int .i64 0, .slice none 0 0] 27) := ⟨_, rfl⟩
  obtain ⟨g, hg⟩ : ∃ g, g = w.heap.size := ⟨_, rfl⟩
  have hk : Blk w1 g 27 #[.int .i64 p, .int .i64 r, .int .i64 C, .slice none 0 0] := by rw [hw1, hg]; exact (Blk.new _ _ _).alloc _
  have hk2 : Blk w1 (g + 1) 27 #[.int .i64 0, .int .i64 0, .int .i64 0, .slice none 0 0] := by
    rw [hw1, hg]
    have := Blk.new (w.alloc (.cells #[.int .i64 p, .int .i64 r, .int .i64 C, .slice none 0 0] 27)) 27 #[.int .i64 0, .int .i64 0, .int .i64 0, .slice none 0 0]
    simpa using this
  have hb : Below w.heap.size w w1 := by rw [hw1]; go_grown
  have hwr : IntKind.i64.wrap ((R : Int) * (C : Int)) = 0 := by have h := wrap_mul_nat (r := R) (c := C) (N := 0) hRC.symm (by omega); simpa using h
  have HB1 := Lib.hid hb
  have HW := Lib.hid hw1
  have HG := Lib.hid hg
  have HK := Lib.hid hk
  have HK2 := Lib.hid hk2
  have HSZ : Hid (w1.heap.size = g + 1 + 1) := Lib.hid (by rw [hw1, hg]; simp)
  have hqd : w1.drew.cell? ⟨g, 0, none⟩ = some (.int .i64 p) ∧ w1.drew.cell? ⟨g, 1, none⟩ = some (.int .i64 r) ∧ w1.drew.cell? ⟨g, 2, none⟩ = some (.int .i64 C) ∧ w1.drew.cell? ⟨g, 3, none⟩ = some (.slice none 0 0) := cells4 hk
  have HQD := Lib.hid hqd
  have HQ := Lib.hid (cells4 hk)
  have HC1 := Lib.hid (fun w' (_ : Below w1.heap.size w1 w') => l1Ints_any none 0 0 [] w' (SI.nil _ _) (by omega))
  clear hw1 hg hk hk2 hb hqd hRC
  go_enter Try.func125, Try.ntmps125
  go_upto_region 1 with fail
  rw [← HW.out, ← HG.out]
  go_region_held3 (fun w' => w'.cell? ⟨g, 0, none⟩ = some (.int .i64 p) ∧ w'.cell? ⟨g, 1, none⟩ = some (.int .i64 r) ∧ w'.cell? ⟨g, 2, none⟩ = some (.int .i64 C) ∧ w'.cell? ⟨g, 3, none⟩ = some (.slice none 0 0))
    (first | exact HQD.out | exact HQ.out | exact K4 | exact KZ)
    (first
      | (go_at_call 170
         with_reducible refine (HC1.out _ ((Below.refl _ _).drew)).mono ?_
         rintro e w4 ⟨B1, m1, d1, rfl, ho4, hb4⟩
         have HB4 : Hid (Below w1.heap.size w1 w4) := Lib.hid (((Below.refl _ _).drew).trans hb4)
         have HK4 := Lib.hid (HK.out.below HB4.out HK.out.lt)
         have K4 := cells4 HK4.out
         have HR4 := Lib.hid (HK2.out.below HB4.out HK2.out.lt)
         obtain ⟨rr0, rr1, rr2, rr3⟩ := cells4 HR4.out
         obtain ⟨ff0, ff1, ff2, ff3⟩ := frozenM HR4.out
         have KZ := cells4 ((((HK4.out.far (p := ⟨g + 1, 0, none⟩) (by show g ≠ g + 1; omega) (.int .i64 p)).far (p := ⟨g + 1, 1, none⟩) (by show g ≠ g + 1; omega) (.int .i64 R)).far (p := ⟨g + 1, 2, none⟩) (by show g ≠ g + 1; omega) (.int .i64 C)).far (p := ⟨g + 1, 3, none⟩) (by show g ≠ g + 1; omega) (.slice B1 m1 d1))
         have HO4 : Hid (Own w4 w1.heap.size w4.heap.size B1 m1 d1 []) := Lib.hid ho4
         have HRP : Hid (Blk ((((w4.setCell ⟨g + 1, 0, none⟩ (.int .i64 p)).setCell ⟨g + 1, 1, none⟩ (.int .i64 R)).setCell ⟨g + 1, 2, none⟩ (.int .i64 C)).setCell ⟨g + 1, 3, none⟩ (.slice B1 m1 d1)) (g + 1) 27 #[.int .i64 p, .int .i64 R, .int .i64 C, .slice B1 m1 d1]) := Lib.hid ((((HR4.out.set_ 0 _).set_ 1 _).set_ 2 _).set_ 3 _)
         have HGP := Lib.hid (grown_putM w4 (g + 1) (.int .i64 p) (.int .i64 R) (.int .i64 C) (.slice B1 m1 d1))
         clear ho4 hb4))
  go_wp2
  refine bodyPost_ret (results_rowP Try.results125 _ _ _ 27 #[.int .i64 p, .int .i64 R, .int .i64 C, .slice B1 m1 d1] _ rfl HRP.out Try.underlying27 rfl Try.infoMx) rfl ?_
  have l1 := HSZ.out
  have l2 := HG.out
  have l3 := HGP.out.size
  have l4 := HB4.out.size
  have l5 := HB1.out.size
  refine ⟨B1, m1, d1, rfl, ?_, ?_⟩
  · exact (HO4.out.grown HGP.out (fun q hq => by injection hq with hq; omega)).wide (by omega) l3
  · exact (HB1.out.trans (HB4.out.mono l5)).grown HGP.out (by omega) (by rintro q ⟨⟩; omega)
theorem l7Top_own (p r : Int) (C R lo hi n k : Nat) (A : Option Addr) (xs : List Int) (w : World) (hs : Own w lo hi A n k xs) (hC : C ≤ 14) (hR : R ≤ 14) (hRC : R * C ≤ n) :
    Calls Try.prog 125 #[.agg #[.int .i64 p, .int .i64 r, .int .i64 C, .slice A n k], .int .i64 R] w fun e w' => FreshMx w w' e p R C (xs.take (R * C)) := by
  rcases hs.shape_ with ⟨rfl, rfl, rfl⟩ | ⟨g, rfl⟩
  · have h0 : R * C = 0 := by omega
    rw [h0, List.take_zero]
    exact l7Top_none p r C R w h0
  · exact l7Top_some p r C R g n k xs w hs.si hC hR hRC hs.cap
end Go.Proofs.Ytfaegfhbbkicgaa

/-
  Spans on the document's side: the functions. Conditions: lengths below 2^40.
-/


namespace Go.Proofs.Ytfaegfhbbkicgaa
open Go.RowKit

theorem span_take {d : List Int} {R C np : Nat} {M : Nat → Nat → Int} {L : List (List Int)} (hd : DM d R C M) (hnp : np ≤ R) (hC : 0 < C) (h : ∀ i c, i < np → c < C → nth (li L i) c = M i c) : d.take (np * C) = flatK np C L np := by
  have hle : np * C ≤ R * C := Nat.mul_le_mul hnp (Nat.le_refl _)
  refine nth_ext (by rw [List.length_take, flatK_len, hd.1]; omega) fun q hq => ?_
  have hq1 : q < np * C := by rw [List.length_take] at hq; omega
  rw [nth_take hq1, flatK_nth hq1]
  have hqC : q / C < np := by rw [Nat.div_lt_iff_lt_mul hC]; exact hq1
  rw [if_pos hqC, h _ _ hqC (Nat.mod_lt _ hC), ← hd.2 _ _ (by omega) (Nat.mod_lt _ hC)]
  congr 1
  rw [Nat.mul_comm]; exact (Nat.div_add_mod q C).symm
set_option maxRecDepth 100000 in
set_option maxHeartbeats 4000000 in
theorem l7Span_any (p : Int) (R C : Nat) (A : Option Addr) (n k : Nat) (xs : List Int) (w : World) (hp : P7 p) (hs : SI w A n xs) (hR : R ≤ 14) (hC : 0 < C ∧ C ≤ 14) (hx : Rg p xs) (hl : xs.length = R * C) :
    Calls Try.prog 133 #[.agg #[.int .i64 p, .int .i64 R, .int .i64 C, .slice A n k]] w fun e w' => FreshMx w w' e p (spanN p C (rowsC xs C R C)) C (spanX p C (rowsC xs C R C)) := by
  obtain ⟨w1, hw1⟩ : ∃ w1, w1 = (w.alloc (.cells #[.int .i64 p, .int .i64 R, .int .i64 C, .slice A n k] 27)).alloc (.cells #[.int .i64 0, .int .i64 0, .int .i64 0, .slice none 0 0] 27) := ⟨_, rfl⟩
  obtain ⟨g, hg⟩ : ∃ g, g = w.heap.size := ⟨_, rfl⟩
  have hk : Blk w1 g 27 #[.int .i64 p, .int .i64 R, .int .i64 C, .slice A n k] := by rw [hw1, hg]; exact (Blk.new _ _ _).alloc _
  have hk2 : Blk w1 (g + 1) 27 #[.int .i64 0, .int .i64 0, .int .i64 0, .slice none 0 0] := by
    rw [hw1, hg]
    have := Blk.new (w.alloc (.cells #[.int .i64 p, .int .i64 R, .int .i64 C, .slice A n k] 27)) 27 #[.int .i64 0, .int .i64 0, .int .i64 0, .slice none 0 0]
    simpa using this
  have hb : Below w.heap.size w w1 := by rw [hw1]; go_grown
  have hro := rowsC_ok (by have := hp.two; omega) hx C R C
  have HB := Lib.hid hb
  have HW := Lib.hid hw1
  have HG := Lib.hid hg
  have HK := Lib.hid hk
  have HK2 := Lib.hid hk2
  have HC := Lib.hid hC
  have HN := Lib.hid (spanN_le hp hro)
  have HSZ : Hid (w1.heap.size = g + 1 + 1) := Lib.hid (by rw [hw1, hg]; simp)
  have HRED := Lib.hid (l7Reduce_any p R C A n k xs (fun i c => nth xs (i * C + c)) w1 hp (hs.below hb (Nat.le_refl _)) hR hC.2 hx ⟨hl, fun i c _ _ => rfl⟩)
  have HRK := Lib.hid (fun (M : Nat → Nat → Int) (ps : List Int) (j : Nat) (h : RedI p C R (fun i c => nth xs (i * C + c)) M ps j) (hj : j ≤ C) (he : j = C ∨ ps.length = R) => red_rows hp hro (rowsC_len ..) (fun i c hi hc => by rw [rowsC_li hi, rowC_nth hc]) h hj he)
  have HNL : Hid (n = R * C) := Lib.hid (by have := hs.1; omega)
  clear hw1 hg hk hk2 hb hs hp hx hl hro hC
  go_enter Try.func133, Try.ntmps133
  go_upto_region 1 with fail
  rw [← HW.out, ← HG.out]
  go_upto_region 2 with (first
    | (refine wpList_load_rowP rfl 27 (.tmp 1) rfl g rfl 27 #[.int .i64 p, .int .i64 R, .int .i64 C, .slice A n k] _ HK.out Try.underlying27 rfl Try.infoMx ?_)
    | (go_at_call 136
       with_reducible refine HRED.out.mono ?_
       rintro e w2 ⟨A2, k2, Ap, np, cp, rfl, hres⟩
       have HRES := Lib.hid hres
       clear hres)
    | (refine wpList_store_rowP rfl 27 (.tmp 3) (.tmp 8) rfl w2.heap.size #[.int .i64 p, .int .i64 R, .int .i64 C, .slice A2 n k2] rfl rfl 27 #[.int .i64 0, .int .i64 0, .int .i64 0, .slice none 0 0] (Blk.new _ _ _) Try.infoMx rfl (by simp [Value.oneCell']) ?_; intro w5 hb5 hg5; have HK5 := Lib.hid hb5; have HG5 := Lib.hid hg5; clear hb5 hg5)
    | fail)
  obtain ⟨s2, hs2⟩ : ∃ s2, s2 = w2.heap.size := ⟨_, rfl⟩
  rw [← hs2] at HK5 HG5 ⊢
  have HS2 := Lib.hid hs2
  clear hs2
  obtain ⟨d, M, ps, j, hod, hop, hdm, hri, hj, he, hbel⟩ := HRES.out
  have hrr := HRK.out M ps j hri hj he
  have hnp : np = spanN p C (rowsC xs C R C) := by have := hop.len; have := hrr.1; unfold spanN; omega
  have hnR : np ≤ R := by have := hop.len; have := hri.le; omega
  have hB25 : Below s2 w2 w5 := ((Below.refl s2 w2).alloc (Nat.le_of_eq HS2.out) _).grown HG5.out (by have := HS2.out; simp; omega) (by rintro q ⟨⟩; exact Nat.le_refl _)
  have HB15 : Hid (Below w1.heap.size w1 w5) := Lib.hid (hbel.trans (hB25.mono (by have := HS2.out; have := hbel.size; omega)))
  have HO5 : Hid (Own w5 w1.heap.size s2 A2 n k2 d) := Lib.hid ((hod.wide (Nat.le_refl _) (Nat.le_of_eq HS2.out.symm)).below hB25 (Nat.le_refl _))
  have HR5 := Lib.hid (HK2.out.below HB15.out HK2.out.lt)
  have hnC : np * C ≤ n := by rw [HNL.out]; exact Nat.mul_le_mul hnR (Nat.le_refl _)
  have HTAKE : Hid (d.take (np * C) = spanX p C (rowsC xs C R C)) := Lib.hid (by
    have hsp := span_take (L := spanL p C (rowsC xs C R C)) hdm hnR HC.out.1 (fun i c hi hc => hrr.2.2 i c (by have := hop.len; omega) hc)
    rw [hsp]
    unfold spanX
    rw [← hnp])
  have HTOP := Lib.hid (l7Top_own p (R : Int) C np w1.heap.size s2 n k2 A2 d w5 HO5.out HC.out.2 (by omega) hnC)
  rw [HTAKE.out] at HTOP
  have HNP := Lib.hid hnp
  have HSS : Hid (w1.heap.size ≤ w5.heap.size) := Lib.hid HB15.out.size
  clear hod hop hdm hri hj he hbel hrr hnp hnR hB25 hnC HTAKE
  go_wp2_with (first
    | (refine wpList_load_rowP rfl 27 (.tmp 3) rfl s2 rfl 27 #[.int .i64 p, .int .i64 R, .int .i64 C, .slice A2 n k2] _ HK5.out Try.underlying27 rfl Try.infoMx ?_)
    | (go_at_call 125
       with_reducible refine HTOP.out.mono ?_
       rintro e w6 ⟨B6, n6, k6, rfl, ho6, hb6⟩
       have HO6 := Lib.hid ho6
       have HB6 : Hid (Below w1.heap.size w1 w6) := Lib.hid (HB15.out.trans (hb6.mono HSS.out))
       have HR6 := Lib.hid (HR5.out.below hb6 HR5.out.lt)
       have HS6 : Hid (w5.heap.size ≤ w6.heap.size) := Lib.hid hb6.size
       clear ho6 hb6)
    | (refine wpList_store_rowP rfl 27 (.tmp 2) (.tmp 13) rfl (g + 1) #[.int .i64 p, .int .i64 np, .int .i64 C, .slice B6 n6 k6] rfl rfl 27 #[.int .i64 0, .int .i64 0, .int .i64 0, .slice none 0 0] HR6.out Try.infoMx rfl (by simp [Value.oneCell']) ?_; intro w7 hb7 hg7)
    | fail)
  refine bodyPost_ret (results_rowP Try.results133 _ _ _ 27 #[.int .i64 p, .int .i64 np, .int .i64 C, .slice B6 n6 k6] _ rfl hb7 Try.underlying27 rfl Try.infoMx) rfl ?_
  have l1 := HSZ.out
  have l2 := HG.out
  have l3 := hg7.size
  have l4 := HS6.out
  have l5 := HB.out.size
  have l6 := HSS.out
  rw [← HNP.out]
  refine ⟨B6, n6, k6, rfl, ?_, ?_⟩
  · exact (HO6.out.grown hg7 (fun q hq => by injection hq with hq; omega)).wide (by omega) (by omega)
  · exact (HB.out.trans (HB6.out.mono l5)).grown hg7 (by omega) (by rintro q ⟨⟩; omega)
end Go.Proofs.Ytfaegfhbbkicgaa

/-
  IsSpace on the document's side. Conditions: lengths below 2^40.
-/


namespace Go.Proofs.Ytfaegfhbbkicgaa
open Go.RowKit

theorem isSpB_rows {p : Int} {R C : Nat} {xs : List Int} (h : matB p R C xs = true) (hl : xs.length = R * C) (hC : 0 < C) : (decide (R = spanN p C (rowsC xs C R C)) && eqL xs (spanX p C (rowsC xs C R C))) = isSpB p R C xs := by
  unfold isSpB eqL
  simp only [Int.toNat_natCast, h, true_and]
  by_cases e : spanX p C (rowsC xs C R C) = xs
  · have h1 : (spanX p C (rowsC xs C R C)).length = R * C := by rw [e]; exact hl
    unfold spanX at h1
    rw [flatK_len] at h1
    have h2 : spanN p C (rowsC xs C R C) = R := Nat.eq_of_mul_eq_mul_right hC h1
    simp [e, h2]
  · have e' : ¬ xs = spanX p C (rowsC xs C R C) := fun h => e h.symm
    simp [e, e']
set_option maxRecDepth 100000 in
set_option maxHeartbeats 1000000 in
theorem l7Same_any (p : Int) (R R' C : Nat) (A A' : Option Addr) (n k n' k' : Nat) (xs ys : List Int) (w : World) (hs : SI w A n xs) (hs' : SI w A' n' ys) (hn : n ≤ 1099511627776) (hn' : n' ≤ 1099511627776) :
    Calls Try.prog 132 #[.agg #[.int .i64 p, .int .i64 R, .int .i64 C, .slice A n k], .agg #[.int .i64 p, .int .i64 R', .int .i64 C, .slice A' n' k']] w fun e w' => e = .returned (.bool (decide (R = R') && eqL xs ys)) ∧ Below w.heap.size w w' := by
  obtain ⟨w1, hw1⟩ : ∃ w1, w1 = (w.alloc (.cells #[.int .i64 p, .int .i64 R, .int .i64 C, .slice A n k] 27)).alloc (.cells #[.int .i64 p, .int .i64 R', .int .i64 C, .slice A' n' k'] 27) := ⟨_, rfl⟩
  obtain ⟨g, hg⟩ : ∃ g, g = w.heap.size := ⟨_, rfl⟩
  have hk : Blk w1 g 27 #[.int .i64 p, .int .i64 R, .int .i64 C, .slice A n k] := by rw [hw1, hg]; exact (Blk.new _ _ _).alloc _
  have hk2 : Blk w1 (g + 1) 27 #[.int .i64 p, .int .i64 R', .int .i64 C, .slice A' n' k'] := by
    rw [hw1, hg]
    have := Blk.new (w.alloc (.cells #[.int .i64 p, .int .i64 R, .int .i64 C, .slice A n k] 27)) 27 #[.int .i64 p, .int .i64 R', .int .i64 C, .slice A' n' k']
    simpa using this
  have hb : Below w.heap.size w w1 := by rw [hw1]; go_grown
  have HB := Lib.hid hb
  have HW := Lib.hid hw1
  have HG := Lib.hid hg
  have HSM := Lib.hid (l1Same_any A A' n k n' k' xs ys w1 (hs.below hb (Nat.le_refl _)) (hs'.below hb (Nat.le_refl _)) hn hn')
  obtain ⟨q0, q1, q2, q3⟩ := cells4 hk
  obtain ⟨r0, r1, r2, r3⟩ := cells4 hk2
  clear hw1 hg hk hk2 hb hs hs'
  by_cases hR : R = R'
  case pos =>
    subst hR
    go_enter Try.func132, Try.ntmps132
    go_upto_region 1 with fail
    rw [← HW.out, ← HG.out]
    go_wp2_with (first
      | (go_at_call 171
         with_reducible refine HSM.out.mono ?_
         rintro e w2 ⟨rfl, hd2⟩
         have HB2 : Hid (Below w1.heap.size w1 w2) := Lib.hid (hd2.below _)
         clear hd2)
      | fail)
    go_ret
    exact ⟨ret_bool (by simp), HB.out.trans (HB2.out.mono HB.out.size)⟩
  case neg =>
    have hRI : ¬ (R : Int) = (R' : Int) := by omega
    have HRN := Lib.hid hR
    clear hR
    go_enter Try.func132, Try.ntmps132
    go_upto_region 1 with fail
    rw [← HW.out, ← HG.out]
    go_wp2_with fail
    go_ret
    exact ⟨ret_bool (by simp [HRN.out]), HB.out⟩
set_option maxRecDepth 100000 in
set_option maxHeartbeats 4000000 in
theorem specIsSpace_any (p r c : Int) (A : Option Addr) (n k : Nat) (xs : List Int) (w : World) (hs : SI w A n xs) (hn : n ≤ 1099511627776) :
    Calls Try.prog 63 #[.agg #[.int .i64 p, .int .i64 r, .int .i64 c, .slice A n k]] w fun e w' => e = .returned (.bool (isSpB p r c xs)) ∧ Below w.heap.size w w' := by
  obtain ⟨w1, hw1⟩ : ∃ w1, w1 = w.alloc (.cells #[.int .i64 p, .int .i64 r, .int .i64 c, .slice A n k] 27) := ⟨_, rfl⟩
  obtain ⟨g, hg⟩ : ∃ g, g = w.heap.size := ⟨_, rfl⟩
  have hk : Blk w1 g 27 #[.int .i64 p, .int .i64 r, .int .i64 c, .slice A n k] := by rw [hw1, hg]; exact Blk.new _ _ _
  have hb : Below w.heap.size w w1 := by rw [hw1]; exact Below.alloc_self _ _
  have HB := Lib.hid hb
  have HW := Lib.hid hw1
  have HG := Lib.hid hg
  have HK := Lib.hid hk
  have HS := Lib.hid (hs.below hb (Nat.le_refl _))
  have HMO := Lib.hid (fun w' (hb' : Below w1.heap.size w1 w') => specMatrixOk_any p r c A n k xs w' (HS.out.below hb' (Nat.le_refl _)) hn)
  have hqd : w1.drew.cell? ⟨g, 0, none⟩ = some (.int .i64 p) ∧ w1.drew.cell? ⟨g, 1, none⟩ = some (.int .i64 r) ∧ w1.drew.cell? ⟨g, 2, none⟩ = some (.int .i64 c) ∧ w1.drew.cell? ⟨g, 3, none⟩ = some (.slice A n k) := cells4 hk
  have HQD := Lib.hid hqd
  have HQ := Lib.hid (cells4 hk)
  clear hw1 hg hk hb hs hqd
  cases hm : matB p r c xs with
  | false =>
    rw [hm] at HMO
    have HM := Lib.hid hm
    clear hm
    go_enter Try.func63, Try.ntmps63
    go_upto_region 1 with fail
    rw [← HW.out, ← HG.out]
    obtain ⟨q0, q1, q2, q3⟩ := HQ.out
    first
      | (go_region_with (first
      | (go_at_call 123
         with_reducible refine (HMO.out _ ((Below.refl _ _).drew)).mono ?_
         rintro e w2 ⟨rfl, hb2⟩
         have HB2 : Hid (Below w1.heap.size w1 w2) := Lib.hid (((Below.refl _ _).drew).trans hb2)
         clear hb2)))
      | fail
    all_goals
      (go_wp2
       go_ret
       exact ⟨ret_bool (isSpB_no HM.out).symm, HB.out.trans (HB2.out.mono HB.out.size)⟩)
  | true =>
    rw [hm] at HMO
    have HM := Lib.hid (matB_P hm)
    obtain ⟨R, C, rfl, rfl, hR7, hC1, hC7, hxl⟩ := HM.out.nats
    have HF := Lib.hid (isSpB_rows hm hxl hC1)
    have HSP := Lib.hid (fun w' (hb' : Below w1.heap.size w1 w') => l7Span_any p R C A n k xs w' HM.out.1 (HS.out.below hb' (Nat.le_refl _)) (by omega) ⟨hC1, by omega⟩ HM.out.rg hxl)
    have HZL : Hid ((spanX p C (rowsC xs C R C)).length ≤ 1000) := Lib.hid (by
      obtain ⟨zp, zr, zc, z, hz⟩ := spn_ex p R C xs
      have h1 := hz.len
      obtain ⟨_, _, _, rfl⟩ := hz.1 hm
      simpa using h1)
    clear hm hxl
    go_enter Try.func63, Try.ntmps63
    go_upto_region 1 with fail
    rw [← HW.out, ← HG.out]
    go_region_held3 (fun w' => w'.cell? ⟨g, 0, none⟩ = some (.int .i64 p) ∧ w'.cell? ⟨g, 1, none⟩ = some (.int .i64 R) ∧ w'.cell? ⟨g, 2, none⟩ = some (.int .i64 C) ∧ w'.cell? ⟨g, 3, none⟩ = some (.slice A n k))
      (first | exact HQD.out | exact HQ.out | exact K2 | exact K3 | exact K4)
      (first
        | (go_at_call 132
           with_reducible refine HEQ.out.mono ?_
           rintro e w4 ⟨rfl, hb4⟩
           have HB4 : Hid (Below w1.heap.size w1 w4) := Lib.hid (HB3.out.trans (hb4.mono HB3.out.size))
           have K4 := cells4 (HK.out.below HB4.out HK.out.lt)
           clear hb4)
        | (go_at_call 133
           with_reducible refine (HSP.out _ HB2.out).mono ?_
           rintro e w3 ⟨B3, m3, d3, rfl, ho3, hb3⟩
           have HB3 : Hid (Below w1.heap.size w1 w3) := Lib.hid (HB2.out.trans (hb3.mono HB2.out.size))
           have K3 := cells4 (HK.out.below HB3.out HK.out.lt)
           have HO3 := Lib.hid ho3
           have HEQ := Lib.hid (l7Same_any p R (spanN p C (rowsC xs C R C)) C A B3 n k m3 d3 xs (spanX p C (rowsC xs C R C)) w3 (HS.out.below HB3.out (Nat.le_refl _)) HO3.out.si hn (by have := HO3.out.len; have := HZL.out; omega))
           clear ho3 hb3)
        | (go_at_call 123
           with_reducible refine (HMO.out _ ((Below.refl _ _).drew)).mono ?_
           rintro e w2 ⟨rfl, hb2⟩
           have HB2 : Hid (Below w1.heap.size w1 w2) := Lib.hid (((Below.refl _ _).drew).trans hb2)
           have K2 := cells4 (HK.out.below HB2.out HK.out.lt)
           clear hb2))
    go_wp2
    go_ret
    exact ⟨ret_bool HF.out, HB.out.trans (HB4.out.mono HB.out.size)⟩
end Go.Proofs.Ytfaegfhbbkicgaa

/-
  Two spaces of one kind, on both sides. Conditions: lengths below 2^40.
-/

namespace Go.Proofs.Ytfaegfhbbkicgaa
open Go.RowKit

/-- Do two spaces lie in one. -/
def twoB (p r c : Int) (xs : List Int) (p' r' c' : Int) (ys : List Int) : Bool := isSpB p r c xs && (isSpB p' r' c' ys && (decide (p = p') && decide (c = c')))
set_option maxHeartbeats 1000000 in
theorem hasRowsLike_any (p r c p' r' c' : Int) (A A' : Option Addr) (n k n' k' : Nat) (w : World) :
    Calls Try.prog 60 #[.agg #[.int .i64 p, .int .i64 r, .int .i64 c, .slice A n k], .agg #[.int .i64 p', .int .i64 r', .int .i64 c', .slice A' n' k']] w fun e w' => e = .returned (.bool (decide (p = p') && decide (c = c'))) ∧ Below w.heap.size w w' := by
  obtain ⟨w1, hw1⟩ : ∃ w1, w1 = (w.alloc (.cells #[.int .i64 p, .int .i64 r, .int .i64 c, .slice A n k] 27)).alloc (.cells #[.int .i64 p', .int .i64 r', .int .i64 c', .slice A' n' k'] 27) := ⟨_, rfl⟩
  obtain ⟨g, hg⟩ : ∃ g, g = w.heap.size := ⟨_, rfl⟩
  have hk : Blk w1 g 27 #[.int .i64 p, .int .i64 r, .int .i64 c, .slice A n k] := by rw [hw1, hg]; exact (Blk.new _ _ _).alloc _
  have hk2 : Blk w1 (g + 1) 27 #[.int .i64 p', .int .i64 r', .int .i64 c', .slice A' n' k'] := by
    rw [hw1, hg]
    have := Blk.new (w.alloc (.cells #[.int .i64 p, .int .i64 r, .int .i64 c, .slice A n k] 27)) 27 #[.int .i64 p', .int .i64 r', .int .i64 c', .slice A' n' k']
    simpa using this
  have hb : Below w.heap.size w w1 := by rw [hw1]; go_grown
  have HB := Lib.hid hb
  have HW := Lib.hid hw1
  have HG := Lib.hid hg
  have HK := Lib.hid hk
  have HK2 := Lib.hid hk2
  obtain ⟨q0, q1, q2, q3⟩ := cells4 hk
  obtain ⟨r0, r1, r2, r3⟩ := cells4 hk2
  clear hw1 hg hk hk2 hb
  by_cases hp : p = p'
  case pos =>
    subst hp
    go_enter Try.func60, Try.ntmps60
    go_upto_region 1 with fail
    rw [← HW.out, ← HG.out]
    go_wp2_with fail
    go_ret
    exact ⟨ret_bool (by by_cases e : c = c' <;> simp [e]), HB.out⟩
  case neg =>
    have HP := Lib.hid hp
    go_enter Try.func60, Try.ntmps60
    go_upto_region 1 with fail
    rw [← HW.out, ← HG.out]
    go_wp2_with fail
    go_ret
    exact ⟨ret_bool (by simp [HP.out]), HB.out⟩
set_option maxRecDepth 100000 in
set_option maxHeartbeats 2000000 in
theorem areSpaces_any (p r c p' r' c' : Int) (A A' : Option Addr) (n k n' k' : Nat) (xs ys : List Int) (w : World) (hs : SI w A n xs) (hs' : SI w A' n' ys) (hn : n ≤ 1099511627776) (hn' : n' ≤ 1099511627776) (hnk : n ≤ k) (hnk' : n' ≤ k') :
    Calls Try.prog 73 #[.agg #[.int .i64 p, .int .i64 r, .int .i64 c, .slice A n k], .agg #[.int .i64 p', .int .i64 r', .int .i64 c', .slice A' n' k']] w fun e w' => e = .returned (.bool (twoB p r c xs p' r' c' ys)) ∧ Below w.heap.size w w' := by
  obtain ⟨w1, hw1⟩ : ∃ w1, w1 = (w.alloc (.cells #[.int .i64 p, .int .i64 r, .int .i64 c, .slice A n k] 27)).alloc (.cells #[.int .i64 p', .int .i64 r', .int .i64 c', .slice A' n' k'] 27) := ⟨_, rfl⟩
  obtain ⟨g, hg⟩ : ∃ g, g = w.heap.size := ⟨_, rfl⟩
  have hk : Blk w1 g 27 #[.int .i64 p, .int .i64 r, .int .i64 c, .slice A n k] := by rw [hw1, hg]; exact (Blk.new _ _ _).alloc _
  have hk2 : Blk w1 (g + 1) 27 #[.int .i64 p', .int .i64 r', .int .i64 c', .slice A' n' k'] := by
    rw [hw1, hg]
    have := Blk.new (w.alloc (.cells #[.int .i64 p, .int .i64 r, .int .i64 c, .slice A n k] 27)) 27 #[.int .i64 p', .int .i64 r', .int .i64 c', .slice A' n' k']
    simpa using this
  have hb : Below w.heap.size w w1 := by rw [hw1]; go_grown
  have HB := Lib.hid hb
  have HW := Lib.hid hw1
  have HG := Lib.hid hg
  have HK := Lib.hid hk
  have HK2 := Lib.hid hk2
  have HS := Lib.hid (hs.below hb (Nat.le_refl _))
  have HS' := Lib.hid (hs'.below hb (Nat.le_refl _))
  have HI1 := Lib.hid (implIsSpace_any p r c A n k xs w1 (hs.below hb (Nat.le_refl _)) hn hnk)
  have HI2 := Lib.hid (fun w' (hb' : Below w1.heap.size w1 w') => implIsSpace_any p' r' c' A' n' k' ys w' (HS'.out.below hb' (Nat.le_refl _)) hn' hnk')
  clear hw1 hg hk hk2 hb hs hs'
  cases hu : isSpB p r c xs with
  | false =>
    rw [hu] at HI1
    have HU := Lib.hid hu
    clear hu
    go_enter Try.func73, Try.ntmps73
    go_upto_region 1 with fail
    rw [← HW.out, ← HG.out]
    go_wp2_with (first
      | (refine wpList_load_rowP rfl 27 (.tmp 2) rfl g rfl 27 #[.int .i64 p, .int .i64 r, .int .i64 c, .slice A n k] _ HK.out Try.underlying27 rfl Try.infoMx ?_)
      | (go_at_call 134
         with_reducible refine HI1.out.mono ?_
         rintro e w2 ⟨rfl, hb2⟩
         have HB2 := Lib.hid hb2
         obtain ⟨q0, q1, q2, q3⟩ := cells4 (HK.out.below hb2 HK.out.lt)
         obtain ⟨r0, r1, r2, r3⟩ := cells4 (HK2.out.below hb2 HK2.out.lt)
         clear hb2)
      | fail)
    go_ret
    exact ⟨ret_bool (by unfold twoB; rw [HU.out]; rfl), HB.out.trans (HB2.out.mono HB.out.size)⟩
  | true =>
    rw [hu] at HI1
    have HU := Lib.hid hu
    clear hu
    cases hv : isSpB p' r' c' ys with
    | false =>
      rw [hv] at HI2
      have HV := Lib.hid hv
      clear hv
      go_enter Try.func73, Try.ntmps73
      go_upto_region 1 with fail
      rw [← HW.out, ← HG.out]
      go_wp2_with (first
      | (refine wpList_load_rowP rfl 27 (.tmp 2) rfl g rfl 27 #[.int .i64 p, .int .i64 r, .int .i64 c, .slice A n k] _ HK.out Try.underlying27 rfl Try.infoMx ?_)
      | (go_at_call 134
         with_reducible refine HI1.out.mono ?_
         rintro e w2 ⟨rfl, hb2⟩
         have HB2 := Lib.hid hb2
         obtain ⟨q0, q1, q2, q3⟩ := cells4 (HK.out.below hb2 HK.out.lt)
         obtain ⟨r0, r1, r2, r3⟩ := cells4 (HK2.out.below hb2 HK2.out.lt)
         clear hb2)
      | (go_at_call 134
         with_reducible refine (HI2.out _ HB2.out).mono ?_
         rintro e w3 ⟨rfl, hb3⟩
         have HB3 : Hid (Below w1.heap.size w1 w3) := Lib.hid (HB2.out.trans (hb3.mono HB2.out.size))
         clear q0 q1 q2 q3 r0 r1 r2 r3
         obtain ⟨q0, q1, q2, q3⟩ := cells4 (HK.out.below HB3.out HK.out.lt)
         obtain ⟨r0, r1, r2, r3⟩ := cells4 (HK2.out.below HB3.out HK2.out.lt)
         clear hb3)
        | fail)
      go_ret
      exact ⟨ret_bool (by unfold twoB; rw [HU.out, HV.out]; rfl), HB.out.trans (HB3.out.mono HB.out.size)⟩
    | true =>
      rw [hv] at HI2
      have HV := Lib.hid hv
      clear hv
      go_enter Try.func73, Try.ntmps73
      go_upto_region 1 with fail
      rw [← HW.out, ← HG.out]
      go_wp2_with (first
      | (refine wpList_load_rowP rfl 27 (.tmp 2) rfl g rfl 27 #[.int .i64 p, .int .i64 r, .int .i64 c, .slice A n k] _ HK.out Try.underlying27 rfl Try.infoMx ?_)
      | (go_at_call 134
         with_reducible refine HI1.out.mono ?_
         rintro e w2 ⟨rfl, hb2⟩
         have HB2 := Lib.hid hb2
         obtain ⟨q0, q1, q2, q3⟩ := cells4 (HK.out.below hb2 HK.out.lt)
         obtain ⟨r0, r1, r2, r3⟩ := cells4 (HK2.out.below hb2 HK2.out.lt)
         clear hb2)
      | (go_at_call 134
         with_reducible refine (HI2.out _ HB2.out).mono ?_
         rintro e w3 ⟨rfl, hb3⟩
         have HB3 : Hid (Below w1.heap.size w1 w3) := Lib.hid (HB2.out.trans (hb3.mono HB2.out.size))
         clear q0 q1 q2 q3 r0 r1 r2 r3
         obtain ⟨q0, q1, q2, q3⟩ := cells4 (HK.out.below HB3.out HK.out.lt)
         obtain ⟨r0, r1, r2, r3⟩ := cells4 (HK2.out.below HB3.out HK2.out.lt)
         clear hb3)
        | (go_at_call 60
           with_reducible refine (hasRowsLike_any p r c p' r' c' A A' n k n' k' w3).mono ?_
           rintro e w4 ⟨rfl, hb4⟩
           have HB4 : Hid (Below w1.heap.size w1 w4) := Lib.hid (HB3.out.trans (hb4.mono HB3.out.size))
           clear hb4)
        | fail)
      go_ret
      exact ⟨ret_bool (by unfold twoB; rw [HU.out, HV.out]; rfl), HB.out.trans (HB4.out.mono HB.out.size)⟩
set_option maxRecDepth 100000 in
set_option maxHeartbeats 2000000 in
theorem l7Two_any (p r c p' r' c' : Int) (A A' : Option Addr) (n k n' k' : Nat) (xs ys : List Int) (w : World) (hs : SI w A n xs) (hs' : SI w A' n' ys) (hn : n ≤ 1099511627776) (hn' : n' ≤ 1099511627776) :
    Calls Try.prog 71 #[.agg #[.int .i64 p, .int .i64 r, .int .i64 c, .slice A n k], .agg #[.int .i64 p', .int .i64 r', .int .i64 c', .slice A' n' k']] w fun e w' => e = .returned (.bool (twoB p r c xs p' r' c' ys)) ∧ Below w.heap.size w w' := by
  obtain ⟨w1, hw1⟩ : ∃ w1, w1 = (w.alloc (.cells #[.int .i64 p, .int .i64 r, .int .i64 c, .slice A n k] 27)).alloc (.cells #[.int .i64 p', .int .i64 r', .int .i64 c', .slice A' n' k'] 27) := ⟨_, rfl⟩
  obtain ⟨g, hg⟩ : ∃ g, g = w.heap.size := ⟨_, rfl⟩
  have hk : Blk w1 g 27 #[.int .i64 p, .int .i64 r, .int .i64 c, .slice A n k] := by rw [hw1, hg]; exact (Blk.new _ _ _).alloc _
  have hk2 : Blk w1 (g + 1) 27 #[.int .i64 p', .int .i64 r', .int .i64 c', .slice A' n' k'] := by
    rw [hw1, hg]
    have := Blk.new (w.alloc (.cells #[.int .i64 p, .int .i64 r, .int .i64 c, .slice A n k] 27)) 27 #[.int .i64 p', .int .i64 r', .int .i64 c', .slice A' n' k']
    simpa using this
  have hb : Below w.heap.size w w1 := by rw [hw1]; go_grown
  have HB := Lib.hid hb
  have HW := Lib.hid hw1
  have HG := Lib.hid hg
  have HK := Lib.hid hk
  have HK2 := Lib.hid hk2
  have HS := Lib.hid (hs.below hb (Nat.le_refl _))
  have HS' := Lib.hid (hs'.below hb (Nat.le_refl _))
  have HI1 := Lib.hid (specIsSpace_any p r c A n k xs w1 (hs.below hb (Nat.le_refl _)) hn)
  have HI2 := Lib.hid (fun w' (hb' : Below w1.heap.size w1 w') => specIsSpace_any p' r' c' A' n' k' ys w' (HS'.out.below hb' (Nat.le_refl _)) hn')
  clear hw1 hg hk hk2 hb hs hs'
  cases hu : isSpB p r c xs with
  | false =>
    rw [hu] at HI1
    have HU := Lib.hid hu
    clear hu
    go_enter Try.func71, Try.ntmps71
    go_upto_region 1 with fail
    rw [← HW.out, ← HG.out]
    go_wp2_with (first
      | (refine wpList_load_rowP rfl 27 (.tmp 2) rfl g rfl 27 #[.int .i64 p, .int .i64 r, .int .i64 c, .slice A n k] _ HK.out Try.underlying27 rfl Try.infoMx ?_)
      | (go_at_call 63
         with_reducible refine HI1.out.mono ?_
         rintro e w2 ⟨rfl, hb2⟩
         have HB2 := Lib.hid hb2
         obtain ⟨q0, q1, q2, q3⟩ := cells4 (HK.out.below hb2 HK.out.lt)
         obtain ⟨r0, r1, r2, r3⟩ := cells4 (HK2.out.below hb2 HK2.out.lt)
         clear hb2)
      | fail)
    go_ret
    exact ⟨ret_bool (by unfold twoB; rw [HU.out]; rfl), HB.out.trans (HB2.out.mono HB.out.size)⟩
  | true =>
    rw [hu] at HI1
    have HU := Lib.hid hu
    clear hu
    cases hv : isSpB p' r' c' ys with
    | false =>
      rw [hv] at HI2
      have HV := Lib.hid hv
      clear hv
      go_enter Try.func71, Try.ntmps71
      go_upto_region 1 with fail
      rw [← HW.out, ← HG.out]
      go_wp2_with (first
      | (refine wpList_load_rowP rfl 27 (.tmp 2) rfl g rfl 27 #[.int .i64 p, .int .i64 r, .int .i64 c, .slice A n k] _ HK.out Try.underlying27 rfl Try.infoMx ?_)
      | (go_at_call 63
         with_reducible refine HI1.out.mono ?_
         rintro e w2 ⟨rfl, hb2⟩
         have HB2 := Lib.hid hb2
         obtain ⟨q0, q1, q2, q3⟩ := cells4 (HK.out.below hb2 HK.out.lt)
         obtain ⟨r0, r1, r2, r3⟩ := cells4 (HK2.out.below hb2 HK2.out.lt)
         clear hb2)
      | (go_at_call 63
         with_reducible refine (HI2.out _ HB2.out).mono ?_
         rintro e w3 ⟨rfl, hb3⟩
         have HB3 : Hid (Below w1.heap.size w1 w3) := Lib.hid (HB2.out.trans (hb3.mono HB2.out.size))
         clear q0 q1 q2 q3 r0 r1 r2 r3
         obtain ⟨q0, q1, q2, q3⟩ := cells4 (HK.out.below HB3.out HK.out.lt)
         obtain ⟨r0, r1, r2, r3⟩ := cells4 (HK2.out.below HB3.out HK2.out.lt)
         clear hb3)
        | fail)
      go_ret
      exact ⟨ret_bool (by unfold twoB; rw [HU.out, HV.out]; rfl), HB.out.trans (HB3.out.mono HB.out.size)⟩
    | true =>
      rw [hv] at HI2
      have HV := Lib.hid hv
      clear hv
      by_cases hp : p = p'
      case pos =>
        subst hp
        go_enter Try.func71, Try.ntmps71
        go_upto_region 1 with fail
        rw [← HW.out, ← HG.out]
        go_wp2_with (first
      | (refine wpList_load_rowP rfl 27 (.tmp 2) rfl g rfl 27 #[.int .i64 p, .int .i64 r, .int .i64 c, .slice A n k] _ HK.out Try.underlying27 rfl Try.infoMx ?_)
      | (go_at_call 63
         with_reducible refine HI1.out.mono ?_
         rintro e w2 ⟨rfl, hb2⟩
         have HB2 := Lib.hid hb2
         obtain ⟨q0, q1, q2, q3⟩ := cells4 (HK.out.below hb2 HK.out.lt)
         obtain ⟨r0, r1, r2, r3⟩ := cells4 (HK2.out.below hb2 HK2.out.lt)
         clear hb2)
      | (go_at_call 63
         with_reducible refine (HI2.out _ HB2.out).mono ?_
         rintro e w3 ⟨rfl, hb3⟩
         have HB3 : Hid (Below w1.heap.size w1 w3) := Lib.hid (HB2.out.trans (hb3.mono HB2.out.size))
         clear q0 q1 q2 q3 r0 r1 r2 r3
         obtain ⟨q0, q1, q2, q3⟩ := cells4 (HK.out.below HB3.out HK.out.lt)
         obtain ⟨r0, r1, r2, r3⟩ := cells4 (HK2.out.below HB3.out HK2.out.lt)
         clear hb3)
          | fail)
        go_ret
        exact ⟨ret_bool (by unfold twoB; rw [HU.out, HV.out]; by_cases e : c = c' <;> simp [e]), HB.out.trans (HB3.out.mono HB.out.size)⟩
      case neg =>
        have HP := Lib.hid hp
        go_enter Try.func71, Try.ntmps71
        go_upto_region 1 with fail
        rw [← HW.out, ← HG.out]
        go_wp2_with (first
      | (refine wpList_load_rowP rfl 27 (.tmp 2) rfl g rfl 27 #[.int .i64 p, .int .i64 r, .int .i64 c, .slice A n k] _ HK.out Try.underlying27 rfl Try.infoMx ?_)
      | (go_at_call 63
         with_reducible refine HI1.out.mono ?_
         rintro e w2 ⟨rfl, hb2⟩
         have HB2 := Lib.hid hb2
         obtain ⟨q0, q1, q2, q3⟩ := cells4 (HK.out.below hb2 HK.out.lt)
         obtain ⟨r0, r1, r2, r3⟩ := cells4 (HK2.out.below hb2 HK2.out.lt)
         clear hb2)
      | (go_at_call 63
         with_reducible refine (HI2.out _ HB2.out).mono ?_
         rintro e w3 ⟨rfl, hb3⟩
         have HB3 : Hid (Below w1.heap.size w1 w3) := Lib.hid (HB2.out.trans (hb3.mono HB2.out.size))
         clear q0 q1 q2 q3 r0 r1 r2 r3
         obtain ⟨q0, q1, q2, q3⟩ := cells4 (HK.out.below HB3.out HK.out.lt)
         obtain ⟨r0, r1, r2, r3⟩ := cells4 (HK2.out.below HB3.out HK2.out.lt)
         clear hb3)
          | fail)
        go_ret
        exact ⟨ret_bool (by simp [twoB, HU.out, HV.out, HP.out]), HB.out.trans (HB3.out.mono HB.out.size)⟩
end Go.Proofs.Ytfaegfhbbkicgaa

/-
  An append of any slice, also an empty one, at a step of a region that draws its order. Conditions: lengths below 2^40.
-/


namespace Go.Proofs.Ytfaegfhbbkicgaa
open Go.RowKit

set_option maxRecDepth 100000 in
theorem wp_append_any (w : World) {o : Oper} {a : Act} {K : Act → World → Prop} {Q : Exit → Act → World → Prop} (s x : Operand)
    (ho : o.op = .call { callee := .builtin .append, args := #[s, x], argTypes := #[22, 22] })
    (lo : Nat) (A : Option Addr) (n c : Nat) (xs : List Int) (A2 : Option Addr) (m c2 : Nat) (ys : List Int) (hs : a.eval s = .slice A n c) (hx : a.eval x = .slice A2 m c2)
    (hown : Own w lo w.heap.size A n c xs) (hsi : SI w A2 m ys) (hlo : lo ≤ w.heap.size) (hn : n ≤ 1099511627776) (hm : m ≤ 1099511627776)
    (h : ∀ A' c' w', Own w' lo w'.heap.size A' (n + m) c' (xs ++ ys) → w.grownBy w' (Value.slice A n c).ownBlock → Below lo w w' → K (a.put o.dst (.slice A' (n + m) c')) w') :
    o.wp Try.prog a w K Q := by
  obtain ⟨i0, hi, hz0, hz1, hz2⟩ := info_parts Try.infoInt
  by_cases h0 : 0 < m
  · obtain ⟨b, off, rfl, hb, hc⟩ := hsi.2 h0
    refine wp_append_lies w s x 22 ho lo 3 i0 (.int .i64 0) 1 8 Try.underlying22 hi hz0 hz1 hz2 rfl (by decide) (.slice A n c) n _ hs hown.1 ⟨b, off, none⟩ m c2 (ys.map (Value.int .i64)) hx (by simp [hsi.1]) ?_ (ints_oneCell _ _) h0 (by unfold maxLen; omega) (by omega) hlo w.heap.size rfl ?_
    · intro j u hj
      have hjl : j < ys.length := by
        rcases Nat.lt_or_ge j ys.length with h | h
        · exact h
        · rw [List.getElem?_eq_none (by simpa using h)] at hj; cases hj
      rw [List.getElem?_map, nth_get? hjl] at hj
      rw [add_pt, hc j (by have := hsi.1; omega)]
      exact hj
    · intro g cap w1 ho1 hg1 _ _
      rw [← List.map_append] at ho1
      exact h _ _ w1 (Own.of ho1) hg1 (grow_below hg1 hlo (fun k hk => (hown.1.lt k hk).1))
  · have hm0 : m = 0 := by omega
    subst hm0
    have hy : ys = [] := List.eq_nil_of_length_eq_zero hsi.1
    subst hy
    have hk0 := h A c w (by simpa using hown) (World.grownBy.refl _ _) (Below.refl _ _)
    have hrun : (Builtin.append_ #[22, 22] o.type #[.slice A n c, .slice A2 0 c2]).run Try.prog w = .ok (.slice A n c) w := by
      have hg := hown.1
      have hl0 : ∀ v, (loadCells v 0).run Try.prog w = .ok #[] w := fun v => by simp [loadCells, loadCellsFrom]
      rcases hg.2 with ⟨e, h0⟩ | ⟨g, cap, cur, e, _, hgg, hnc, _⟩
      · injection e with e1 e2 e3
        subst e1; subst e3; subst h0
        cases A2 <;> simp [Builtin.append_, run_underlying Try.underlying22, sizeOf, typeInfo, hi, Builtin.lenOf, Builtin.firstCells, hl0]
      · injection e with e1 e2 e3
        subst e1; subst e3
        cases A2 <;> simp [Builtin.append_, run_underlying Try.underlying22, sizeOf, typeInfo, hi, Builtin.lenOf, Builtin.firstCells, hnc, storeCells, hl0]
    unfold Oper.wp execOp
    simp only [ho, resolve, invoke, builtin, Sem.run_bind, Sem.run_pure, Result.andThen_ok, List.map_toArray, List.map_cons, List.map_nil, hs, hx, hrun]
    exact hk0
theorem step_append_any (w : World) {ops : Array Oper} {o : Oper} {a : Act} {K : Act → World → Prop} {Q : Exit → Act → World → Prop} {E0 : Prop} (hw : Region.wanted o (yielded ops a.tmps) = true) (s x : Operand)
    (ho : o.op = .call { callee := .builtin .append, args := #[s, x], argTypes := #[22, 22] })
    (lo : Nat) (A : Option Addr) (n c : Nat) (xs : List Int) (A2 : Option Addr) (m c2 : Nat) (ys : List Int) (hs : a.eval s = .slice A n c) (hx : a.eval x = .slice A2 m c2)
    (hown : Own w lo w.heap.size A n c xs) (hsi : SI w A2 m ys) (hlo : lo ≤ w.heap.size) (hn : n ≤ 1099511627776) (hm : m ≤ 1099511627776)
    (h : ∀ A' c' w', Own w' lo w'.heap.size A' (n + m) c' (xs ++ ys) → w.grownBy w' (Value.slice A n c).ownBlock → Below lo w w' → K (a.put o.dst (.slice A' (n + m) c')) w') :
    if Region.wanted o (yielded ops a.tmps) = true then Oper.wp Try.prog o a w K Q else E0 := by
  rw [if_pos hw]
  exact wp_append_any w s x ho lo A n c xs A2 m c2 ys hs hx hown hsi hlo hn hm h
end Go.Proofs.Ytfaegfhbbkicgaa

/-
  The rows of two matrices in one, on the document's side. Conditions: sizes at most 14.
-/


namespace Go.Proofs.Ytfaegfhbbkicgaa
open Go.RowKit

set_option maxRecDepth 100000 in
set_option maxHeartbeats 4000000 in
theorem l7Both_any (p p' c' : Int) (C R R' : Nat) (A A' : Option Addr) (n k n' k' : Nat) (xs ys : List Int) (w : World) (hs : SI w A n xs) (hs' : SI w A' n' ys) (hn : n ≤ 1000) (hn' : n' ≤ 1000) (hR : R ≤ 14) (hR' : R' ≤ 14) :
    Calls Try.prog 126 #[.agg #[.int .i64 p, .int .i64 R, .int .i64 C, .slice A n k], .agg #[.int .i64 p', .int .i64 R', .int .i64 c', .slice A' n' k']] w fun e w' => FreshMx w w' e p ((R + R' : Nat) : Int) C (xs ++ ys) := by
  obtain ⟨w1, hw1⟩ : ∃ w1, w1 = ((w.alloc (.cells #[.int .i64 p, .int .i64 R, .int .i64 C, .slice A n k] 27)).alloc (.cells #[.int .i64 p', .int .i64 R', .int .i64 c', .slice A' n' k'] 27)).alloc (.cells #[.int .i64 0, .int .i64 0, .int .i64 0, .slice none 0 0] 27) := ⟨_, rfl⟩
  obtain ⟨g, hg⟩ : ∃ g, g = w.heap.size := ⟨_, rfl⟩
  have hk : Blk w1 g 27 #[.int .i64 p, .int .i64 R, .int .i64 C, .slice A n k] := by rw [hw1, hg]; exact ((Blk.new _ _ _).alloc _).alloc _
  have hk2 : Blk w1 (g + 1) 27 #[.int .i64 p', .int .i64 R', .int .i64 c', .slice A' n' k'] := by
    rw [hw1, hg]
    have := (Blk.new (w.alloc (.cells #[.int .i64 p, .int .i64 R, .int .i64 C, .slice A n k] 27)) 27 #[.int .i64 p', .int .i64 R', .int .i64 c', .slice A' n' k']).alloc (.cells #[.int .i64 0, .int .i64 0, .int .i64 0, .slice none 0 0] 27)
    simpa using this
  have hk3 : Blk w1 (g + 2) 27 #[.int .i64 0, .int .i64 0, .int .i64 0, .slice none 0 0] := by
    rw [hw1, hg]
    have := Blk.new ((w.alloc (.cells #[.int .i64 p, .int .i64 R, .int .i64 C, .slice A n k] 27)).alloc (.cells #[.int .i64 p', .int .i64 R', .int .i64 c', .slice A' n' k'] 27)) 27 #[.int .i64 0, .int .i64 0, .int .i64 0, .slice none 0 0]
    simpa using this
  have hb : Below w.heap.size w w1 := by rw [hw1]; go_grown
  obtain ⟨S, hS⟩ : ∃ S, S = R + R' := ⟨_, rfl⟩
  rw [← hS]
  have hwr : IntKind.i64.wrap ((R : Int) + (R' : Int)) = (S : Int) := by
    have e : (R : Int) + (R' : Int) = (S : Int) := by omega
    rw [e]; exact IntWalk.i64_in _ (by omega)
  have HB1 := Lib.hid hb
  have HW := Lib.hid hw1
  have HG := Lib.hid hg
  have HK := Lib.hid hk
  have HK2 := Lib.hid hk2
  have HK3 := Lib.hid hk3
  have HXL := Lib.hid hs.1
  have HSA := Lib.hid (hs.below hb (Nat.le_refl _))
  have HSB := Lib.hid (hs'.below hb (Nat.le_refl _))
  have HSZ : Hid (w1.heap.size = g + 3) := Lib.hid (by rw [hw1, hg]; simp)
  have hcells : ∀ w', Blk w' g 27 #[.int .i64 p, .int .i64 R, .int .i64 C, .slice A n k] → Blk w' (g + 1) 27 #[.int .i64 p', .int .i64 R', .int .i64 c', .slice A' n' k'] → (w'.cell? ⟨g, 0, none⟩ = some (.int .i64 p) ∧ w'.cell? ⟨g, 1, none⟩ = some (.int .i64 R) ∧ w'.cell? ⟨g, 2, none⟩ = some (.int .i64 C) ∧ w'.cell? ⟨g, 3, none⟩ = some (.slice A n k)) ∧ w'.cell? ⟨g + 1, 1, none⟩ = some (.int .i64 R') ∧ w'.cell? ⟨g + 1, 3, none⟩ = some (.slice A' n' k') :=
    fun w' h1 h2 => ⟨cells4 h1, h2.cell 1, h2.cell 3⟩
  have HCE := Lib.hid hcells
  have HQD : Hid ((w1.drew.cell? ⟨g, 0, none⟩ = some (.int .i64 p) ∧ w1.drew.cell? ⟨g, 1, none⟩ = some (.int .i64 R) ∧ w1.drew.cell? ⟨g, 2, none⟩ = some (.int .i64 C) ∧ w1.drew.cell? ⟨g, 3, none⟩ = some (.slice A n k)) ∧ w1.drew.cell? ⟨g + 1, 1, none⟩ = some (.int .i64 R') ∧ w1.drew.cell? ⟨g + 1, 3, none⟩ = some (.slice A' n' k')) := Lib.hid (hcells w1 hk hk2)
  have HQ := Lib.hid (hcells w1 hk hk2)
  have HC1 := Lib.hid (fun w' (hb' : Below w1.heap.size w1 w') => l1Ints_any A n k xs w' (HSA.out.below hb' (Nat.le_refl _)) (by omega))
  clear hw1 hg hk hk2 hk3 hb hs hs' hcells hS
  go_enter Try.func126, Try.ntmps126
  go_upto_region 1 with fail
  rw [← HW.out, ← HG.out]
  go_region_held3 (fun w' => (w'.cell? ⟨g, 0, none⟩ = some (.int .i64 p) ∧ w'.cell? ⟨g, 1, none⟩ = some (.int .i64 R) ∧ w'.cell? ⟨g, 2, none⟩ = some (.int .i64 C) ∧ w'.cell? ⟨g, 3, none⟩ = some (.slice A n k)) ∧ w'.cell? ⟨g + 1, 1, none⟩ = some (.int .i64 R') ∧ w'.cell? ⟨g + 1, 3, none⟩ = some (.slice A' n' k'))
    (first | exact HQD.out | exact HQ.out | exact K4 | exact K6 | exact KZ)
    (first
      | (refine step_append_any _ (by first | rfl | kernel_rfl | simp [Region.wanted, yielded]) (.tmp 16) (.tmp 18) (by rfl) w1.heap.size B1 m1 d1 xs A' n' k' ys (by first | rfl | simp [Act.eval, Act.put]) (by first | rfl | simp [Act.eval, Act.put]) HO4.out HSB4.out HL4.out HM1.out HN2.out ?_
         intro B6 d6 w6 ho6 hg6 hb6
         have HO6 := Lib.hid ho6
         have HB6 : Hid (Below w1.heap.size w1 w6) := Lib.hid (HB4.out.trans hb6)
         have HKA := Lib.hid (HK.out.below HB6.out HK.out.lt)
         have HKB := Lib.hid (HK2.out.below HB6.out HK2.out.lt)
         have K6 := HCE.out w6 HKA.out HKB.out
         have HR6 := Lib.hid (HK3.out.below HB6.out HK3.out.lt)
         obtain ⟨rr0, rr1, rr2, rr3⟩ := cells4 HR6.out
         obtain ⟨ff0, ff1, ff2, ff3⟩ := frozenM HR6.out
         have KZ := HCE.out _ ((((HKA.out.far (p := ⟨g + 2, 0, none⟩) (by show g ≠ g + 2; omega) (.int .i64 p)).far (p := ⟨g + 2, 1, none⟩) (by show g ≠ g + 2; omega) (.int .i64 S)).far (p := ⟨g + 2, 2, none⟩) (by show g ≠ g + 2; omega) (.int .i64 C)).far (p := ⟨g + 2, 3, none⟩) (by show g ≠ g + 2; omega) (.slice B6 (m1 + n') d6)) ((((HKB.out.far (p := ⟨g + 2, 0, none⟩) (by show g + 1 ≠ g + 2; omega) (.int .i64 p)).far (p := ⟨g + 2, 1, none⟩) (by show g + 1 ≠ g + 2; omega) (.int .i64 S)).far (p := ⟨g + 2, 2, none⟩) (by show g + 1 ≠ g + 2; omega) (.int .i64 C)).far (p := ⟨g + 2, 3, none⟩) (by show g + 1 ≠ g + 2; omega) (.slice B6 (m1 + n') d6))
         have HRP : Hid (Blk ((((w6.setCell ⟨g + 2, 0, none⟩ (.int .i64 p)).setCell ⟨g + 2, 1, none⟩ (.int .i64 S)).setCell ⟨g + 2, 2, none⟩ (.int .i64 C)).setCell ⟨g + 2, 3, none⟩ (.slice B6 (m1 + n') d6)) (g + 2) 27 #[.int .i64 p, .int .i64 S, .int .i64 C, .slice B6 (m1 + n') d6]) := Lib.hid ((((HR6.out.set_ 0 _).set_ 1 _).set_ 2 _).set_ 3 _)
         have HGP := Lib.hid (grown_putM w6 (g + 2) (.int .i64 p) (.int .i64 S) (.int .i64 C) (.slice B6 (m1 + n') d6))
         clear ho6 hg6 hb6)
      | (go_at_call 170
         with_reducible refine (HC1.out _ ((Below.refl _ _).drew)).mono ?_
         rintro e w4 ⟨B1, m1, d1, rfl, ho4, hb4⟩
         have HB4 : Hid (Below w1.heap.size w1 w4) := Lib.hid (((Below.refl _ _).drew).trans hb4)
         have K4 := HCE.out w4 (HK.out.below HB4.out HK.out.lt) (HK2.out.below HB4.out HK2.out.lt)
         have HO4 : Hid (Own w4 w1.heap.size w4.heap.size B1 m1 d1 xs) := Lib.hid ho4
         have HL4 : Hid (w1.heap.size ≤ w4.heap.size) := Lib.hid hb4.size
         have HSB4 := Lib.hid (HSB.out.below HB4.out (Nat.le_refl _))
         have HM1 : Hid (m1 ≤ 1099511627776) := Lib.hid (by have := ho4.len; have := HXL.out; omega)
         have HN2 : Hid (n' ≤ 1099511627776) := Lib.hid (by omega)
         clear ho4 hb4))
  go_wp2
  refine bodyPost_ret (results_rowP Try.results126 _ _ _ 27 #[.int .i64 p, .int .i64 S, .int .i64 C, .slice B6 (m1 + n') d6] _ rfl HRP.out Try.underlying27 rfl Try.infoMx) rfl ?_
  have l1 := HSZ.out
  have l2 := HG.out
  have l3 := HGP.out.size
  have l5 := HB1.out.size
  have l6 := HB6.out.size
  refine ⟨B6, m1 + n', d6, rfl, ?_, ?_⟩
  · exact (HO6.out.grown HGP.out (fun q hq => by injection hq with hq; omega)).wide (by omega) l3
  · exact (HB1.out.trans (HB6.out.mono l5)).grown HGP.out (by omega) (by rintro q ⟨⟩; omega)
end Go.Proofs.Ytfaegfhbbkicgaa

/-
  SumSpaces: what it answers, and the document's side. Conditions: lengths below 2^40.
-/


namespace Go.Proofs.Ytfaegfhbbkicgaa
open Go.RowKit

theorem rowsC_app {xs ys : List Int} {C R R' : Nat} (hl : xs.length = R * C) : rowsC (xs ++ ys) C (R + R') C = rowsC xs C R C ++ rowsC ys C R' C := by
  unfold rowsC
  rw [List.range_add, List.map_append, List.map_map]
  congr 1
  · refine List.map_congr_left fun i hi => ?_
    have hi' := List.mem_range.1 hi
    unfold rowC
    refine List.map_congr_left fun j hj => ?_
    have hj' := List.mem_range.1 hj
    have h := idx_lt hi' hj'
    simp only [nth, List.getD_eq_getElem?_getD]
    rw [List.getElem?_append_left (by omega)]
  · refine List.map_congr_left fun i hi => ?_
    unfold rowC
    simp only [Function.comp]
    refine List.map_congr_left fun j hj => ?_
    simp only [nth, List.getD_eq_getElem?_getD]
    rw [List.getElem?_append_right (by rw [hl, Nat.add_mul]; omega)]
    congr 2
    rw [hl, Nat.add_mul]; omega
theorem Rg.app {p : Int} {xs ys : List Int} (h1 : Rg p xs) (h2 : Rg p ys) : Rg p (xs ++ ys) := fun j => by
  by_cases hj : j < xs.length
  · have e : nth (xs ++ ys) j = nth xs j := by simp only [nth, List.getD_eq_getElem?_getD]; rw [List.getElem?_append_left hj]
    rw [e]; exact h1 j
  · have e : nth (xs ++ ys) j = nth ys (j - xs.length) := by simp only [nth, List.getD_eq_getElem?_getD]; rw [List.getElem?_append_right (by omega)]
    rw [e]; exact h2 _
/-- The rows of both. -/
def bothR (xs ys : List Int) (C R R' : Nat) : List (List Int) := rowsC xs C R C ++ rowsC ys C R' C
/-- What SumSpaces answers. -/
def SumIs (p r c : Int) (xs : List Int) (p' r' c' : Int) (ys : List Int) (zp zr zc : Int) (z : List Int) (ok : Bool) : Prop :=
  ok = twoB p r c xs p' r' c' ys ∧ (ok = true → zp = p ∧ zr = spanN p c.toNat (bothR xs ys c.toNat r.toNat r'.toNat) ∧ zc = c ∧ z = spanX p c.toNat (bothR xs ys c.toNat r.toNat r'.toNat)) ∧ (ok = false → zp = 0 ∧ zr = 0 ∧ zc = 0 ∧ z = [])
theorem sum_ex (p r c : Int) (xs : List Int) (p' r' c' : Int) (ys : List Int) : ∃ zp zr zc z ok, SumIs p r c xs p' r' c' ys zp zr zc z ok := by
  cases h : twoB p r c xs p' r' c' ys with
  | true => exact ⟨_, _, _, _, true, h.symm, fun _ => ⟨rfl, rfl, rfl, rfl⟩, fun h' => absurd h' (by decide)⟩
  | false => exact ⟨0, 0, 0, [], false, h.symm, fun h' => absurd h' (by decide), fun _ => ⟨rfl, rfl, rfl, rfl⟩⟩
theorem isSpB_mat' {p r c : Int} {xs : List Int} (h : isSpB p r c xs = true) : matB p r c xs = true := by
  unfold isSpB at h
  exact (of_decide_eq_true h).1
/-- Two spaces in one: both are right, of one modulus and as many columns. -/
theorem twoB_yes {p r c : Int} {xs : List Int} {p' r' c' : Int} {ys : List Int} (h : twoB p r c xs p' r' c' ys = true) : ∃ R R' C : Nat, r = (R : Int) ∧ r' = (R' : Int) ∧ c = (C : Int) ∧ p' = p ∧ c' = (C : Int) ∧ P7 p ∧ R ≤ 7 ∧ R' ≤ 7 ∧ 1 ≤ C ∧ C ≤ 7 ∧ xs.length = R * C ∧ ys.length = R' * C ∧ Rg p xs ∧ Rg p ys := by
  unfold twoB at h
  simp only [Bool.and_eq_true, decide_eq_true_eq] at h
  obtain ⟨h1, h2, rfl, rfl⟩ := h
  have hM := matB_P (isSpB_mat' h1)
  have hM' := matB_P (isSpB_mat' h2)
  obtain ⟨R, C, rfl, e, hR7, hC1, hC7, hxl⟩ := hM.nats
  obtain ⟨R', C', rfl, e', hR7', hC1', hC7', hxl'⟩ := hM'.nats
  have eC : C' = C := by omega
  subst eC
  exact ⟨R, R', C', rfl, rfl, e, rfl, e, hM.1, hR7, hR7', hC1, hC7, hxl, hxl', hM.rg, hM'.rg⟩
/-- A call that hands back a matrix of its own and a bool. -/
def FreshMxB (w w' : World) (e : Ending) (p r c : Int) (xs : List Int) (ok : Bool) : Prop :=
  ∃ A n k, e = .returned (.tuple #[.agg #[.int .i64 p, .int .i64 r, .int .i64 c, .slice A n k], .bool ok]) ∧ Own w' w.heap.size w'.heap.size A n k xs ∧ Below w.heap.size w w'
end Go.Proofs.Ytfaegfhbbkicgaa

/-
  How much rows have in common: mathematics. Conditions: p is 2, 3, 5 or 7.
-/






namespace Go.Proofs.Ytfaegfhbbkicgaa
open Go.RowKit

theorem rank_span {p : Int} {n : Nat} {A B : List (List Int)} (hp : P7 p) (hA : ∀ x, x ∈ A → x.length = n ∧ Rg p x) (hB : ∀ x, x ∈ B → x.length = n ∧ Rg p x) (h : ∀ v, Sp p n (A.map nth) v ↔ Sp p n (B.map nth) v) : rnkL p A = rnkL p B := by
  have h1 := Ech.same_len hp.two (echel_ok hp hA).1.2 (echel_ok hp hB).1.2 (fun v => by rw [prs_vec, prs_vec, (echel_ok hp hA).2 v, (echel_ok hp hB).2 v]; exact h v)
  simpa [prs, rnkL] using h1
theorem app_ok {p : Int} {n : Nat} {A B : List (List Int)} (hA : ∀ x, x ∈ A → x.length = n ∧ Rg p x) (hB : ∀ x, x ∈ B → x.length = n ∧ Rg p x) : ∀ x, x ∈ A ++ B → x.length = n ∧ Rg p x := fun x hx => by
  rcases List.mem_append.1 hx with h | h
  · exact hA x h
  · exact hB x h
/-- Rows with the same sums of multiples, in either order. -/
theorem rank_swap {p : Int} {n : Nat} {A A' S : List (List Int)} (hp : P7 p) (hA : ∀ x, x ∈ A → x.length = n ∧ Rg p x) (hA' : ∀ x, x ∈ A' → x.length = n ∧ Rg p x) (hS : ∀ x, x ∈ S → x.length = n ∧ Rg p x) (h : ∀ v, Sp p n (A.map nth) v ↔ Sp p n (A'.map nth) v) :
    rnkL p (A ++ S) = rnkL p (S ++ A') := by
  refine rank_span hp (app_ok hA hS) (app_ok hS hA') fun v => ?_
  rw [List.map_append, List.map_append]
  refine Sp.same (fun r hr => ?_) (fun r hr => ?_) v
  · rcases List.mem_append.1 hr with h1 | h1
    · exact Sp.app_right ((h r).1 (Sp.mem h1))
    · exact Sp.app_left (Sp.mem h1)
  · rcases List.mem_append.1 hr with h1 | h1
    · exact Sp.app_right (Sp.mem h1)
    · exact Sp.app_left ((h r).2 (Sp.mem h1))
theorem rnkL_nil (p : Int) : rnkL p [] = 0 := rfl
/-- The first rows of a flag: as many as their rank. -/
theorem rank_take {p : Int} {rows : List (List Int)} (h : (echel p rows).length = rows.length) {i : Nat} (hi : i ≤ rows.length) : rnkL p (rows.take i) = i := by
  unfold rnkL
  rw [echel_take h hi, List.length_take]
  omega
theorem sp_take {p : Int} {n : Nat} {rows : List (List Int)} (hp : P7 p) (hr : ∀ x, x ∈ rows → x.length = n ∧ Rg p x) (h : (echel p rows).length = rows.length) {i : Nat} (hi : i ≤ rows.length) (v : Nat → Int) :
    Sp p n ((((echel p rows).map (·.1)).take i).map nth) v ↔ Sp p n ((rows.take i).map nth) v := by
  have h1 := (echel_ok (p := p) (n := n) hp (rows := rows.take i) (fun x hx => hr x (List.mem_of_mem_take hx))).2 v
  rw [echel_take h hi] at h1
  rw [← h1, ← List.map_take]
  unfold vec
  rw [List.map_map]
  rfl
theorem redD_span {p : Int} {n : Nat} {rows : List (List Int)} (hp : P7 p) (hr : ∀ x, x ∈ rows → x.length = n ∧ Rg p x) (v : Nat → Int) : Sp p n (vec (redD p n rows)) v ↔ Sp p n (vec (echel p rows)) v := by
  have hE := echel_ok hp hr
  have hD := DscI.all hp hE.1 n (Nat.le_refl _)
  have h1 := (echel_ok (p := p) (n := n) hp (rows := dscR (echel p rows) n n) fun x hx => by
    obtain ⟨e, he, rfl⟩ := hD.rows x hx
    exact ⟨(hE.1.1 e he).1, (hE.1.1 e he).2.1⟩).2 v
  show Sp p n (vec (echel p (dscR (echel p rows) n n))) v ↔ _
  rw [h1]
  refine Sp.same (fun q hq => ?_) (fun q hq => ?_) v
  · obtain ⟨x, hx, rfl⟩ := List.mem_map.1 hq
    obtain ⟨e, he, rfl⟩ := hD.rows x hx
    exact Sp.mem (List.mem_map.2 ⟨e, he, rfl⟩)
  · obtain ⟨e, he, rfl⟩ := List.mem_map.1 hq
    exact Sp.mem (List.mem_map.2 ⟨e.1, hD.has e he (by have := (hE.1.1 e he).2.2.1; have := (hE.1.1 e he).2.2.2; omega), rfl⟩)
theorem spanN_rank {p : Int} {n : Nat} {rows : List (List Int)} (hp : P7 p) (hr : ∀ x, x ∈ rows → x.length = n ∧ Rg p x) : spanN p n rows = rnkL p rows := by
  have h1 := Ech.same_len hp.two (redD_ok hp hr).2 (echel_ok hp hr).1.2 (fun v => by rw [prs_vec, prs_vec]; exact redD_span hp hr v)
  simpa [prs, rnkL, spanN] using h1
theorem isSp_yes {p r c : Int} {xs : List Int} (h : isSpB p r c xs = true) : ∃ R C : Nat, r = (R : Int) ∧ c = (C : Int) ∧ P7 p ∧ R ≤ 7 ∧ 1 ≤ C ∧ C ≤ 7 ∧ xs.length = R * C ∧ Rg p xs ∧ rnkL p (rowsC xs C R C) = R := by
  have hm := isSpB_mat' h
  have hM := matB_P hm
  obtain ⟨R, C, rfl, rfl, hR7, hC1, hC7, hxl⟩ := hM.nats
  unfold isSpB at h
  have h2 := (of_decide_eq_true h).2
  simp only [Int.toNat_natCast] at h2
  have hro := rowsC_ok (p := p) (d := xs) (by have := hM.1.two; omega) hM.rg C R C
  have h3 := congrArg List.length h2
  unfold spanX at h3
  rw [flatK_len, hxl, spanN_rank hM.1 hro] at h3
  exact ⟨R, C, rfl, rfl, hM.1, hR7, hC1, hC7, hxl, hM.rg, Nat.eq_of_mul_eq_mul_right hC1 h3⟩
/-- How much the sums of two lists of rows have in common. -/
def cmnR (p : Int) (A B : List (List Int)) : Int := (rnkL p A : Int) + (rnkL p B : Int) - (rnkL p (A ++ B) : Int)
theorem rnkL_app (p : Int) (A B : List (List Int)) : rnkL p A ≤ rnkL p (A ++ B) ∧ rnkL p (A ++ B) ≤ rnkL p A + B.length := by
  unfold rnkL echel
  rw [List.foldl_append]
  obtain ⟨t, e, h⟩ := foldl_addR_app p B (A.foldl (addR p) [])
  rw [e, List.length_append]
  omega
theorem cmnR_b (p : Int) (A B : List (List Int)) : -(B.length : Int) ≤ cmnR p A B ∧ cmnR p A B ≤ B.length := by
  have h1 := rnkL_app p A B
  have h2 := rnkL_le p B
  unfold cmnR
  omega
theorem rowsC_take {d : List Int} {C i : Nat} (q : Nat) (hq : i * C ≤ q) : rowsC (d.take q) C i C = rowsC d C i C := by
  unfold rowsC
  refine List.map_congr_left fun k hk => ?_
  have hk' := List.mem_range.1 hk
  unfold rowC
  refine List.map_congr_left fun j hj => ?_
  have hj' := List.mem_range.1 hj
  have h := idx_lt hk' hj'
  simp only [nth, List.getD_eq_getElem?_getD]
  rw [List.getElem?_take_of_lt (by omega)]
theorem rowsC_first {d : List Int} {C i n : Nat} (h : i ≤ n) : rowsC d C i C = (rowsC d C n C).take i := by
  unfold rowsC
  rw [← List.map_take, List.take_range, Nat.min_eq_left h]
/-- The first rows of a normal form, as rows of a matrix. -/
theorem flat_rows {C : Nat} {E : List (List Int × Int)} (hE : ∀ e, e ∈ E → e.1.length = C) (hl : E.length = C) {i : Nat} (hi : i ≤ C) : rowsC (flatK C C (E.map (·.1)) C) C i C = (E.map (·.1)).take i := by
  refine li_ext (by rw [rowsC_len, List.length_take, List.length_map]; omega) fun j hj => ?_
  rw [rowsC_len] at hj
  have hjE : j < E.length := by omega
  rw [rowsC_li hj]
  have e1 : li ((E.map (·.1)).take i) j = li (E.map (·.1)) j := by simp [li, List.getD, hj]
  have e2 : li (E.map (·.1)) j = E[j].1 := by rw [li_get (by simpa using hjE)]; simp
  rw [e1]
  refine nth_ext (by rw [rowC_len, e2, hE _ (List.getElem_mem hjE)]) fun q hq => ?_
  rw [rowC_len] at hq
  rw [rowC_nth hq, flatK_nth (idx_lt (by omega) hq)]
  obtain ⟨a, b⟩ := div_row (i := j) hq
  rw [a, b, if_pos (by omega)]
/-- The position of a space: how the common part grows. -/
def posL (p : Int) (R C : Nat) (xs ys : List Int) : List Int := (List.range C).map fun j => cmnR p (rowsC xs C R C) (rowsC ys C (j + 1) C) - cmnR p (rowsC xs C R C) (rowsC ys C j C)
def besideB (p r c : Int) (xs : List Int) (p' r' c' : Int) (ys : List Int) : Bool := isSpB p r c xs && (flagB p' r' c' ys && (decide (p = p') && decide (c = c')))
theorem beside_yes {p r c : Int} {xs : List Int} {p' r' c' : Int} {ys : List Int} (h : besideB p r c xs p' r' c' ys = true) : ∃ R C : Nat, r = (R : Int) ∧ c = (C : Int) ∧ p' = p ∧ r' = (C : Int) ∧ c' = (C : Int) ∧ P7 p ∧ R ≤ 7 ∧ 1 ≤ C ∧ C ≤ 7 ∧ xs.length = R * C ∧ ys.length = C * C ∧ Rg p xs ∧ Rg p ys ∧ rnkL p (rowsC xs C R C) = R ∧ (echel p (rowsC ys C C C)).length = C := by
  unfold besideB at h
  simp only [Bool.and_eq_true, decide_eq_true_eq] at h
  obtain ⟨h1, h2, rfl, rfl⟩ := h
  obtain ⟨R, C, rfl, e, hp7, hR7, hC1, hC7, hxl, hxr, hrk⟩ := isSp_yes h1
  obtain ⟨C', rfl, e', _, _, _, hyl, hyr, hfull⟩ := flagB_yes h2
  have eC : C' = C := by omega
  subst eC
  exact ⟨R, C', rfl, e, rfl, rfl, e, hp7, hR7, hC1, hC7, hxl, hyl, hxr, hyr, hrk, hfull⟩
def posW (p r c : Int) (xs : List Int) (p' r' c' : Int) (ys : List Int) : List Int := if besideB p r c xs p' r' c' ys = true then posL p r.toNat c.toNat xs ys else []
theorem posW_len (p r c : Int) (xs : List Int) (p' r' c' : Int) (ys : List Int) : (posW p r c xs p' r' c' ys).length ≤ 1000 := by
  unfold posW
  split
  · rename_i h
    obtain ⟨R, C, rfl, rfl, _, _, _, _, _, _, hC7, _⟩ := beside_yes h
    simp only [posL, List.length_map, List.length_range, Int.toNat_natCast]; omega
  · simp
/-- What the program reckons: with the normal form of the flag, and the rows as they are. -/
theorem common_same {p : Int} {R C i : Nat} {ys : List Int} {S : List (List Int)} (hp : P7 p) (hyr : Rg p ys) (hfull : (echel p (rowsC ys C C C)).length = C) (hS : ∀ x, x ∈ S → x.length = C ∧ Rg p x) (_hSl : S.length = R) (hSr : rnkL p S = R) (hi : i ≤ C) :
    (R : Int) + (i : Int) - (rnkL p (((echel p (rowsC ys C C C)).map (·.1)).take i ++ S) : Int) = cmnR p S (rowsC ys C i C) := by
  have hro := rowsC_ok (p := p) (d := ys) (by have := hp.two; omega) hyr C C C
  have hf : (echel p (rowsC ys C C C)).length = (rowsC ys C C C).length := by rw [hfull, rowsC_len]
  have h1 := rank_take hf (i := i) (by rw [rowsC_len]; exact hi)
  have hEk := (echel_ok hp hro).1.1
  have h2 := rank_swap (A := ((echel p (rowsC ys C C C)).map (·.1)).take i) (A' := (rowsC ys C C C).take i) (S := S) hp (fun x hx => by
    obtain ⟨e, he, rfl⟩ := List.mem_map.1 (List.mem_of_mem_take hx)
    exact ⟨(hEk e he).1, (hEk e he).2.1⟩) (fun x hx => hro x (List.mem_of_mem_take hx)) hS (fun v => sp_take hp hro hf (by rw [rowsC_len]; exact hi) v)
  rw [h2, rowsC_first hi]
  unfold cmnR
  rw [h1, hSr]

end Go.Proofs.Ytfaegfhbbkicgaa

/-
  Two flags: where the common part begins to grow. Mathematics. Conditions: p is 2, 3, 5 or 7.
-/

namespace Go.Proofs.Ytfaegfhbbkicgaa
open Go.RowKit

/-- A row more: the rank grows by one just when the row is no sum of multiples of the others. -/
theorem rnk_snoc {p : Int} {n : Nat} {A : List (List Int)} {x : List Int} (hp : P7 p) (hA : ∀ y, y ∈ A → y.length = n ∧ Rg p y) (hx : x.length = n ∧ Rg p x) :
    (Sp p n (A.map nth) (nth x) ∧ rnkL p (A ++ [x]) = rnkL p A) ∨ (¬ Sp p n (A.map nth) (nth x) ∧ rnkL p (A ++ [x]) = rnkL p A + 1) := by
  have hA2 : ∀ y, y ∈ A ++ [x] → y.length = n ∧ Rg p y := app_ok hA (fun y hy => by rw [List.mem_singleton.1 hy]; exact hx)
  by_cases hs : Sp p n (A.map nth) (nth x)
  · refine .inl ⟨hs, rank_span hp hA2 hA fun v => ?_⟩
    rw [List.map_append]
    refine Sp.same (fun r hr => ?_) (fun r hr => Sp.app_left (Sp.mem hr)) v
    rcases List.mem_append.1 hr with h | h
    · exact Sp.mem h
    · rw [List.map_singleton, List.mem_singleton] at h; rw [h]; exact hs
  · refine .inr ⟨hs, ?_⟩
    have e : echel p (A ++ [x]) = addR p (echel p A) x := by unfold echel; rw [List.foldl_append]; rfl
    unfold rnkL
    by_cases h : ldN (redE p (echel p A) x) = x.length
    · exfalso
      have h2 : echel p (A ++ [x]) = echel p A := by rw [e]; unfold addR; rw [if_pos h]
      have h3 := ((echel_ok hp hA2).2 (nth x)).2 (Sp.mem (by simp))
      rw [h2] at h3
      exact hs (((echel_ok hp hA).2 (nth x)).1 h3)
    · rw [e]; unfold addR; rw [if_neg h, List.length_append]; rfl
/-- How much the common part grows by the row i of the first, beside j rows of the second. -/
def dlt (p : Int) (A B : List (List Int)) (i j : Nat) : Int := cmnR p (A.take (i + 1)) (B.take j) - cmnR p (A.take i) (B.take j)
def inS (p : Int) (n : Nat) (A B : List (List Int)) (i j : Nat) : Prop := Sp p n ((A.take i ++ B.take j).map nth) (nth (li A i))
theorem take_one {A : List (List Int)} {i : Nat} (h : i < A.length) : A.take (i + 1) = A.take i ++ [li A i] := by
  rw [li_get h]; simp
theorem dlt_is {p : Int} {n : Nat} {A B : List (List Int)} (hp : P7 p) (hA : ∀ y, y ∈ A → y.length = n ∧ Rg p y) (hB : ∀ y, y ∈ B → y.length = n ∧ Rg p y) (hf : (echel p A).length = A.length) {i : Nat} (hi : i < A.length) (j : Nat) :
    (inS p n A B i j ∧ dlt p A B i j = 1) ∨ (¬ inS p n A B i j ∧ dlt p A B i j = 0) := by
  have hAi : ∀ y, y ∈ A.take i → y.length = n ∧ Rg p y := fun y hy => hA y (List.mem_of_mem_take hy)
  have hBj : ∀ y, y ∈ B.take j → y.length = n ∧ Rg p y := fun y hy => hB y (List.mem_of_mem_take hy)
  have hx : (li A i).length = n ∧ Rg p (li A i) := by rw [li_get hi]; exact hA _ (List.getElem_mem hi)
  have hx1 : ∀ y, y ∈ [li A i] → y.length = n ∧ Rg p y := fun y hy => by rw [List.mem_singleton.1 hy]; exact hx
  have h1 := rank_take hf (i := i) (by omega)
  have h2 := rank_take hf (i := i + 1) (by omega)
  have h3 : rnkL p (A.take (i + 1) ++ B.take j) = rnkL p ((A.take i ++ B.take j) ++ [li A i]) := by
    rw [take_one hi]
    refine rank_span hp (app_ok (app_ok hAi hx1) hBj) (app_ok (app_ok hAi hBj) hx1) fun v => ?_
    rw [List.map_append, List.map_append, List.map_append, List.map_append]
    refine Sp.same (fun r hr => Sp.mem ?_) (fun r hr => Sp.mem ?_) v
    · rcases List.mem_append.1 hr with h | h
      · rcases List.mem_append.1 h with h | h
        · exact List.mem_append_left _ (List.mem_append_left _ h)
        · exact List.mem_append_right _ h
      · exact List.mem_append_left _ (List.mem_append_right _ h)
    · rcases List.mem_append.1 hr with h | h
      · rcases List.mem_append.1 h with h | h
        · exact List.mem_append_left _ (List.mem_append_left _ h)
        · exact List.mem_append_right _ h
      · exact List.mem_append_left _ (List.mem_append_right _ h)
  unfold inS dlt cmnR
  rcases rnk_snoc hp (app_ok hAi hBj) hx with ⟨hs, e⟩ | ⟨hs, e⟩
  · exact .inl ⟨hs, by omega⟩
  · exact .inr ⟨hs, by omega⟩
theorem inS_mono {p : Int} {n : Nat} {A B : List (List Int)} {i j k : Nat} (hjk : j ≤ k) (h : inS p n A B i j) : inS p n A B i k := by
  unfold inS at *
  refine Sp.trans (fun r hr => Sp.mem ?_) h
  rw [List.map_append] at hr ⊢
  rcases List.mem_append.1 hr with h | h
  · exact List.mem_append_left _ h
  · refine List.mem_append_right _ ?_
    obtain ⟨y, hy, rfl⟩ := List.mem_map.1 h
    refine List.mem_map.2 ⟨y, ?_, rfl⟩
    rw [show B.take j = (B.take k).take j by rw [List.take_take, Nat.min_eq_left hjk]] at hy
    exact List.mem_of_mem_take hy
/-- There is one place at which the growing begins. -/
theorem dlt_jump {p : Int} {n : Nat} {A B : List (List Int)} (hp : P7 p) (hA : ∀ y, y ∈ A → y.length = n ∧ Rg p y) (hB : ∀ y, y ∈ B → y.length = n ∧ Rg p y) (hf : (echel p A).length = A.length) (hfB : rnkL p B = n) (hBl : B.length = n) {i : Nat} (hi : i < A.length) :
    ∃ J, J < n ∧ (∀ j, j ≤ J → dlt p A B i j = 0) ∧ (∀ j, J < j → dlt p A B i j = 1) := by
  have h0 : dlt p A B i 0 = 0 := by
    have h1 := rank_take hf (i := i) (by omega)
    have h2 := rank_take hf (i := i + 1) (by omega)
    unfold dlt cmnR
    rw [List.take_zero, List.append_nil, List.append_nil]
    omega
  have hC : dlt p A B i n = 1 := by
    have h1 := rank_take hf (i := i) (by omega)
    have h2 := rank_take hf (i := i + 1) (by omega)
    have hAq : ∀ q, ∀ y, y ∈ A.take q → y.length = n ∧ Rg p y := fun q y hy => hA y (List.mem_of_mem_take hy)
    have hb : ∀ q, rnkL p (A.take q ++ B) = n := fun q => by
      have e1 := rank_swap hp (A := A.take q) (A' := A.take q) (S := B) (hAq q) (hAq q) hB (fun v => Iff.rfl)
      have e2 := (rnkL_app p B (A.take q)).1
      have e3 := (echel_ok hp (app_ok (hAq q) hB)).1.len_le hp
      have e4 : rnkL p (A.take q ++ B) = (echel p (A.take q ++ B)).length := rfl
      omega
    have e : B.take n = B := by rw [← hBl]; exact List.take_length
    have e5 := hb i
    have e6 := hb (i + 1)
    unfold dlt cmnR
    rw [e]
    omega
  have key : ∀ m, (∀ j, j ≤ m → dlt p A B i j = 0) ∨ ∃ J, J < m ∧ (∀ j, j ≤ J → dlt p A B i j = 0) ∧ dlt p A B i (J + 1) = 1 := fun m => by
    induction m with
    | zero => exact .inl fun j hj => by obtain rfl : j = 0 := by omega
                                        exact h0
    | succ m ih =>
      rcases ih with h | ⟨J, hJ, h1, h2⟩
      · rcases dlt_is hp hA hB hf hi (m + 1) with ⟨_, e⟩ | ⟨_, e⟩
        · exact .inr ⟨m, by omega, h, e⟩
        · refine .inl fun j hj => ?_
          by_cases hjm : j ≤ m
          · exact h j hjm
          · obtain rfl : j = m + 1 := by omega
            exact e
      · exact .inr ⟨J, by omega, h1, h2⟩
  rcases key n with h | ⟨J, hJ, h1, h2⟩
  · rw [h n (Nat.le_refl _)] at hC; exact absurd hC (by decide)
  · refine ⟨J, hJ, h1, fun j hj => ?_⟩
    rcases dlt_is hp hA hB hf hi (J + 1) with ⟨hs, _⟩ | ⟨_, e⟩
    · rcases dlt_is hp hA hB hf hi j with ⟨_, e⟩ | ⟨hn, _⟩
      · exact e
      · exact absurd (inS_mono hj hs) hn
    · rw [e] at h2; exact absurd h2 (by decide)
/-- The place at which the growing by the row i begins. -/
def jmp (p : Int) (n : Nat) (A B : List (List Int)) (i : Nat) : Nat := ldN ((List.range n).map fun j => dlt p A B i (j + 1))
theorem jmp_is {p : Int} {n : Nat} {A B : List (List Int)} {i J : Nat} (hJ : J < n) (h0 : ∀ j, j ≤ J → dlt p A B i j = 0) (h1 : ∀ j, J < j → dlt p A B i j = 1) : jmp p n A B i = J := by
  have hl : ((List.range n).map fun j => dlt p A B i (j + 1)).length = n := by simp
  refine ldN_is _ J (by rw [hl]; omega) (fun j hj => ?_) (.inr ?_)
  · rw [nth_rangeMap _ (by omega)]; exact h0 _ (by omega)
  · rw [nth_rangeMap _ hJ, h1 _ (by omega)]; decide
/-- The relative position of two flags. -/
def relL (p : Int) (C : Nat) (xs ys : List Int) : List Int := (List.range C).map fun i => ((jmp p C (rowsC xs C C C) (rowsC ys C C C) i : Nat) : Int)
def pairB (p r c : Int) (xs : List Int) (p' r' c' : Int) (ys : List Int) : Bool := flagB p r c xs && (flagB p' r' c' ys && (decide (p = p') && decide (c = c')))
def relW (p r c : Int) (xs : List Int) (p' r' c' : Int) (ys : List Int) : List Int := if pairB p r c xs p' r' c' ys = true then relL p c.toNat xs ys else []
theorem relW_no {p r c : Int} {xs : List Int} {p' r' c' : Int} {ys : List Int} (h : pairB p r c xs p' r' c' ys = false) : relW p r c xs p' r' c' ys = [] := by unfold relW; rw [h]; simp
theorem pair_yes {p r c : Int} {xs : List Int} {p' r' c' : Int} {ys : List Int} (h : pairB p r c xs p' r' c' ys = true) : ∃ C : Nat, r = (C : Int) ∧ c = (C : Int) ∧ p' = p ∧ r' = (C : Int) ∧ c' = (C : Int) ∧ P7 p ∧ 1 ≤ C ∧ C ≤ 7 ∧ xs.length = C * C ∧ ys.length = C * C ∧ Rg p xs ∧ Rg p ys ∧ (echel p (rowsC xs C C C)).length = C ∧ (echel p (rowsC ys C C C)).length = C := by
  unfold pairB at h
  simp only [Bool.and_eq_true, decide_eq_true_eq] at h
  obtain ⟨h1, h2, rfl, rfl⟩ := h
  obtain ⟨C, rfl, e, hp7, hC1, hC7, hxl, hxr, hxf⟩ := flagB_yes h1
  obtain ⟨C', rfl, e', _, _, _, hyl, hyr, hyf⟩ := flagB_yes h2
  have eC : C' = C := by omega
  subst eC
  exact ⟨C', rfl, e, rfl, rfl, e, hp7, hC1, hC7, hxl, hyl, hxr, hyr, hxf, hyf⟩
theorem relW_len (p r c : Int) (xs : List Int) (p' r' c' : Int) (ys : List Int) : (relW p r c xs p' r' c' ys).length ≤ 1000 := by
  unfold relW
  split
  · rename_i h
    obtain ⟨C, rfl, rfl, _, _, _, _, _, hC7, _⟩ := pair_yes h
    simp only [relL, List.length_map, List.length_range, Int.toNat_natCast]; omega
  · simp
/-- Of two flags: the place, and what the document and the program look for. -/
theorem flags_jump {p : Int} {C : Nat} {xs ys : List Int} (hp : P7 p) (hx : Rg p xs) (hy : Rg p ys) (hxf : (echel p (rowsC xs C C C)).length = C) (hyf : (echel p (rowsC ys C C C)).length = C) {i : Nat} (hi : i < C) :
    jmp p C (rowsC xs C C C) (rowsC ys C C C) i < C ∧ ∀ j, j ≤ C →
      cmnR p (rowsC xs C (i + 1) C) (rowsC ys C j C) - cmnR p (rowsC xs C i C) (rowsC ys C j C) = if j ≤ jmp p C (rowsC xs C C C) (rowsC ys C C C) i then 0 else 1 := by
  have hA := rowsC_ok (p := p) (d := xs) (by have := hp.two; omega) hx C C C
  have hB := rowsC_ok (p := p) (d := ys) (by have := hp.two; omega) hy C C C
  obtain ⟨J, hJ, h0, h1⟩ := dlt_jump (n := C) hp hA hB (by rw [hxf, rowsC_len]) hyf (rowsC_len ..) (i := i) (by rw [rowsC_len]; exact hi)
  rw [jmp_is hJ h0 h1]
  refine ⟨hJ, fun j hj => ?_⟩
  rw [rowsC_first (d := xs) (show i + 1 ≤ C by omega), rowsC_first (d := xs) (show i ≤ C by omega), rowsC_first (d := ys) hj]
  by_cases hjJ : j ≤ J
  · rw [if_pos hjJ]; exact h0 j hjJ
  · rw [if_neg hjJ]; exact h1 j (by omega)
end Go.Proofs.Ytfaegfhbbkicgaa

/-
  Ranks on the document's side. Conditions: lengths below 2^40.
-/




namespace Go.Proofs.Ytfaegfhbbkicgaa
open Go.RowKit

theorem rowsC_whole (d : List Int) (C R : Nat) : rowsC d C R C = rowsL d C R := rfl
set_option maxRecDepth 100000 in
set_option maxHeartbeats 2000000 in
theorem l7Rank_any (p : Int) (R C : Nat) (A : Option Addr) (n k : Nat) (xs : List Int) (rows : List (List Int)) (w : World) (hp : P7 p) (hs : SI w A n xs) (hR : R ≤ 14) (hC : C ≤ 14) (hx : Rg p xs) (hl : xs.length = R * C)
    (hr : rows.length = R) (hro : ∀ x, x ∈ rows → x.length = C ∧ Rg p x) (h0 : ∀ i c, i < R → c < C → nth (li rows i) c = nth xs (i * C + c)) :
    Calls Try.prog 124 #[.agg #[.int .i64 p, .int .i64 R, .int .i64 C, .slice A n k]] w fun e w' => e = .returned (.int .i64 (rnkL p rows)) ∧ Below w.heap.size w w' := by
  obtain ⟨w1, hw1⟩ : ∃ w1, w1 = w.alloc (.cells #[.int .i64 p, .int .i64 R, .int .i64 C, .slice A n k] 27) := ⟨_, rfl⟩
  obtain ⟨g, hg⟩ : ∃ g, g = w.heap.size := ⟨_, rfl⟩
  have hk : Blk w1 g 27 #[.int .i64 p, .int .i64 R, .int .i64 C, .slice A n k] := by rw [hw1, hg]; exact Blk.new _ _ _
  have hb : Below w.heap.size w w1 := by rw [hw1]; exact Below.alloc_self _ _
  have HB := Lib.hid hb
  have HW := Lib.hid hw1
  have HG := Lib.hid hg
  have HK := Lib.hid hk
  have HRED := Lib.hid (l7Reduce_any p R C A n k xs (fun i c => nth xs (i * C + c)) w1 hp (hs.below hb (Nat.le_refl _)) hR hC hx ⟨hl, fun i c _ _ => rfl⟩)
  have HRK := Lib.hid (fun (M : Nat → Nat → Int) (ps : List Int) (j : Nat) (h : RedI p C R (fun i c => nth xs (i * C + c)) M ps j) (hj : j ≤ C) (he : j = C ∨ ps.length = R) => rank_same hp hro hr h0 h hj he)
  clear hw1 hg hk hb hs hp hx hl hr hro h0
  go_enter Try.func124, Try.ntmps124
  go_upto_region 1 with fail
  rw [← HW.out, ← HG.out]
  go_wp2_with (first
    | (refine wpList_load_rowP rfl 27 (.tmp 1) rfl g rfl 27 #[.int .i64 p, .int .i64 R, .int .i64 C, .slice A n k] _ HK.out Try.underlying27 rfl Try.infoMx ?_)
    | (go_at_call 136
       with_reducible refine HRED.out.mono ?_
       rintro e w2 ⟨A2, k2, Ap, np, cp, rfl, hres⟩
       have HRES := Lib.hid hres
       clear hres)
    | (refine wpList_store_rowP rfl 27 (.tmp 3) (.tmp 8) rfl w2.heap.size #[.int .i64 p, .int .i64 R, .int .i64 C, .slice A2 n k2] rfl rfl 27 #[.int .i64 0, .int .i64 0, .int .i64 0, .slice none 0 0] (Blk.new _ _ _) Try.infoMx rfl (by simp [Value.oneCell']) ?_; intro w5 hb5 hg5; have HG5 := Lib.hid hg5; clear hb5 hg5)
    | fail)
  go_ret
  obtain ⟨d, M, ps, j, _, hop, _, hri, hj, he, hbel⟩ := HRES.out
  have h1 := HRK.out M ps j hri hj he
  have h2 := hop.len
  refine ⟨ret_int (by show ((np : Nat) : Int) = _; omega), ?_⟩
  have h3 := HB.out.trans (hbel.mono HB.out.size)
  have h4 := (h3.alloc (h3.size) (.cells #[.int .i64 0, .int .i64 0, .int .i64 0, .slice none 0 0] 27))
  exact h4.grown HG5.out (by have := h4.size; simpa using this) (by rintro q ⟨⟩; exact h3.size)
theorem Own.ne_blk {w : World} {lo hi n c g : Nat} {A : Option Addr} {xs : List Int} {t : TypeId} {cs : Array Value} (h : Own w lo hi A n c xs) (hb : Blk w g t cs) (ht : t ≠ 3) : (Value.slice A n c).ownBlock ≠ some g := fun e => by
  rcases h.1.2 with ⟨e1, _⟩ | ⟨g', cap, cur, e1, _, hg, _⟩
  · rw [e1] at e; simp [Value.ownBlock] at e
  · rw [e1] at e
    have e2 : g' = g := by simpa [Value.ownBlock] using e
    subst e2
    unfold Blk at hb
    rw [hb] at hg
    injection hg with hg
    injection hg with h1 h2 h3
    exact ht h2
/-- The numbers of the first rows of a corner, one row behind another. -/
def catC (xs : List Int) (C c : Nat) : Nat → List Int
  | 0 => []
  | i + 1 => catC xs C c i ++ rowC xs C c i
theorem catC_len (xs : List Int) (C c : Nat) : ∀ i, (catC xs C c i).length = i * c
  | 0 => by simp [catC]
  | i + 1 => by rw [catC, List.length_append, catC_len xs C c i, rowC_len, Nat.add_mul, Nat.one_mul]
theorem catC_nth (xs : List Int) (C c : Nat) : ∀ i j q, j < i → q < c → nth (catC xs C c i) (j * c + q) = nth xs (j * C + q)
  | i + 1, j, q, hj, hq => by
    unfold catC
    by_cases h : j < i
    · rw [← catC_nth xs C c i j q h hq, nth, nth, List.getD_eq_getElem?_getD, List.getD_eq_getElem?_getD, List.getElem?_append_left (by rw [catC_len]; exact idx_lt h hq)]
    · have e : j = i := by omega
      subst e
      rw [← rowC_nth (d := xs) (C := C) (i := j) hq, nth, nth, List.getD_eq_getElem?_getD, List.getD_eq_getElem?_getD, List.getElem?_append_right (by rw [catC_len]; omega), catC_len, show j * c + q - j * c = q by omega]
theorem catC_rg {p : Int} (hp : 0 < p) {xs : List Int} (h : Rg p xs) (C c i : Nat) : Rg p (catC xs C c i) := by
  induction i with
  | zero => intro j; rw [nth_past (by simp [catC])]; exact ⟨Int.le_refl _, hp⟩
  | succ i ih =>
    intro j
    unfold catC
    by_cases hj : j < (catC xs C c i).length
    · rw [nth, List.getD_eq_getElem?_getD, List.getElem?_append_left hj, ← List.getD_eq_getElem?_getD]; exact ih j
    · rw [nth, List.getD_eq_getElem?_getD, List.getElem?_append_right (by omega), ← List.getD_eq_getElem?_getD]; exact rowC_rg hp h C c i _
end Go.Proofs.Ytfaegfhbbkicgaa

/-
  What rows have in common, on the document's side. Conditions: the modulus is 2, 3, 5 or 7; sizes at most 7.
-/




namespace Go.Proofs.Ytfaegfhbbkicgaa
open Go.RowKit

theorem l7Top_sh (p r : Int) (C R n k : Nat) (A : Option Addr) (xs : List Int) (w : World) (hs : SI w A n xs) (hsh : A = none ∧ n = 0 ∧ k = 0 ∨ ∃ g, A = some ⟨g, 0, none⟩) (hnk : n ≤ k) (hC : C ≤ 14) (hR : R ≤ 14) (hRC : R * C ≤ n) :
    Calls Try.prog 125 #[.agg #[.int .i64 p, .int .i64 r, .int .i64 C, .slice A n k], .int .i64 R] w fun e w' => FreshMx w w' e p R C (xs.take (R * C)) := by
  rcases hsh with ⟨rfl, rfl, rfl⟩ | ⟨g, rfl⟩
  · have h0 : R * C = 0 := by omega
    rw [h0, List.take_zero]
    exact l7Top_none p r C R w h0
  · exact l7Top_some p r C R g n k xs w hs hC hR hRC hnk
theorem rg_take {p : Int} (hp : 0 < p) {xs : List Int} (h : Rg p xs) {q : Nat} : Rg p (xs.take q) := fun j => by
  by_cases hj : j < q
  · rw [nth_take hj]; exact h j
  · rw [nth_past (by rw [List.length_take]; omega)]; exact ⟨Int.le_refl _, hp⟩
set_option maxRecDepth 100000 in
set_option maxHeartbeats 8000000 in
theorem l7Common_any (p r r' : Int) (C i j : Nat) (A A' : Option Addr) (n k n' k' : Nat) (xs ys : List Int) (w : World) (hp : P7 p) (hs : SI w A n xs) (hs' : SI w A' n' ys) (hsh : A = none ∧ n = 0 ∧ k = 0 ∨ ∃ g, A = some ⟨g, 0, none⟩) (hsh' : A' = none ∧ n' = 0 ∧ k' = 0 ∨ ∃ g, A' = some ⟨g, 0, none⟩) (hnk : n ≤ k) (hnk' : n' ≤ k') (hx : Rg p xs) (hy : Rg p ys) (hC : C ≤ 7) (hi : i ≤ 7) (hj : j ≤ 7) (hin : i * C ≤ n) (hjn : j * C ≤ n') :
    Calls Try.prog 58 #[.agg #[.int .i64 p, .int .i64 r, .int .i64 C, .slice A n k], .int .i64 i, .agg #[.int .i64 p, .int .i64 r', .int .i64 C, .slice A' n' k'], .int .i64 j] w fun e w' => e = .returned (.int .i64 (cmnR p (rowsC xs C i C) (rowsC ys C j C))) ∧ Below w.heap.size w w' := by
  obtain ⟨w1, hw1⟩ : ∃ w1, w1 = ((w.alloc (.cells #[.int .i64 p, .int .i64 r, .int .i64 C, .slice A n k] 27)).alloc (.cells #[.int .i64 p, .int .i64 r', .int .i64 C, .slice A' n' k'] 27)) := ⟨_, rfl⟩
  obtain ⟨g, hg⟩ : ∃ g, g = w.heap.size := ⟨_, rfl⟩
  have HK0 : Hid (Blk w1 (g) 27 #[.int .i64 p, .int .i64 r, .int .i64 C, .slice A n k]) := Lib.hid (by rw [hw1, hg]; have := (Blk.new w 27 #[.int .i64 p, .int .i64 r, .int .i64 C, .slice A n k]).alloc (.cells #[.int .i64 p, .int .i64 r', .int .i64 C, .slice A' n' k'] 27); simpa using this)
  have HK1 : Hid (Blk w1 (g + 1) 27 #[.int .i64 p, .int .i64 r', .int .i64 C, .slice A' n' k']) := Lib.hid (by rw [hw1, hg]; have := Blk.new (w.alloc (.cells #[.int .i64 p, .int .i64 r, .int .i64 C, .slice A n k] 27)) 27 #[.int .i64 p, .int .i64 r', .int .i64 C, .slice A' n' k']; simpa using this)
  have hb : Below w.heap.size w w1 := by rw [hw1]; go_grown
  have HB := Lib.hid hb
  have HW := Lib.hid hw1
  have HG := Lib.hid hg
  have HSZ : Hid (w1.heap.size = g + 2) := Lib.hid (by rw [hw1, hg]; simp)
  have HSA := Lib.hid (hs.below hb (Nat.le_refl _))
  have HSB := Lib.hid (hs'.below hb (Nat.le_refl _))
  have HTA := Lib.hid (fun u (hu : Below w1.heap.size w1 u) => l7Top_sh p r C i n k A xs u (HSA.out.below hu (Nat.le_refl _)) hsh hnk (by omega) (by omega) hin)
  have HTB := Lib.hid (fun u (hu : Below w1.heap.size w1 u) => l7Top_sh p r' C j n' k' A' ys u (HSB.out.below hu (Nat.le_refl _)) hsh' hnk' (by omega) (by omega) hjn)
  obtain ⟨X, hX⟩ : ∃ X, X = xs.take (i * C) := ⟨_, rfl⟩
  obtain ⟨Y, hY⟩ : ∃ Y, Y = ys.take (j * C) := ⟨_, rfl⟩
  rw [← hX] at HTA
  rw [← hY] at HTB
  have hp2 := hp.two
  have hXl : X.length = i * C := by rw [hX, List.length_take]; have := hs.1; omega
  have hYl : Y.length = j * C := by rw [hY, List.length_take]; have := hs'.1; omega
  have hXr : Rg p X := by rw [hX]; exact rg_take (by omega) hx
  have hYr : Rg p Y := by rw [hY]; exact rg_take (by omega) hy
  have hA : rowsC xs C i C = rowsC X C i C := by rw [hX, rowsC_take _ (Nat.le_refl _)]
  have hB : rowsC ys C j C = rowsC Y C j C := by rw [hY, rowsC_take _ (Nat.le_refl _)]
  obtain ⟨K1, hK1⟩ : ∃ K, K = rnkL p (rowsC X C i C) := ⟨_, rfl⟩
  obtain ⟨K2, hK2⟩ : ∃ K, K = rnkL p (rowsC Y C j C) := ⟨_, rfl⟩
  obtain ⟨K3, hK3⟩ : ∃ K, K = rnkL p (rowsC (X ++ Y) C (i + j) C) := ⟨_, rfl⟩
  have HV : Hid (cmnR p (rowsC xs C i C) (rowsC ys C j C) = (K1 : Int) + (K2 : Int) - (K3 : Int)) := Lib.hid (by unfold cmnR; rw [hA, hB, hK1, hK2, hK3, rowsC_app hXl])
  rw [HV.out]
  have HRA := Lib.hid (fun u (B : Option Addr) (m d : Nat) (h : SI u B m X) => l7Rank_any p i C B m d X (rowsC X C i C) u hp h (by omega) (by omega) hXr hXl (rowsC_len ..) (rowsC_ok (by omega) hXr C i C) (fun x y hx hy => by rw [rowsC_li hx, rowC_nth hy]))
  rw [← hK1] at HRA
  have HRB := Lib.hid (fun u (B : Option Addr) (m d : Nat) (h : SI u B m Y) => l7Rank_any p j C B m d Y (rowsC Y C j C) u hp h (by omega) (by omega) hYr hYl (rowsC_len ..) (rowsC_ok (by omega) hYr C j C) (fun x y hx hy => by rw [rowsC_li hx, rowC_nth hy]))
  rw [← hK2] at HRB
  have HRC := Lib.hid (fun u (B : Option Addr) (m d : Nat) (h : SI u B m (X ++ Y)) => l7Rank_any p (i + j) C B m d (X ++ Y) (rowsC (X ++ Y) C (i + j) C) u hp h (by omega) (by omega) (hXr.app hYr) (by rw [List.length_append, hXl, hYl, Nat.add_mul]) (rowsC_len ..) (rowsC_ok (by omega) (hXr.app hYr) C (i + j) C) (fun x y hx hy => by rw [rowsC_li hx, rowC_nth hy]))
  rw [← hK3] at HRC
  have HBO := Lib.hid (fun u (B B2 : Option Addr) (m d m2 d2 : Nat) (h : SI u B m X) (h2 : SI u B2 m2 Y) => l7Both_any p p C C i j B B2 m d m2 d2 X Y u h h2 (by have h5 := h.1; have := nat_mul_small (r := i) (c := C) (by omega) (by omega); omega) (by have h5 := h2.1; have := nat_mul_small (r := j) (c := C) (by omega) (by omega); omega) (by omega) (by omega))
  obtain ⟨Q, hQ⟩ : ∃ Q, Q = i + j := ⟨_, rfl⟩
  rw [← hQ] at HRC HBO
  clear hQ
  have hb1 : K1 ≤ 7 := by rw [hK1]; have h := rnkL_le p (rowsC X C i C); rw [rowsC_len] at h; omega
  have hb2 : K2 ≤ 7 := by rw [hK2]; have h := rnkL_le p (rowsC Y C j C); rw [rowsC_len] at h; omega
  have hb3 : K3 ≤ 14 := by rw [hK3]; have h := rnkL_le p (rowsC (X ++ Y) C (i + j) C); rw [rowsC_len] at h; omega
  have hwr1 : IntKind.i64.wrap ((K1 : Int) + (K2 : Int)) = (K1 : Int) + (K2 : Int) := IntWalk.i64_in _ (by omega)
  have hwr2 : IntKind.i64.wrap ((K1 : Int) + (K2 : Int) - (K3 : Int)) = (K1 : Int) + (K2 : Int) - (K3 : Int) := IntWalk.i64_in _ (by omega)
  clear hw1 hX hY hXl hYl hXr hYr hA hB hK1 hK2 hK3 hb1 hb2 hb3 hs hs' hx hy hp hb hg
  have MKS : Hid (∀ u, Below w1.heap.size w1 u → (u.cell? ⟨g, 0, none⟩ = some (.int .i64 p) ∧ u.cell? ⟨g, 1, none⟩ = some (.int .i64 r) ∧ u.cell? ⟨g, 2, none⟩ = some (.int .i64 C) ∧ u.cell? ⟨g, 3, none⟩ = some (.slice A n k) ∧ u.cell? ⟨g + 1, 0, none⟩ = some (.int .i64 p) ∧ u.cell? ⟨g + 1, 1, none⟩ = some (.int .i64 r') ∧ u.cell? ⟨g + 1, 2, none⟩ = some (.int .i64 C) ∧ u.cell? ⟨g + 1, 3, none⟩ = some (.slice A' n' k'))) := Lib.hid (fun u hb => by obtain ⟨a0, a1, a2, a3⟩ := cells4 (HK0.out.below hb HK0.out.lt); obtain ⟨b0, b1, b2, b3⟩ := cells4 (HK1.out.below hb HK1.out.lt); exact ⟨a0, a1, a2, a3, b0, b1, b2, b3⟩)
  have HKd : Hid (w1.drew.cell? ⟨g, 0, none⟩ = some (.int .i64 p) ∧ w1.drew.cell? ⟨g, 1, none⟩ = some (.int .i64 r) ∧ w1.drew.cell? ⟨g, 2, none⟩ = some (.int .i64 C) ∧ w1.drew.cell? ⟨g, 3, none⟩ = some (.slice A n k) ∧ w1.drew.cell? ⟨g + 1, 0, none⟩ = some (.int .i64 p) ∧ w1.drew.cell? ⟨g + 1, 1, none⟩ = some (.int .i64 r') ∧ w1.drew.cell? ⟨g + 1, 2, none⟩ = some (.int .i64 C) ∧ w1.drew.cell? ⟨g + 1, 3, none⟩ = some (.slice A' n' k')) := Lib.hid (MKS.out _ ((Below.refl _ _).drew))
  go_enter Try.func58, Try.ntmps58
  go_upto_region 1 with fail
  rw [← HW.out, ← HG.out]
  go_region_held3 (fun u => u.cell? ⟨g, 0, none⟩ = some (.int .i64 p) ∧ u.cell? ⟨g, 1, none⟩ = some (.int .i64 r) ∧ u.cell? ⟨g, 2, none⟩ = some (.int .i64 C) ∧ u.cell? ⟨g, 3, none⟩ = some (.slice A n k) ∧ u.cell? ⟨g + 1, 0, none⟩ = some (.int .i64 p) ∧ u.cell? ⟨g + 1, 1, none⟩ = some (.int .i64 r') ∧ u.cell? ⟨g + 1, 2, none⟩ = some (.int .i64 C) ∧ u.cell? ⟨g + 1, 3, none⟩ = some (.slice A' n' k'))
    (first | with_reducible exact HKd.out | with_reducible exact KU8 | with_reducible exact KU7 | with_reducible exact KU6 | with_reducible exact KU5 | with_reducible exact KU4 | with_reducible exact KU3 | with_reducible exact KU2 | with_reducible exact KU1)
    (first
      | (go_at_call 124
         with_reducible refine (HRC.out u7 P7 m7 d7 HO7.out).mono ?_
         rintro e u8 ⟨rfl, hb⟩
         have Hc8 : Hid (Below w1.heap.size w1 u8) := Lib.hid (Hc7.out.trans (hb.mono Hc7.out.size))
         have KU8 := MKS.out u8 Hc8.out
         clear hb)
      | (go_at_call 126
         with_reducible refine (HBO.out u6 P5 P6 m5 d5 m6 d6 HO56.out HO6.out).mono ?_
         rintro e u7 ⟨P7, m7, d7, rfl, ho, hb⟩
         have Hc7 : Hid (Below w1.heap.size w1 u7) := Lib.hid (Hc6.out.trans (hb.mono Hc6.out.size))
         have KU7 := MKS.out u7 Hc7.out
         have HO7 := Lib.hid ho.si
         clear hb ho)
      | (go_at_call 125
         with_reducible refine (HTB.out u5 Hc5.out).mono ?_
         rintro e u6 ⟨P6, m6, d6, rfl, ho, hb⟩
         have Hc6 : Hid (Below w1.heap.size w1 u6) := Lib.hid (Hc5.out.trans (hb.mono Hc5.out.size))
         have KU6 := MKS.out u6 Hc6.out
         have HO6 := Lib.hid ho.si
         have HO56 := Lib.hid (HO5.out.below hb (Nat.le_refl _))
         clear hb ho)
      | (go_at_call 125
         with_reducible refine (HTA.out u4 Hc4.out).mono ?_
         rintro e u5 ⟨P5, m5, d5, rfl, ho, hb⟩
         have Hc5 : Hid (Below w1.heap.size w1 u5) := Lib.hid (Hc4.out.trans (hb.mono Hc4.out.size))
         have KU5 := MKS.out u5 Hc5.out
         have HO5 := Lib.hid ho.si
         clear hb ho)
      | (go_at_call 124
         with_reducible refine (HRB.out u3 P3 m3 d3 HO3.out).mono ?_
         rintro e u4 ⟨rfl, hb⟩
         have Hc4 : Hid (Below w1.heap.size w1 u4) := Lib.hid (Hc3.out.trans (hb.mono Hc3.out.size))
         have KU4 := MKS.out u4 Hc4.out
         clear hb)
      | (go_at_call 125
         with_reducible refine (HTB.out u2 Hc2.out).mono ?_
         rintro e u3 ⟨P3, m3, d3, rfl, ho, hb⟩
         have Hc3 : Hid (Below w1.heap.size w1 u3) := Lib.hid (Hc2.out.trans (hb.mono Hc2.out.size))
         have KU3 := MKS.out u3 Hc3.out
         have HO3 := Lib.hid ho.si
         clear hb ho)
      | (go_at_call 124
         with_reducible refine (HRA.out u1 P1 m1 d1 HO1.out).mono ?_
         rintro e u2 ⟨rfl, hb⟩
         have Hc2 : Hid (Below w1.heap.size w1 u2) := Lib.hid (Hc1.out.trans (hb.mono Hc1.out.size))
         have KU2 := MKS.out u2 Hc2.out
         clear hb)
      | (go_at_call 125
         with_reducible refine (HTA.out _ ((Below.refl _ _).drew)).mono ?_
         rintro e u1 ⟨P1, m1, d1, rfl, ho, hb⟩
         have Hc1 : Hid (Below w1.heap.size w1 u1) := Lib.hid (((Below.refl _ _).drew).trans hb)
         have KU1 := MKS.out u1 Hc1.out
         have HO1 := Lib.hid ho.si
         clear hb ho))
  go_wp2
  go_ret
  exact ⟨rfl, HB.out.trans (Hc8.out.mono HB.out.size)⟩

end Go.Proofs.Ytfaegfhbbkicgaa

/-
  The normal form of a flag, on the document's side. Conditions: the modulus is 2, 3, 5 or 7; sizes at most 14.
-/


namespace Go.Proofs.Ytfaegfhbbkicgaa
open Go.RowKit

theorem DM.uniqF {d z : List Int} {R C : Nat} {N : Nat → Nat → Int} (h : DM d R C N) (h' : DM z R C N) (hC : 0 < C) : d = z := by
  refine nth_ext (by rw [h.1, h'.1]) fun q hq => ?_
  rw [h.1] at hq
  have hi : q / C < R := Nat.div_lt_of_lt_mul (by rw [Nat.mul_comm]; exact hq)
  have hj := Nat.mod_lt q hC
  have e : q / C * C + q % C = q := by rw [Nat.mul_comm]; exact Nat.div_add_mod q C
  have h1 := h.2 _ _ hi hj
  have h2 := h'.2 _ _ hi hj
  rw [e] at h1 h2
  rw [h1, h2]
end Go.Proofs.Ytfaegfhbbkicgaa

/-
  SumSpaces on the document's side. Conditions: lengths below 2^40.
-/

namespace Go.Proofs.Ytfaegfhbbkicgaa
open Go.RowKit

theorem FreshMxB.zero {w w1 w5 : World} {g : Nat} (hw : Below w.heap.size w w1) (hg : w.heap.size ≤ g) (hg5 : w1.grownBy w5 (some g)) : FreshMxB w w5 (.returned (.tuple #[.agg #[.int .i64 0, .int .i64 0, .int .i64 0, .slice none 0 0], .bool false])) 0 0 0 [] false :=
  ⟨none, 0, 0, rfl, Own.nil _ _ _, hw.grown hg5 hw.size (by rintro q ⟨⟩; exact hg)⟩
end Go.Proofs.Ytfaegfhbbkicgaa

/-
  Opening a slice of integers that came in; closed facts of this dump. No conditions.
-/




namespace Go.Proofs.Ytfaegfhbbkicgaa
open Go.ChangeShapes Go.WideShapes Go.ChangeAt Go.RowKit

theorem own : ownKnob Try.prog.godebug = none := by kernel_rfl
theorem laidOut : laidOutB Try.prog = true := by kernel_rfl

/-- What an opened slice of integers gives: it reads as its numbers. -/
theorem SI.of_cells {w : World} {a : Addr} {n : Nat} {zs : List Int} (hl : n ≤ zs.length) (hc : ∀ i, i < zs.length → w.cell? (a.add i) = some (.int .i64 (zs.getD i 0))) : SI w (some a) n (zs.take n) := by
  refine ⟨by simp; omega, fun hn => ?_⟩
  obtain ⟨b, o, s⟩ := a
  have h0 := hc 0 (by omega)
  have hs : s = none := by simpa [Addr.add] using World.cell?_spot h0
  subst hs
  refine ⟨b, o, rfl, block_lt_of_cell (a := ⟨b, o, none⟩) (by simpa [Addr.add] using h0), fun k hk => ?_⟩
  rw [nth_take hk, ← add_pt]
  exact hc k (by omega)

/-- Every number fits an int. -/
def Fits (xs : List Int) : Prop := ∀ x ∈ xs, -9223372036854775808 ≤ x ∧ x ≤ 9223372036854775807
theorem SI.of_trod {H : Type} {enc : TypeId × Value → H} {W : World} {q : Nat} {f : Nat → Bool} {a0 : Option Addr} {len0 cap0 : Nat} {d : DataW H} {p : List MemPlace}
    (h0 : DataW.Trod enc Try.prog W q f true 22 (.slice a0 len0 cap0) d p) : ∃ xs, SI W a0 len0 xs ∧ Fits xs := by
  obtain ⟨fuel, hf⟩ := h0
  rcases open_ints Try.underlying22 Try.underlying3 (by kernel_rfl) hf with ⟨hcs, _⟩ | ⟨x, l, c, zs, hcs, _, hl, hm, hz, _, hcell, hwz⟩
  · simp [Value.cells] at hcs
    obtain ⟨rfl, rfl, rfl⟩ := hcs
    exact ⟨[], SI.nil _ _, fun x hx => by cases hx⟩
  · simp [Value.cells] at hcs
    obtain ⟨rfl, rfl, rfl⟩ := hcs
    exact ⟨_, SI.of_cells (by rw [hz]; split <;> omega) hcell, fun n hn => bounds_i64 (hwz n (List.mem_of_mem_take hn))⟩
end Go.Proofs.Ytfaegfhbbkicgaa

/-
  Opening a puzzle that came in. No conditions.
-/


namespace Go.Proofs.Ytfaegfhbbkicgaa
open Go.ChangeShapes Go.WideShapes Go.ChangeAt Go.RowKit

theorem Blk.within_ {w w' : World} {g lo hi : Nat} {t : TypeId} {cs : Array Value} (h : Blk w g t cs) (hw : Within lo hi w w') (hd : g < lo ∨ hi ≤ g) : Blk w' g t cs := (hw.2.2.2.2 g h.lt hd).trans h
/-- Three slices that read as lists. -/
def PS (w : World) (A1 A2 A3 : Option Addr) (n1 n2 n3 : Nat) (x1 x2 x3 : List Int) : Prop := SI w A1 n1 x1 ∧ SI w A2 n2 x2 ∧ SI w A3 n3 x3
theorem PS.below {w w' : World} {A1 A2 A3 : Option Addr} {n1 n2 n3 B : Nat} {x1 x2 x3 : List Int} (h : PS w A1 A2 A3 n1 n2 n3 x1 x2 x3) (hb : Below B w w') (hB : w.heap.size ≤ B) : PS w' A1 A2 A3 n1 n2 n3 x1 x2 x3 := ⟨h.1.below hb hB, h.2.1.below hb hB, h.2.2.below hb hB⟩
theorem PS.lens {w : World} {A1 A2 A3 : Option Addr} {n1 n2 n3 : Nat} {x1 x2 x3 : List Int} (h : PS w A1 A2 A3 n1 n2 n3 x1 x2 x3) : x1.length = n1 ∧ x2.length = n2 ∧ x3.length = n3 := ⟨h.1.1, h.2.1.1, h.2.2.1⟩
theorem OwnP.len {w : World} {lo hi n1 c1 n2 c2 n3 c3 : Nat} {A1 A2 A3 : Option Addr} {x1 x2 x3 : List Int} (h : OwnP w lo hi A1 A2 A3 n1 c1 n2 c2 n3 c3 x1 x2 x3) : x1.length = n1 ∧ x2.length = n2 ∧ x3.length = n3 := h.lens
theorem OwnP.caps {w : World} {lo hi n1 c1 n2 c2 n3 c3 : Nat} {A1 A2 A3 : Option Addr} {x1 x2 x3 : List Int} (h : OwnP w lo hi A1 A2 A3 n1 c1 n2 c2 n3 c3 x1 x2 x3) : n1 ≤ c1 ∧ n2 ≤ c2 ∧ n3 ≤ c3 := by
  obtain ⟨p, q, _, _, _, h1, h2, h3⟩ := h; exact ⟨h1.cap, h2.cap, h3.cap⟩
end Go.Proofs.Ytfaegfhbbkicgaa

/-
  Opening a matrix that came in. No conditions.
-/



namespace Go.Proofs.Ytfaegfhbbkicgaa
open Go.ChangeShapes Go.WideShapes Go.ChangeAt Go.RowKit

theorem MX.of_trod {H : Type} {enc : TypeId × Value → H} {W : World} {q : Nat} {f : Nat → Bool} {cs : Array Value} {d : DataW H} {p : List MemPlace} (hsz : cs.size = 4)
    (h0 : DataW.Trod enc Try.prog W q f true 24 (.agg cs) d p) : ∃ (P R C : Int) (A : Option Addr) (n k : Nat) (xs : List Int), cs = #[.int .i64 P, .int .i64 R, .int .i64 C, .slice A n k] ∧ SI W A n xs ∧ n ≤ 9223372036854775807 ∧
      (-9223372036854775808 ≤ P ∧ P ≤ 9223372036854775807) ∧ (-9223372036854775808 ≤ R ∧ R ≤ 9223372036854775807) ∧ (-9223372036854775808 ≤ C ∧ C ≤ 9223372036854775807) ∧ Fits xs := by
  obtain ⟨v0, v1, v2, v3, rfl⟩ : ∃ v0 v1 v2 v3, cs = #[v0, v1, v2, v3] := by
    obtain ⟨l⟩ := cs
    match l, hsz with
    | [a, b, c, d], _ => exact ⟨a, b, c, d, rfl⟩
  obtain ⟨fuel, hf⟩ := h0
  obtain ⟨xs, n, _, _, _, hlen, hx⟩ := DataW.trod_struct Try.underlying24 hf
  have e0 := hx 0 _ rfl
  have e1 := hx 1 _ rfl
  have e2 := hx 2 _ rfl
  have e3 := hx 3 _ rfl
  obtain ⟨y0, y1, y2, y3, rfl⟩ : ∃ y0 y1 y2 y3, xs = [y0, y1, y2, y3] := by
    match xs, hlen with
    | [a, b, c, d], _ => exact ⟨a, b, c, d, rfl⟩
  have ci : Try.prog.cellsOf 3 = 1 := by kernel_rfl
  have cs : Try.prog.cellsOf 22 = 1 := by kernel_rfl
  have k0 : DataW.trod enc Try.prog W q f true n 3 [v0] = some y0 := by simpa [ci, Value.cells] using e0
  have k1 : DataW.trod enc Try.prog W q f true n 3 [v1] = some y1 := by simpa [ci, Value.cells] using e1
  have k2 : DataW.trod enc Try.prog W q f true n 3 [v2] = some y2 := by simpa [ci, Value.cells] using e2
  have k3 : DataW.trod enc Try.prog W q f true n 22 [v3] = some y3 := by simpa [cs, Value.cells] using e3
  obtain ⟨z0, hz0, _, wf0⟩ := DataW.trod_int Try.underlying3 k0
  obtain ⟨z1, hz1, _, wf1⟩ := DataW.trod_int Try.underlying3 k1
  obtain ⟨z2, hz2, _, wf2⟩ := DataW.trod_int Try.underlying3 k2
  obtain ⟨B3, m3, d3, l3, h3, s3, b3, f3⟩ : ∃ A n' c' l, v3 = .slice A n' c' ∧ SI W A n' l ∧ n' ≤ 9223372036854775807 ∧ Fits l := by
    rcases open_ints Try.underlying22 Try.underlying3 (by kernel_rfl) k3 with ⟨hcs, _⟩ | ⟨x, l, c, zs, hcs, _, hl, hm, hzs, _, hcell, hwz⟩
    · exact ⟨none, 0, 0, [], by simpa using hcs, SI.nil _ _, by omega, by intro z hz; cases hz⟩
    · exact ⟨some x, l, c, zs.take l, by simpa using hcs, SI.of_cells (by rw [hzs]; split <;> omega) hcell, by unfold maxLen at hm; omega, fun z hz => bounds_i64 (hwz z (List.mem_of_mem_take hz))⟩
  have hz0' : v0 = .int .i64 z0 := by simpa using hz0
  have hz1' : v1 = .int .i64 z1 := by simpa using hz1
  have hz2' : v2 = .int .i64 z2 := by simpa using hz2
  subst hz0' hz1' hz2' h3
  exact ⟨z0, z1, z2, B3, m3, d3, l3, rfl, s3, b3, by have := bounds_i64 wf0; omega, by have := bounds_i64 wf1; omega, by have := bounds_i64 wf2; omega, f3⟩
end Go.Proofs.Ytfaegfhbbkicgaa

/-
  Laws with two matrices in: a region that copies both, calls, and puts the answer into a variable made at any time. No conditions.
-/



namespace Go.Proofs.Ytfaegfhbbkicgaa
open Go.RowKit

/-- The world at a call, by a name. -/
theorem calls_here {P : Program} {f : FuncId} {args : Array Value} {W : World} {Q : Ending → World → Prop} (h : ∀ u, u = W → Calls P f args u Q) : Calls P f args W Q := h W rfl
theorem Blk.eq_ {v u : World} {g : Nat} {t : TypeId} {cs : Array Value} (h : v = u) (hb : Blk u g t cs) : Blk v g t cs := h ▸ hb
/-- A matrix of its own, in a variable of its own. -/
def BoxedM (w0 wx : World) (gW lo hi : Nat) (P : Option Addr) (n c : Nat) (zp zr zc : Int) (z : List Int) : Prop :=
  Own wx lo hi P n c z ∧ Blk wx gW 27 #[.int .i64 zp, .int .i64 zr, .int .i64 zc, .slice P n c] ∧ w0.heap.size ≤ lo ∧ hi ≤ wx.heap.size ∧ (gW < lo ∨ hi ≤ gW) ∧ w0.heap.size ≤ gW ∧ Below w0.heap.size w0 wx
theorem below_put4 {B : Nat} {a w : World} (h : Below B a w) {g : Nat} (hg : B ≤ g) (x0 x1 x2 x3 : Value) : Below B a ((((w.setCell ⟨g, 0, none⟩ x0).setCell ⟨g, 1, none⟩ x1).setCell ⟨g, 2, none⟩ x2).setCell ⟨g, 3, none⟩ x3) :=
  (((h.setCell (p := ⟨g, 0, none⟩) hg x0).setCell (p := ⟨g, 1, none⟩) hg x1).setCell (p := ⟨g, 2, none⟩) hg x2).setCell (p := ⟨g, 3, none⟩) hg x3
theorem BoxedM.put {w0 u : World} {gW lo hi : Nat} {P : Option Addr} {n c : Nat} {zp zr zc : Int} {z : List Int} (ho : Own u lo hi P n c z) {x0 x1 x2 x3 : Value} (hk : Blk u gW 27 #[x0, x1, x2, x3]) (h1 : w0.heap.size ≤ lo) (h2 : hi ≤ u.heap.size) (h3 : gW < lo ∨ hi ≤ gW) (h4 : w0.heap.size ≤ gW) (hb : Below w0.heap.size w0 u) :
    BoxedM w0 ((((u.setCell ⟨gW, 0, none⟩ (.int .i64 zp)).setCell ⟨gW, 1, none⟩ (.int .i64 zr)).setCell ⟨gW, 2, none⟩ (.int .i64 zc)).setCell ⟨gW, 3, none⟩ (.slice P n c)) gW lo hi P n c zp zr zc z := by
  have hg := grown_putM u gW (.int .i64 zp) (.int .i64 zr) (.int .i64 zc) (.slice P n c)
  have hb' := below_put4 hb h4 (.int .i64 zp) (.int .i64 zr) (.int .i64 zc) (.slice P n c)
  exact ⟨ho.grown hg (fun k hk => by injection hk with hk; omega), (((hk.set_ 0 _).set_ 1 _).set_ 2 _).set_ 3 _, h1, Nat.le_trans h2 hg.size, h3, h4, hb'⟩
theorem BoxedM.new {w0 u : World} {lo hi : Nat} {P : Option Addr} {n c : Nat} {zp zr zc : Int} {z : List Int} (ho : Own u lo hi P n c z) (h1 : w0.heap.size ≤ lo) (h2 : hi ≤ u.heap.size) (hb : Below w0.heap.size w0 u) :
    BoxedM w0 (u.alloc (.cells #[.int .i64 zp, .int .i64 zr, .int .i64 zc, .slice P n c] 27)) u.heap.size lo hi P n c zp zr zc z :=
  ⟨ho.below (Below.alloc_self _ _) h2, Blk.new _ _ _, h1, by simp; omega, .inr h2, hb.size, hb.alloc hb.size _⟩
end Go.Proofs.Ytfaegfhbbkicgaa

/-
  Flags on the document's side. Conditions: lengths below 2^40.
-/





namespace Go.Proofs.Ytfaegfhbbkicgaa
open Go.RowKit

set_option maxRecDepth 100000 in
set_option maxHeartbeats 4000000 in
theorem specFlagOk_any (p r c : Int) (A : Option Addr) (n k : Nat) (xs : List Int) (w : World) (hs : SI w A n xs) (hn : n ≤ 1099511627776) :
    Calls Try.prog 57 #[.agg #[.int .i64 p, .int .i64 r, .int .i64 c, .slice A n k]] w fun e w' => e = .returned (.bool (flagB p r c xs)) ∧ Below w.heap.size w w' := by
  obtain ⟨w1, hw1⟩ : ∃ w1, w1 = (w.alloc (.cells #[.int .i64 p, .int .i64 r, .int .i64 c, .slice A n k] 27)) := ⟨_, rfl⟩
  obtain ⟨g, hg⟩ : ∃ g, g = w.heap.size := ⟨_, rfl⟩
  have HK0 : Hid (Blk w1 (g) 27 #[.int .i64 p, .int .i64 r, .int .i64 c, .slice A n k]) := Lib.hid (by rw [hw1, hg]; have := Blk.new w 27 #[.int .i64 p, .int .i64 r, .int .i64 c, .slice A n k]; simpa using this)
  have hb : Below w.heap.size w w1 := by rw [hw1]; go_grown
  have HB := Lib.hid hb
  have HW := Lib.hid hw1
  have HG := Lib.hid hg
  have HSZ : Hid (w1.heap.size = g + 1) := Lib.hid (by rw [hw1, hg]; simp)
  have HS := Lib.hid (hs.below hb (Nat.le_refl _))
  have HL := Lib.hid hs.1
  have HMO := Lib.hid (fun w' (hb' : Below w1.heap.size w1 w') => specMatrixOk_any p r c A n k xs w' ((hs.below hb (Nat.le_refl _)).below hb' (Nat.le_refl _)) hn)
  have hqd : w1.drew.cell? ⟨g, 0, none⟩ = some (.int .i64 p) ∧ w1.drew.cell? ⟨g, 1, none⟩ = some (.int .i64 r) ∧ w1.drew.cell? ⟨g, 2, none⟩ = some (.int .i64 c) ∧ w1.drew.cell? ⟨g, 3, none⟩ = some (.slice A n k) := cells4 HK0.out
  have HQD := Lib.hid hqd
  have HQ := Lib.hid (cells4 HK0.out)
  clear hqd
  clear hw1 hg hb hs
  cases hm : matB p r c xs with
  | false =>
    rw [hm] at HMO
    have HM := Lib.hid hm
    clear hm
    go_enter Try.func57, Try.ntmps57
    go_upto_region 1 with fail
    rw [← HW.out, ← HG.out]
    obtain ⟨q0, q1, q2, q3⟩ := HQ.out
    first
      | (go_region_with (first
          | (go_at_call 123
             with_reducible refine (HMO.out _ ((Below.refl _ _).drew)).mono ?_
             rintro e w2 ⟨rfl, hb2⟩
             have HB2 : Hid (Below w1.heap.size w1 w2) := Lib.hid (((Below.refl _ _).drew).trans hb2)
             clear hb2)
          ))
      | fail
    all_goals
      (go_wp2
       go_ret
       exact ⟨ret_bool (flagB_no1 HM.out).symm, HB.out.trans (HB2.out.mono HB.out.size)⟩)
  | true =>
    rw [hm] at HMO
    by_cases hrc : r = c
    case neg =>
      have HRC := Lib.hid hrc
      have hrcb : (r == c) = false := by simpa using hrc
      clear hm
      go_enter Try.func57, Try.ntmps57
      go_upto_region 1 with fail
      rw [← HW.out, ← HG.out]
      obtain ⟨q0, q1, q2, q3⟩ := HQ.out
      first
        | (go_region_with (first
            | (go_at_call 123
               with_reducible refine (HMO.out _ ((Below.refl _ _).drew)).mono ?_
               rintro e w2 ⟨rfl, hb2⟩
               have HB2 : Hid (Below w1.heap.size w1 w2) := Lib.hid (((Below.refl _ _).drew).trans hb2)
               obtain ⟨t0, t1, t2, t3⟩ := cells4 (HK0.out.below HB2.out HK0.out.lt)
               clear hb2)
            ))
        | fail
      all_goals
        (go_wp2
         go_ret
         exact ⟨ret_bool (flagB_no2 HRC.out).symm, HB.out.trans (HB2.out.mono HB.out.size)⟩)
    case pos =>
      subst hrc
      have HM := Lib.hid (matB_P hm)
      obtain ⟨R, C, rfl, e, hR7, hC1, hC7, hxl⟩ := HM.out.nats
      obtain rfl : C = R := by omega
      have HFF : Hid (∀ K, K = rnkL p (rowsC xs C C C) → flagB p C C xs = decide (K = C)) := Lib.hid (fun K e => by subst e; simpa using flagB_rk hm rfl)
      obtain ⟨K, hK⟩ : ∃ K, K = rnkL p (rowsC xs C C C) := ⟨_, rfl⟩
      have HF := Lib.hid (HFF.out K hK)
      have HRK := Lib.hid (fun w' (hb' : Below w1.heap.size w1 w') => l7Rank_any p C C A n k xs (rowsC xs C C C) w' HM.out.1 (HS.out.below hb' (Nat.le_refl _)) (by omega) (by omega) HM.out.rg hxl (rowsC_len ..) (rowsC_ok (by have := HM.out.1.two; omega) HM.out.rg C C C) (fun x y hx hy => by rw [rowsC_li hx, rowC_nth hy]))
      rw [← hK] at HRK
      clear hm hxl e hK
      go_enter Try.func57, Try.ntmps57
      go_upto_region 1 with fail
      rw [← HW.out, ← HG.out]
      go_region_held3 (fun u => u.cell? ⟨g, 0, none⟩ = some (.int .i64 p) ∧ u.cell? ⟨g, 1, none⟩ = some (.int .i64 C) ∧ u.cell? ⟨g, 2, none⟩ = some (.int .i64 C) ∧ u.cell? ⟨g, 3, none⟩ = some (.slice A n k))
        (first | with_reducible exact HQD.out | with_reducible exact HQ.out | with_reducible exact K2 | with_reducible exact K3)
        (first
          | (go_at_call 124
             with_reducible refine (HRK.out _ HB2.out).mono ?_
             rintro e w3 ⟨rfl, hb3⟩
             have HB3 : Hid (Below w1.heap.size w1 w3) := Lib.hid (HB2.out.trans (hb3.mono HB2.out.size))
             have K3 := cells4 (HK0.out.below HB3.out HK0.out.lt)
             clear hb3)
          | (go_at_call 123
             with_reducible refine (HMO.out _ ((Below.refl _ _).drew)).mono ?_
             rintro e w2 ⟨rfl, hb2⟩
             have HB2 : Hid (Below w1.heap.size w1 w2) := Lib.hid (((Below.refl _ _).drew).trans hb2)
             have K2 := cells4 (HK0.out.below HB2.out HK0.out.lt)
             clear hb2))
      go_wp2
      go_ret
      exact ⟨ret_bool (by rw [HF.out]; by_cases e : K = C <;> simp [e] <;> omega), HB.out.trans (HB3.out.mono HB.out.size)⟩
end Go.Proofs.Ytfaegfhbbkicgaa

/-
  Positions of spaces on the document's side. Conditions: lengths below 2^40.
-/




namespace Go.Proofs.Ytfaegfhbbkicgaa
open Go.RowKit

theorem si_lit (w : World) (x : Int) : SI (w.alloc (.cells #[.int .i64 x] 3)) (some ⟨w.heap.size, 0, none⟩) 1 [x] :=
  ⟨rfl, fun _ => ⟨w.heap.size, 0, rfl, by simp, fun k hk => by
    obtain rfl : k = 0 := by omega
    exact (Blk.new w 3 #[.int .i64 x]).cell 0⟩⟩
theorem posW_no {p r c : Int} {xs : List Int} {p' r' c' : Int} {ys : List Int} (h : besideB p r c xs p' r' c' ys = false) : posW p r c xs p' r' c' ys = [] := by unfold posW; rw [if_neg (by rw [h]; decide)]
theorem posL_len (p : Int) (R C : Nat) (xs ys : List Int) : (posL p R C xs ys).length = C := by simp [posL]
theorem posL_nth {p : Int} {R C : Nat} {xs ys : List Int} {j : Nat} (h : j < C) : nth (posL p R C xs ys) j = cmnR p (rowsC xs C R C) (rowsC ys C (j + 1) C) - cmnR p (rowsC xs C R C) (rowsC ys C j C) := nth_rangeMap _ h
end Go.Proofs.Ytfaegfhbbkicgaa

/-
  The relative position of two flags on the document's side. Conditions: lengths below 2^40.
-/






namespace Go.Proofs.Ytfaegfhbbkicgaa
open Go.RowKit

theorem relL_len (p : Int) (C : Nat) (xs ys : List Int) : (relL p C xs ys).length = C := by simp [relL]
theorem relL_nth {p : Int} {C : Nat} {xs ys : List Int} {i : Nat} (h : i < C) : nth (relL p C xs ys) i = ((jmp p C (rowsC xs C C C) (rowsC ys C C C) i : Nat) : Int) := nth_rangeMap _ h
set_option maxRecDepth 100000 in
set_option maxHeartbeats 8000000 in
theorem specRelativePosition_any (p r c p' r' c' : Int) (A A' : Option Addr) (n k n' k' : Nat) (xs ys : List Int) (w : World) (hs : SI w A n xs) (hs' : SI w A' n' ys) (hn : n ≤ 1099511627776) (hn' : n' ≤ 1099511627776) (hsh : A = none ∧ n = 0 ∧ k = 0 ∨ ∃ g, A = some ⟨g, 0, none⟩) (hsh' : A' = none ∧ n' = 0 ∧ k' = 0 ∨ ∃ g, A' = some ⟨g, 0, none⟩) (hnk : n ≤ k) (hnk' : n' ≤ k') :
    Calls Try.prog 15 #[.agg #[.int .i64 p, .int .i64 r, .int .i64 c, .slice A n k], .agg #[.int .i64 p', .int .i64 r', .int .i64 c', .slice A' n' k']] w fun e w' => Fresh w w' e (relW p r c xs p' r' c' ys) := by
  obtain ⟨w1, hw1⟩ : ∃ w1, w1 = ((w.alloc (.cells #[.int .i64 p, .int .i64 r, .int .i64 c, .slice A n k] 27)).alloc (.cells #[.int .i64 p', .int .i64 r', .int .i64 c', .slice A' n' k'] 27)) := ⟨_, rfl⟩
  obtain ⟨g, hg⟩ : ∃ g, g = w.heap.size := ⟨_, rfl⟩
  have HK0 : Hid (Blk w1 (g) 27 #[.int .i64 p, .int .i64 r, .int .i64 c, .slice A n k]) := Lib.hid (by rw [hw1, hg]; have := (Blk.new w 27 #[.int .i64 p, .int .i64 r, .int .i64 c, .slice A n k]).alloc (.cells #[.int .i64 p', .int .i64 r', .int .i64 c', .slice A' n' k'] 27); simpa using this)
  have HK1 : Hid (Blk w1 (g + 1) 27 #[.int .i64 p', .int .i64 r', .int .i64 c', .slice A' n' k']) := Lib.hid (by rw [hw1, hg]; have := Blk.new (w.alloc (.cells #[.int .i64 p, .int .i64 r, .int .i64 c, .slice A n k] 27)) 27 #[.int .i64 p', .int .i64 r', .int .i64 c', .slice A' n' k']; simpa using this)
  have hb : Below w.heap.size w w1 := by rw [hw1]; go_grown
  have HB := Lib.hid hb
  have HW := Lib.hid hw1
  have HG := Lib.hid hg
  have HSZ : Hid (w1.heap.size = g + 2) := Lib.hid (by rw [hw1, hg]; simp)
  have HSA := Lib.hid (hs.below hb (Nat.le_refl _))
  have HSB := Lib.hid (hs'.below hb (Nat.le_refl _))
  have HL1 := Lib.hid hs.1
  have HL2 := Lib.hid hs'.1
  have HM1 := Lib.hid (specFlagOk_any p r c A n k xs w1 (hs.below hb (Nat.le_refl _)) hn)
  have HM2 := Lib.hid (fun w2 (hb2 : Below w1.heap.size w1 w2) => specFlagOk_any p' r' c' A' n' k' ys w2 (HSB.out.below hb2 (Nat.le_refl _)) hn')
  clear hw1 hg hb hs hs'
  cases hu : flagB p r c xs with
  | false =>
    rw [hu] at HM1
    have HNO : Hid (pairB p r c xs p' r' c' ys = false) := Lib.hid (by unfold pairB; simp [hu])
    clear hu
    go_enter Try.func15, Try.ntmps15
    go_upto_region 1 with fail
    rw [← HW.out, ← HG.out]
    go_wp2_with (first
      | (refine wpList_load_rowP rfl 27 (.tmp 2) rfl g rfl 27 #[.int .i64 p, .int .i64 r, .int .i64 c, .slice A n k] _ HK0.out Try.underlying27 rfl Try.infoMx ?_)
      | (go_at_call 57
         with_reducible refine (HM1.out).mono ?_
         rintro e w2 ⟨rfl, hb2⟩
         have HB2 := Lib.hid hb2
         obtain ⟨r0, r1, r2, r3⟩ := cells4 (HK1.out.below hb2 HK1.out.lt)
         clear hb2)
      | fail)
    go_ret
    exact ⟨none, 0, 0, rfl, by rw [relW_no HNO.out]; exact Own.nil _ _ _, HB.out.trans (HB2.out.mono HB.out.size)⟩
  | true =>
    rw [hu] at HM1
    cases hv : flagB p' r' c' ys with
    | false =>
      rw [hv] at HM2
      have HNO : Hid (pairB p r c xs p' r' c' ys = false) := Lib.hid (by unfold pairB; simp [hu, hv])
      clear hu hv
      go_enter Try.func15, Try.ntmps15
      go_upto_region 1 with fail
      rw [← HW.out, ← HG.out]
      go_wp2_with (first
        | (refine wpList_load_rowP rfl 27 (.tmp 2) rfl g rfl 27 #[.int .i64 p, .int .i64 r, .int .i64 c, .slice A n k] _ HK0.out Try.underlying27 rfl Try.infoMx ?_)
        | (go_at_call 57
           with_reducible refine (HM1.out).mono ?_
           rintro e w2 ⟨rfl, hb2⟩
           have HB2 := Lib.hid hb2
           obtain ⟨r0, r1, r2, r3⟩ := cells4 (HK1.out.below hb2 HK1.out.lt)
           clear hb2)
        | (go_at_call 57
           with_reducible refine (HM2.out _ HB2.out).mono ?_
           rintro e w3 ⟨rfl, hb3⟩
           have HB3 : Hid (Below w1.heap.size w1 w3) := Lib.hid (HB2.out.trans (hb3.mono HB2.out.size))
           obtain ⟨q0, q1, q2, q3⟩ := cells4 (HK0.out.below HB3.out HK0.out.lt)
           clear r0 r1 r2 r3
           obtain ⟨r0, r1, r2, r3⟩ := cells4 (HK1.out.below HB3.out HK1.out.lt)
           clear hb3)
        | fail)
      go_ret
      exact ⟨none, 0, 0, rfl, by rw [relW_no HNO.out]; exact Own.nil _ _ _, HB.out.trans (HB3.out.mono HB.out.size)⟩
    | true =>
      rw [hv] at HM2
      by_cases hp : p = p'
      case neg =>
        have HNO : Hid (pairB p r c xs p' r' c' ys = false) := Lib.hid (by unfold pairB; simp [hu, hv, hp])
        clear hu hv
        go_enter Try.func15, Try.ntmps15
        go_upto_region 1 with fail
        rw [← HW.out, ← HG.out]
        go_wp2_with (first
          | (refine wpList_load_rowP rfl 27 (.tmp 2) rfl g rfl 27 #[.int .i64 p, .int .i64 r, .int .i64 c, .slice A n k] _ HK0.out Try.underlying27 rfl Try.infoMx ?_)
          | (go_at_call 57
             with_reducible refine (HM1.out).mono ?_
             rintro e w2 ⟨rfl, hb2⟩
             have HB2 := Lib.hid hb2
             obtain ⟨r0, r1, r2, r3⟩ := cells4 (HK1.out.below hb2 HK1.out.lt)
             clear hb2)
          | (go_at_call 57
             with_reducible refine (HM2.out _ HB2.out).mono ?_
             rintro e w3 ⟨rfl, hb3⟩
             have HB3 : Hid (Below w1.heap.size w1 w3) := Lib.hid (HB2.out.trans (hb3.mono HB2.out.size))
             obtain ⟨q0, q1, q2, q3⟩ := cells4 (HK0.out.below HB3.out HK0.out.lt)
             clear r0 r1 r2 r3
             obtain ⟨r0, r1, r2, r3⟩ := cells4 (HK1.out.below HB3.out HK1.out.lt)
             clear hb3)
          | fail)
        go_ret
        exact ⟨none, 0, 0, rfl, by rw [relW_no HNO.out]; exact Own.nil _ _ _, HB.out.trans (HB3.out.mono HB.out.size)⟩
      case pos =>
        subst hp
        by_cases hc : c = c'
        case neg =>
          have HNO : Hid (pairB p r c xs p r' c' ys = false) := Lib.hid (by unfold pairB; simp [hu, hv, hc])
          clear hu hv
          go_enter Try.func15, Try.ntmps15
          go_upto_region 1 with fail
          rw [← HW.out, ← HG.out]
          go_wp2_with (first
            | (refine wpList_load_rowP rfl 27 (.tmp 2) rfl g rfl 27 #[.int .i64 p, .int .i64 r, .int .i64 c, .slice A n k] _ HK0.out Try.underlying27 rfl Try.infoMx ?_)
            | (go_at_call 57
               with_reducible refine (HM1.out).mono ?_
               rintro e w2 ⟨rfl, hb2⟩
               have HB2 := Lib.hid hb2
               obtain ⟨r0, r1, r2, r3⟩ := cells4 (HK1.out.below hb2 HK1.out.lt)
               clear hb2)
            | (go_at_call 57
               with_reducible refine (HM2.out _ HB2.out).mono ?_
               rintro e w3 ⟨rfl, hb3⟩
               have HB3 : Hid (Below w1.heap.size w1 w3) := Lib.hid (HB2.out.trans (hb3.mono HB2.out.size))
               obtain ⟨q0, q1, q2, q3⟩ := cells4 (HK0.out.below HB3.out HK0.out.lt)
               clear r0 r1 r2 r3
               obtain ⟨r0, r1, r2, r3⟩ := cells4 (HK1.out.below HB3.out HK1.out.lt)
               clear hb3)
            | fail)
          go_ret
          exact ⟨none, 0, 0, rfl, by rw [relW_no HNO.out]; exact Own.nil _ _ _, HB.out.trans (HB3.out.mono HB.out.size)⟩
        case pos =>
          subst hc
          have hyes : pairB p r c xs p r' c ys = true := by unfold pairB; simp [hu, hv]
          have HYES := Lib.hid hyes
          clear hu hv
          obtain ⟨C, rfl, rfl, _, rfl, _, hp7, hC1, hC7, hxl, hyl, hxr, hyr, hxf, hyf⟩ := pair_yes hyes
          clear hyes
          have HCM := Lib.hid (fun u (hbu : Below w1.heap.size w1 u) (i j : Nat) (hi : i ≤ C) (hj : j ≤ C) => l7Common_any p C C C i j A A' n k n' k' xs ys u hp7 (HSA.out.below hbu (Nat.le_refl _)) (HSB.out.below hbu (Nat.le_refl _)) hsh hsh' hnk hnk' hxr hyr hC7 (by omega) (by omega) (by have := HL1.out; have h2 : i * C ≤ C * C := Nat.mul_le_mul hi (Nat.le_refl _); omega) (by have := HL2.out; have h2 : j * C ≤ C * C := Nat.mul_le_mul hj (Nat.le_refl _); omega))
          have HJ := Lib.hid (fun (i : Nat) (hi : i < C) => flags_jump hp7 hxr hyr hxf hyf hi)
          have HPW : Hid (relW p C C xs p C C ys = relL p C xs ys) := Lib.hid (by unfold relW; rw [if_pos HYES.out]; simp only [Int.toNat_natCast])
          rw [HPW.out]
          clear hxl hyl hxr hyr hxf hyf hp7
          go_enter Try.func15, Try.ntmps15
          go_upto_region 1 with fail
          rw [← HW.out, ← HG.out]
          go_upto_region 3 with (first
            | (refine wpList_load_rowP rfl 27 (.tmp 2) rfl g rfl 27 #[.int .i64 p, .int .i64 C, .int .i64 C, .slice A n k] _ HK0.out Try.underlying27 rfl Try.infoMx ?_)
            | (go_at_call 57
               with_reducible refine (HM1.out).mono ?_
               rintro e w2 ⟨rfl, hb2⟩
               have HB2 := Lib.hid hb2
               obtain ⟨r0, r1, r2, r3⟩ := cells4 (HK1.out.below hb2 HK1.out.lt)
               clear hb2)
            | (go_at_call 57
               with_reducible refine (HM2.out _ HB2.out).mono ?_
               rintro e w3 ⟨rfl, hb3⟩
               have HB3 : Hid (Below w1.heap.size w1 w3) := Lib.hid (HB2.out.trans (hb3.mono HB2.out.size))
               obtain ⟨q0, q1, q2, q3⟩ := cells4 (HK0.out.below HB3.out HK0.out.lt)
               clear r0 r1 r2 r3
               obtain ⟨r0, r1, r2, r3⟩ := cells4 (HK1.out.below HB3.out HK1.out.lt)
               clear hb3)
            | fail)
          clear q0 q1 q2 q3 r0 r1 r2 r3
          have HE3 : Hid (Below w1.heap.size w1 (w3.alloc (.cells #[] 3))) := Lib.hid (HB3.out.alloc HB3.out.size _)
          have HO3 : Hid (Own (w3.alloc (.cells #[] 3)) w1.heap.size (w3.alloc (.cells #[] 3)).heap.size (some ⟨w3.heap.size, 0, none⟩) 0 0 ((relL p C xs ys).take 0)) := Lib.hid ((Own.empty w3).wide HB3.out.size (by simp))
          go_wp2_with fail
          go_loopw [5, 6] (fun ov iv wr => ∃ (i : Nat) (Ao : Option Addr) (co : Nat), i ≤ C ∧ iv = .int .i64 i ∧ ov = .slice Ao i co ∧ Own wr w1.heap.size wr.heap.size Ao i co ((relL p C xs ys).take i) ∧ Below w1.heap.size w1 wr)
            (fun _ iv _ => C - (intOf iv).toNat)
          case atStart => exact ⟨0, _, 0, Nat.zero_le _, rfl, rfl, HO3.out, HE3.out⟩
          case round =>
            obtain ⟨i, Ao, co, hi, rfl, rfl, ho, hbr⟩ := hrel
            obtain ⟨wo, hwo⟩ : ∃ v, v = wr := ⟨_, rfl⟩
            subst hwo
            have HO := Lib.hid ho
            have HBR := Lib.hid hbr
            obtain ⟨q0, q1, q2, q3⟩ := cells4 (HK0.out.below hbr HK0.out.lt)
            clear ho hbr
            by_cases hiC : i < C
            case neg =>
              obtain rfl : i = C := by omega
              go_wp2
              go_ret
              exact ⟨Ao, i, co, rfl, by have h := HO.out; rw [List.take_of_length_le (by rw [relL_len]; exact Nat.le_refl _)] at h; exact h.wide HB.out.size (Nat.le_refl _), HB.out.trans (HBR.out.mono HB.out.size)⟩
            case pos =>
              have hiI : (i : Int) < (C : Int) := by omega
              have hwi : IntKind.i64.wrap ((i : Int) + 1) = (i : Int) + 1 := IntWalk.i64_in _ (by omega)
              obtain ⟨J, hJe⟩ : ∃ J, J = jmp p C (rowsC xs C C C) (rowsC ys C C C) i := ⟨_, rfl⟩
              have hjj := HJ.out i hiC
              rw [← hJe] at hjj
              have hJC := hjj.1
              have HJJ := Lib.hid hjj.2
              have HNX : Hid ((relL p C xs ys).take (i + 1) = (relL p C xs ys).take i ++ [(J : Int)]) := Lib.hid (by rw [take_nth (by rw [relL_len]; exact hiC), relL_nth hiC, hJe])
              clear hJe hjj
              go_wp2_with fail
              clear q0 q1 q2 q3
              go_loopw [7] (fun jv wx => ∃ j : Nat, j ≤ J ∧ jv = .int .i64 j ∧ Below wo.heap.size wo wx)
                (fun jv _ => J - (intOf jv).toNat)
              case atStart => exact ⟨0, Nat.zero_le _, rfl, Below.refl _ _⟩
              case round =>
                obtain ⟨j, hj, rfl, hbx⟩ := hrel
                have HX : Hid (Below w1.heap.size w1 wr) := Lib.hid (HBR.out.trans (hbx.mono HBR.out.size))
                have HOX : Hid (Own wr w1.heap.size wr.heap.size Ao i co ((relL p C xs ys).take i)) := Lib.hid ((HO.out.below hbx (Nat.le_refl _)).wide (Nat.le_refl _) hbx.size)
                have HBX := Lib.hid hbx
                clear hbx
                have hwj : IntKind.i64.wrap ((j : Int) + 1) = (j : Int) + 1 := IntWalk.i64_in _ (by omega)
                obtain ⟨a, ha⟩ : ∃ a, a = cmnR p (rowsC xs C (i + 1) C) (rowsC ys C (j + 1) C) := ⟨_, rfl⟩
                obtain ⟨b, hb⟩ : ∃ b, b = cmnR p (rowsC xs C i C) (rowsC ys C (j + 1) C) := ⟨_, rfl⟩
                have hab := HJJ.out (j + 1) (by omega)
                rw [← ha, ← hb] at hab
                have HC1 := Lib.hid (fun u hbu => HCM.out u hbu (i + 1) (j + 1) (by omega) (by omega))
                have HC2 := Lib.hid (fun u hbu => HCM.out u hbu i (j + 1) (by omega) (by omega))
                rw [← ha] at HC1
                rw [← hb] at HC2
                simp only [Int.natCast_add, Int.natCast_one] at HC1 HC2
                clear ha hb
                have MKS : Hid (∀ u, Below w1.heap.size w1 u → (u.cell? ⟨g, 0, none⟩ = some (.int .i64 p) ∧ u.cell? ⟨g, 1, none⟩ = some (.int .i64 C) ∧ u.cell? ⟨g, 2, none⟩ = some (.int .i64 C) ∧ u.cell? ⟨g, 3, none⟩ = some (.slice A n k) ∧ u.cell? ⟨g + 1, 0, none⟩ = some (.int .i64 p) ∧ u.cell? ⟨g + 1, 1, none⟩ = some (.int .i64 C) ∧ u.cell? ⟨g + 1, 2, none⟩ = some (.int .i64 C) ∧ u.cell? ⟨g + 1, 3, none⟩ = some (.slice A' n' k'))) := Lib.hid (fun u hb => by obtain ⟨a0, a1, a2, a3⟩ := cells4 (HK0.out.below hb HK0.out.lt); obtain ⟨b0, b1, b2, b3⟩ := cells4 (HK1.out.below hb HK1.out.lt); exact ⟨a0, a1, a2, a3, b0, b1, b2, b3⟩)
                have HKd : Hid (wr.drew.cell? ⟨g, 0, none⟩ = some (.int .i64 p) ∧ wr.drew.cell? ⟨g, 1, none⟩ = some (.int .i64 C) ∧ wr.drew.cell? ⟨g, 2, none⟩ = some (.int .i64 C) ∧ wr.drew.cell? ⟨g, 3, none⟩ = some (.slice A n k) ∧ wr.drew.cell? ⟨g + 1, 0, none⟩ = some (.int .i64 p) ∧ wr.drew.cell? ⟨g + 1, 1, none⟩ = some (.int .i64 C) ∧ wr.drew.cell? ⟨g + 1, 2, none⟩ = some (.int .i64 C) ∧ wr.drew.cell? ⟨g + 1, 3, none⟩ = some (.slice A' n' k')) := Lib.hid (MKS.out wr HX.out)
                have HKn := Lib.hid (MKS.out wr HX.out)
                obtain ⟨eb, heb⟩ : ∃ eb : Bool, eb = (a == b) := ⟨_, rfl⟩
                have HEB := Lib.hid heb
                have HAB := Lib.hid hab
                clear heb hab
                go_upto_region 8 with fail
                go_region_held3 (fun u => u.cell? ⟨g, 0, none⟩ = some (.int .i64 p) ∧ u.cell? ⟨g, 1, none⟩ = some (.int .i64 C) ∧ u.cell? ⟨g, 2, none⟩ = some (.int .i64 C) ∧ u.cell? ⟨g, 3, none⟩ = some (.slice A n k) ∧ u.cell? ⟨g + 1, 0, none⟩ = some (.int .i64 p) ∧ u.cell? ⟨g + 1, 1, none⟩ = some (.int .i64 C) ∧ u.cell? ⟨g + 1, 2, none⟩ = some (.int .i64 C) ∧ u.cell? ⟨g + 1, 3, none⟩ = some (.slice A' n' k'))
                  (first | with_reducible exact HKd.out | with_reducible exact HKn.out | with_reducible exact KU1 | with_reducible exact KU2)
                  (first
                    | (go_at_call 58
                       with_reducible refine (HC2.out u1 Hc1.out).mono ?_
                       rintro e u2 ⟨rfl, hb⟩
                       have Hc2 : Hid (Below w1.heap.size w1 u2) := Lib.hid (Hc1.out.trans (hb.mono Hc1.out.size))
                       have Hd2 : Hid (Below wr.heap.size wr u2) := Lib.hid (Hd1.out.trans (hb.mono Hd1.out.size))
                       have KU2 := MKS.out u2 Hc2.out
                       clear hb)
                    | (go_at_call 58
                       with_reducible refine (HC1.out _ (HX.out.drew)).mono ?_
                       rintro e u1 ⟨rfl, hb⟩
                       have Hd1 : Hid (Below wr.heap.size wr u1) := Lib.hid (((Below.refl _ _).drew).trans hb)
                       have Hc1 : Hid (Below w1.heap.size w1 u1) := Lib.hid (HX.out.trans (Hd1.out.mono HX.out.size))
                       have KU1 := MKS.out u1 Hc1.out
                       clear hb))
                have HB2x : Hid (Below wo.heap.size wo u2) := Lib.hid (HBX.out.trans (Hd2.out.mono HBX.out.size))
                have HO2x : Hid (Own u2 w1.heap.size u2.heap.size Ao i co ((relL p C xs ys).take i)) := Lib.hid ((HOX.out.below Hd2.out (Nat.le_refl _)).wide (Nat.le_refl _) Hd2.out.size)
                by_cases hjJ : j < J
                case pos =>
                  have hab := HAB.out
                  rw [if_pos (by omega)] at hab
                  obtain rfl : a = b := by omega
                  clear hab
                  go_wp2
                  go_roundw
                  case rel => exact ⟨j + 1, by omega, by go_num, HB2x.out⟩
                  case measure => simp [intOf]; omega
                case neg =>
                  obtain rfl : j = J := by omega
                  have hab := HAB.out
                  rw [if_neg (by omega)] at hab
                  have hne : (a == b) = false := by simp; omega
                  clear hab
                  go_wp2_with (at_builtin; refine wpList_append1 rfl (.tmp 53) (.tmp 55) rfl w1.heap.size Ao i co ((relL p C xs ys).take i) (j : Int) rfl rfl HO2x.out Hc2.out.size (by omega) ?_; intro A5 c5 w5 ho5 _ hb5; have HO5 := Lib.hid ho5; have HB5 := Lib.hid (Hc2.out.trans hb5); clear ho5 hb5)
                  go_roundw
                  case rel => exact ⟨i + 1, A5, c5, by omega, by go_num, rfl, by rw [HNX.out]; exact HO5.out, HB5.out⟩
                  case measure => simp [intOf]; omega

end Go.Proofs.Ytfaegfhbbkicgaa

/-
  The relative position as the program looks for it: mathematics. Conditions: p is 2, 3, 5 or 7.
-/

namespace Go.Proofs.Ytfaegfhbbkicgaa
open Go.RowKit

/-- How much the first i rows of one flag and the first j of the other have in common. -/
def cmF (p : Int) (C : Nat) (xs ys : List Int) (i j : Nat) : Int := cmnR p (rowsC xs C i C) (rowsC ys C j C)
/-- The first rows of a flag's normal form have the same in common with other rows. -/
theorem cmn_nf {p : Int} {C : Nat} {xs : List Int} {S : List (List Int)} (hp : P7 p) (hx : Rg p xs) (hS : ∀ y, y ∈ S → y.length = C ∧ Rg p y) (hxf : (echel p (rowsC xs C C C)).length = C) {i : Nat} (hi : i ≤ C) :
    cmnR p (rowsC (nfX p C xs) C i C) S = cmnR p (rowsC xs C i C) S := by
  have hA := rowsC_ok (p := p) (d := xs) (by have := hp.two; omega) hx C C C
  have hE := (echel_ok hp hA).1.1
  have hf : (echel p (rowsC xs C C C)).length = (rowsC xs C C C).length := by rw [hxf, rowsC_len]
  have e1 : rowsC (nfX p C xs) C i C = ((echel p (rowsC xs C C C)).map (·.1)).take i := by
    unfold nfX
    exact flat_rows (fun e he => (hE e he).1) hxf hi
  have hN : ∀ y, y ∈ ((echel p (rowsC xs C C C)).map (·.1)).take i → y.length = C ∧ Rg p y := fun y hy => by
    obtain ⟨e, he, rfl⟩ := List.mem_map.1 (List.mem_of_mem_take hy)
    exact ⟨(hE e he).1, (hE e he).2.1⟩
  have hT : ∀ y, y ∈ (rowsC xs C C C).take i → y.length = C ∧ Rg p y := fun y hy => hA y (List.mem_of_mem_take hy)
  have hs := sp_take hp hA hf (i := i) (by rw [rowsC_len]; exact hi)
  have h1 := rank_span hp hN hT hs
  have h2 := rank_swap hp hN hT hS hs
  have h3 := rank_swap hp hT hT hS (fun v => Iff.rfl)
  rw [e1, rowsC_first (d := xs) hi]
  unfold cmnR
  omega
/-- The steps of the other flag within the first i rows. -/
def stF (p : Int) (C : Nat) (xs ys : List Int) (i : Nat) : List Int := (List.range C).map fun j => cmF p C xs ys i (j + 1) - cmF p C xs ys i j
theorem stF_len (p : Int) (C : Nat) (xs ys : List Int) (i : Nat) : (stF p C xs ys i).length = C := by simp [stF]
theorem stF_nth {p : Int} {C : Nat} {xs ys : List Int} {i j : Nat} (h : j < C) : nth (stF p C xs ys i) j = cmF p C xs ys i (j + 1) - cmF p C xs ys i j := nth_rangeMap _ h
theorem cmF_zero (p : Int) (C : Nat) (xs ys : List Int) (j : Nat) : cmF p C xs ys 0 j = 0 := by
  unfold cmF cmnR
  rw [show rowsC xs C 0 C = [] from rfl, List.nil_append, rnkL_nil]
  omega
theorem cmF_none (p : Int) (C : Nat) (xs ys : List Int) (i : Nat) : cmF p C xs ys i 0 = 0 := by
  unfold cmF cmnR
  rw [show rowsC ys C 0 C = [] from rfl, List.append_nil, rnkL_nil]
  omega
theorem stF_zero (p : Int) (C : Nat) (xs ys : List Int) : stF p C xs ys 0 = List.replicate C 0 := by
  refine nth_ext (by rw [stF_len, List.length_replicate]) fun j hj => ?_
  rw [stF_len] at hj
  rw [stF_nth hj, cmF_zero, cmF_zero]
  simp [nth, List.getD, hj]
/-- The one column at which a step is more than it was before. -/
theorem stF_gt {p : Int} {C : Nat} {xs ys : List Int} (hp : P7 p) (hx : Rg p xs) (hy : Rg p ys) (hxf : (echel p (rowsC xs C C C)).length = C) (hyf : (echel p (rowsC ys C C C)).length = C) {i : Nat} (hi : i < C) :
    jmp p C (rowsC xs C C C) (rowsC ys C C C) i < C ∧ ∀ j, j < C → (nth (stF p C xs ys i) j < nth (stF p C xs ys (i + 1)) j ↔ j = jmp p C (rowsC xs C C C) (rowsC ys C C C) i) := by
  obtain ⟨hJ, h⟩ := flags_jump hp hx hy hxf hyf hi
  refine ⟨hJ, fun j hj => ?_⟩
  have h1 := h (j + 1) (by omega)
  have h2 := h j (by omega)
  rw [stF_nth hj, stF_nth hj]
  unfold cmF
  generalize jmp p C (rowsC xs C C C) (rowsC ys C C C) i = J at *
  by_cases hjJ : j + 1 ≤ J
  · rw [if_pos hjJ] at h1; rw [if_pos (by omega)] at h2; omega
  · rw [if_neg hjJ] at h1
    by_cases hj2 : j ≤ J
    · rw [if_pos hj2] at h2; omega
    · rw [if_neg hj2] at h2; omega
/-- What stands in the answer when i rows are done. -/
def relP (p : Int) (C : Nat) (xs ys : List Int) (i : Nat) : List Int := (List.range C).map fun t => if t < i then ((jmp p C (rowsC xs C C C) (rowsC ys C C C) t : Nat) : Int) else 0
theorem relP_len (p : Int) (C : Nat) (xs ys : List Int) (i : Nat) : (relP p C xs ys i).length = C := by simp [relP]
theorem relP_nth {p : Int} {C : Nat} {xs ys : List Int} {i t : Nat} (h : t < C) : nth (relP p C xs ys i) t = if t < i then ((jmp p C (rowsC xs C C C) (rowsC ys C C C) t : Nat) : Int) else 0 := nth_rangeMap _ h
theorem relP_zero (p : Int) (C : Nat) (xs ys : List Int) : relP p C xs ys 0 = List.replicate C 0 := by
  refine nth_ext (by rw [relP_len, List.length_replicate]) fun j hj => ?_
  rw [relP_len] at hj
  rw [relP_nth hj, if_neg (by omega)]
  simp [nth, List.getD, hj]
theorem relP_step {p : Int} {C : Nat} {xs ys : List Int} {i : Nat} (hi : i < C) : (relP p C xs ys i).set i ((jmp p C (rowsC xs C C C) (rowsC ys C C C) i : Nat) : Int) = relP p C xs ys (i + 1) := by
  refine nth_ext (by rw [List.length_set, relP_len, relP_len]) fun t ht => ?_
  rw [List.length_set, relP_len] at ht
  rw [nth_set_at (by rw [relP_len]; exact hi), relP_nth ht, relP_nth ht]
  by_cases h : t = i
  · subst h; rw [if_pos rfl, if_pos (by omega)]
  · rw [if_neg h]
    by_cases h2 : t < i
    · rw [if_pos h2, if_pos (by omega)]
    · rw [if_neg h2, if_neg (by omega)]
theorem relP_all (p : Int) (C : Nat) (xs ys : List Int) : relP p C xs ys C = relL p C xs ys := by
  unfold relP relL
  refine List.map_congr_left fun t ht => ?_
  rw [if_pos (List.mem_range.1 ht)]
end Go.Proofs.Ytfaegfhbbkicgaa

/-
  flagOf on the program's side. Conditions: lengths below 2^40.
-/






namespace Go.Proofs.Ytfaegfhbbkicgaa
open Go.RowKit

theorem Try.infoNf : (Try.prog.info? 76).map (·.size) = some 5 := by kernel_rfl
/-- Rows that are kept, in a variable of its own. -/
def BoxE (w0 wx : World) (ge lo hi : Nat) (AR : Option Addr) (nR cR : Nat) (AC : Option Addr) (nC cC : Nat) (p : Int) (E : List (List Int × Int)) : Prop :=
  OwnL wx lo hi AR nR cR (E.map (·.1)) ∧ Own wx lo hi AC nC cC (E.map (·.2)) ∧ Blk wx ge 87 #[.int .i64 p, .slice AR nR cR, .slice AC nC cC] ∧ w0.heap.size ≤ lo ∧ hi ≤ wx.heap.size ∧ (ge < lo ∨ hi ≤ ge) ∧ w0.heap.size ≤ ge ∧ Below w0.heap.size w0 wx
theorem grown_put3 (w : World) (g : Nat) (a b c : Value) : w.grownBy (((w.setCell ⟨g, 0, none⟩ a).setCell ⟨g, 1, none⟩ b).setCell ⟨g, 2, none⟩ c) (some g) :=
  ((grown_setP w ⟨g, 0, none⟩ a).trans (grown_setP _ ⟨g, 1, none⟩ b)).trans (grown_setP _ ⟨g, 2, none⟩ c)
theorem below_put3 {B : Nat} {a w : World} (h : Below B a w) {g : Nat} (hg : B ≤ g) (x0 x1 x2 : Value) : Below B a (((w.setCell ⟨g, 0, none⟩ x0).setCell ⟨g, 1, none⟩ x1).setCell ⟨g, 2, none⟩ x2) :=
  ((h.setCell (p := ⟨g, 0, none⟩) hg x0).setCell (p := ⟨g, 1, none⟩) hg x1).setCell (p := ⟨g, 2, none⟩) hg x2
section
variable {w0 u w' : World} {ge lo hi : Nat} {AR : Option Addr} {nR cR : Nat} {AC : Option Addr} {nC cC : Nat} {p : Int} {E : List (List Int × Int)}
theorem BoxE.put (hR : OwnL u lo hi AR nR cR (E.map (·.1))) (hC : Own u lo hi AC nC cC (E.map (·.2))) {x0 x1 x2 : Value} (hk : Blk u ge 87 #[x0, x1, x2]) (h1 : w0.heap.size ≤ lo) (h2 : hi ≤ u.heap.size) (h3 : ge < lo ∨ hi ≤ ge) (h4 : w0.heap.size ≤ ge) (hb : Below w0.heap.size w0 u) :
    BoxE w0 (((u.setCell ⟨ge, 0, none⟩ (.int .i64 p)).setCell ⟨ge, 1, none⟩ (.slice AR nR cR)).setCell ⟨ge, 2, none⟩ (.slice AC nC cC)) ge lo hi AR nR cR AC nC cC p E := by
  have hg := grown_put3 u ge (.int .i64 p) (.slice AR nR cR) (.slice AC nC cC)
  have hb' := below_put3 hb h4 (.int .i64 p) (.slice AR nR cR) (.slice AC nC cC)
  exact ⟨hR.within (Within.of_grown hg (lo := ge) (hi := ge + 1) (fun k e => by injection e with e; omega)) (by omega), hC.grown hg (fun k hk => by injection hk with hk; omega), ((hk.set_ 0 _).set_ 1 _).set_ 2 _, h1, Nat.le_trans h2 hg.size, h3, h4, hb'⟩
theorem BoxE.new (hR : OwnL u lo hi AR nR cR (E.map (·.1))) (hC : Own u lo hi AC nC cC (E.map (·.2))) (h1 : w0.heap.size ≤ lo) (h2 : hi ≤ u.heap.size) (hb : Below w0.heap.size w0 u) :
    BoxE w0 (u.alloc (.cells #[.int .i64 p, .slice AR nR cR, .slice AC nC cC] 87)) u.heap.size lo hi AR nR cR AC nC cC p E :=
  ⟨hR.below (Below.alloc_self _ _) h2, hC.below (Below.alloc_self _ _) h2, Blk.new _ _ _, h1, by simp; omega, .inr h2, hb.size, hb.alloc hb.size _⟩
theorem BoxE.below (h : BoxE w0 u ge lo hi AR nR cR AC nC cC p E) (hb : Below u.heap.size u w') : BoxE w0 w' ge lo hi AR nR cR AC nC cC p E := by
  obtain ⟨h1, h2, h3, h4, h5, h6, h7, h8⟩ := h
  have hz := hb.size
  exact ⟨h1.below hb h5, h2.below hb h5, h3.below hb h3.lt, h4, by omega, h6, h7, h8.trans (hb.mono h8.size)⟩
end
theorem grown_put5 (w : World) (g : Nat) (a b c d e : Value) : w.grownBy (((((w.setCell ⟨g, 0, none⟩ a).setCell ⟨g, 1, none⟩ b).setCell ⟨g, 2, none⟩ c).setCell ⟨g, 3, none⟩ d).setCell ⟨g, 4, none⟩ e) (some g) :=
  ((((grown_setP w ⟨g, 0, none⟩ a).trans (grown_setP _ ⟨g, 1, none⟩ b)).trans (grown_setP _ ⟨g, 2, none⟩ c)).trans (grown_setP _ ⟨g, 3, none⟩ d)).trans (grown_setP _ ⟨g, 4, none⟩ e)
theorem Blk.eqE_ {v u : World} {g : Nat} {t : TypeId} {cs : Array Value} (h : v = u) (hb : Blk u g t cs) : Blk v g t cs := h ▸ hb
/-- What flagOf hands back. -/
def FreshNf (w w' : World) (e : Ending) (p r c : Int) (z ys : List Int) (ok : Bool) : Prop :=
  ∃ P m d AC nC cC, e = .returned (.tuple #[.agg #[.int .i64 p, .int .i64 r, .int .i64 c, .slice P m d, .slice AC nC cC], .bool ok]) ∧ Own w' w.heap.size w'.heap.size P m d z ∧ Own w' w.heap.size w'.heap.size AC nC cC ys ∧ Below w.heap.size w w'
theorem FreshNf.zero {w w1 w5 : World} {g : Nat} (hw : Below w.heap.size w w1) (hg : w.heap.size ≤ g) (hg5 : w1.grownBy w5 (some g)) : FreshNf w w5 (.returned (.tuple #[.agg #[.int .i64 0, .int .i64 0, .int .i64 0, .slice none 0 0, .slice none 0 0], .bool false])) 0 0 0 [] [] false :=
  ⟨none, 0, 0, none, 0, 0, rfl, Own.nil _ _ _, Own.nil _ _ _, hw.grown hg5 hw.size (by rintro q ⟨⟩; exact hg)⟩
set_option maxRecDepth 100000 in
set_option maxHeartbeats 16000000 in
theorem flagOf_z (p r c : Int) (A : Option Addr) (n k : Nat) (xs : List Int) (w : World) (hs : SI w A n xs) (hn : n ≤ 1099511627776) (hnk : n ≤ k) (zp zr zc : Int) (z : List Int) (ok : Bool) (hz : NfIs p r c xs zp zr zc z ok) :
    Calls Try.prog 59 #[.agg #[.int .i64 p, .int .i64 r, .int .i64 c, .slice A n k]] w fun e w' => FreshNf w w' e zp zr zc z (flgW p r c xs) ok := by
  obtain ⟨w1, hw1⟩ : ∃ w1, w1 = ((w.alloc (.cells #[.int .i64 p, .int .i64 r, .int .i64 c, .slice A n k] 27)).alloc (.cells #[.int .i64 0, .int .i64 0, .int .i64 0, .slice none 0 0, .slice none 0 0] 76)) := ⟨_, rfl⟩
  obtain ⟨g, hg⟩ : ∃ g, g = w.heap.size := ⟨_, rfl⟩
  have HK0 : Hid (Blk w1 (g) 27 #[.int .i64 p, .int .i64 r, .int .i64 c, .slice A n k]) := Lib.hid (by rw [hw1, hg]; have := (Blk.new w 27 #[.int .i64 p, .int .i64 r, .int .i64 c, .slice A n k]).alloc (.cells #[.int .i64 0, .int .i64 0, .int .i64 0, .slice none 0 0, .slice none 0 0] 76); simpa using this)
  have HK1 : Hid (Blk w1 (g + 1) 76 #[.int .i64 0, .int .i64 0, .int .i64 0, .slice none 0 0, .slice none 0 0]) := Lib.hid (by rw [hw1, hg]; have := Blk.new (w.alloc (.cells #[.int .i64 p, .int .i64 r, .int .i64 c, .slice A n k] 27)) 76 #[.int .i64 0, .int .i64 0, .int .i64 0, .slice none 0 0, .slice none 0 0]; simpa using this)
  have hb : Below w.heap.size w w1 := by rw [hw1]; go_grown
  have HB := Lib.hid hb
  have HW := Lib.hid hw1
  have HG := Lib.hid hg
  have HSZ : Hid (w1.heap.size = g + 2) := Lib.hid (by rw [hw1, hg]; simp)
  have HS := Lib.hid (hs.below hb (Nat.le_refl _))
  have HL := Lib.hid hs.1
  have HMO := Lib.hid (implMatrixOk_any p r c A n k xs w1 (hs.below hb (Nat.le_refl _)) hn)
  clear hw1 hg hb hs
  cases hm : matB p r c xs with
  | false =>
    rw [hm] at HMO
    have HFW : Hid (flgW p r c xs = []) := Lib.hid (by unfold flgW; rw [if_neg (by rw [flagB_no1 hm]; decide)])
    obtain rfl : ok = false := by rw [hz.1, flagB_no1 hm]
    obtain ⟨rfl, rfl, rfl, rfl⟩ := hz.2.2 rfl
    clear hz
    rw [HFW.out]
    clear hm
    go_enter Try.func59, Try.ntmps59
    go_upto_region 1 with fail
    rw [← HW.out, ← HG.out]
    go_wp2_with (first
      | (refine wpList_load_rowP rfl 27 (.tmp 1) rfl g rfl 27 #[.int .i64 p, .int .i64 r, .int .i64 c, .slice A n k] _ HK0.out Try.underlying27 rfl Try.infoMx ?_)
      | (go_at_call 127
         with_reducible refine (HMO.out).mono ?_
         rintro e w2 ⟨rfl, hb2⟩
         have HB2 := Lib.hid hb2
         have HR2 := Lib.hid (HK1.out.below hb2 HK1.out.lt)
         obtain ⟨q0, q1, q2, q3⟩ := cells4 (HK0.out.below hb2 HK0.out.lt)
         clear hb2)
      | (refine wpList_store_rowP rfl 76 (.tmp 2) (.tmp 15) rfl (g + 1) #[.int .i64 0, .int .i64 0, .int .i64 0, .slice none 0 0, .slice none 0 0] rfl rfl 76 #[.int .i64 0, .int .i64 0, .int .i64 0, .slice none 0 0, .slice none 0 0] HR2.out Try.infoNf rfl (by simp [Value.oneCell']) ?_; intro w5 hb5 hg5)
      | fail)
    refine bodyPost_ret (results_mx_tmp Try.results59 _ _ _ 76 #[.int .i64 0, .int .i64 0, .int .i64 0, .slice none 0 0, .slice none 0 0] _ rfl hb5 Try.underlying76 rfl Try.infoNf) rfl ?_
    exact FreshNf.zero (HB.out.trans (HB2.out.mono HB.out.size)) (by have := HG.out; omega) hg5
  | true =>
    rw [hm] at HMO
    by_cases hrc : r = c
    case neg =>
      have HFW : Hid (flgW p r c xs = []) := Lib.hid (by unfold flgW; rw [if_neg (by rw [flagB_no2 hrc]; decide)])
      obtain rfl : ok = false := by rw [hz.1, flagB_no2 hrc]
      obtain ⟨rfl, rfl, rfl, rfl⟩ := hz.2.2 rfl
      clear hz
      rw [HFW.out]
      have hrcb : (r != c) = true := by simpa using hrc
      clear hm
      go_enter Try.func59, Try.ntmps59
      go_upto_region 1 with fail
      rw [← HW.out, ← HG.out]
      go_wp2_with (first
        | (refine wpList_load_rowP rfl 27 (.tmp 1) rfl g rfl 27 #[.int .i64 p, .int .i64 r, .int .i64 c, .slice A n k] _ HK0.out Try.underlying27 rfl Try.infoMx ?_)
        | (go_at_call 127
           with_reducible refine (HMO.out).mono ?_
           rintro e w2 ⟨rfl, hb2⟩
           have HB2 := Lib.hid hb2
           have HR2 := Lib.hid (HK1.out.below hb2 HK1.out.lt)
           obtain ⟨q0, q1, q2, q3⟩ := cells4 (HK0.out.below hb2 HK0.out.lt)
           clear hb2)
        | (refine wpList_store_rowP rfl 76 (.tmp 2) (.tmp 15) rfl (g + 1) #[.int .i64 0, .int .i64 0, .int .i64 0, .slice none 0 0, .slice none 0 0] rfl rfl 76 #[.int .i64 0, .int .i64 0, .int .i64 0, .slice none 0 0, .slice none 0 0] HR2.out Try.infoNf rfl (by simp [Value.oneCell']) ?_; intro w5 hb5 hg5)
        | fail)
      refine bodyPost_ret (results_mx_tmp Try.results59 _ _ _ 76 #[.int .i64 0, .int .i64 0, .int .i64 0, .slice none 0 0, .slice none 0 0] _ rfl hb5 Try.underlying76 rfl Try.infoNf) rfl ?_
      exact FreshNf.zero (HB.out.trans (HB2.out.mono HB.out.size)) (by have := HG.out; omega) hg5
    case pos =>
      subst hrc
      have HM := Lib.hid (matB_P hm)
      obtain ⟨R, C, rfl, e, hR7, hC1, hC7, hxl⟩ := HM.out.nats
      obtain rfl : C = R := by omega
      clear e
      have HXL := Lib.hid hxl
      have HP7 := Lib.hid HM.out.1
      have hp2 := HM.out.1.two
      have hC0 : 0 < C := hC1
      have HROK := Lib.hid (rowsC_ok (by omega) HM.out.rg C C C)
      obtain ⟨E, hE⟩ : ∃ E, E = echel p (rowsC xs C C C) := ⟨_, rfl⟩
      have HE := Lib.hid hE
      have hELE : E.length ≤ C := by rw [hE]; have h := rnkL_le p (rowsC xs C C C); unfold rnkL at h; rw [rowsC_len] at h; exact h
      have HFB : Hid (E.length = C → flagB p C C xs = true) := Lib.hid (fun h => by simpa [rnkL, ← hE, h] using flagB_rk hm rfl)
      have HFN : Hid (E.length ≠ C → flagB p C C xs = false) := Lib.hid (fun h => by simpa [rnkL, ← hE, h] using flagB_rk hm rfl)
      have HEOK : Hid (EOk p C E) := Lib.hid (by rw [hE]; exact (echel_ok HM.out.1 HROK.out).1)
      clear hm hxl hE
      go_enter Try.func59, Try.ntmps59
      go_upto_region 1 with fail
      rw [← HW.out, ← HG.out]
      go_upto_region 3 with (first
        | (refine wpList_load_rowP rfl 27 (.tmp 1) rfl g rfl 27 #[.int .i64 p, .int .i64 C, .int .i64 C, .slice A n k] _ HK0.out Try.underlying27 rfl Try.infoMx ?_)
        | (go_at_call 127
           with_reducible refine (HMO.out).mono ?_
           rintro e w2 ⟨rfl, hb2⟩
           have HB2 := Lib.hid hb2
           have HR2 := Lib.hid (HK1.out.below hb2 HK1.out.lt)
           obtain ⟨q0, q1, q2, q3⟩ := cells4 (HK0.out.below hb2 HK0.out.lt)
           clear hb2)
        | fail)
      clear q0 q1 q2 q3
      have MKS : Hid (∀ u, Below w2.heap.size w2 u → (Below w2.heap.size w2 u ∧ u.cell? ⟨g, 0, none⟩ = some (.int .i64 p) ∧ u.cell? ⟨g, 1, none⟩ = some (.int .i64 C) ∧ u.cell? ⟨g, 2, none⟩ = some (.int .i64 C) ∧ u.cell? ⟨g, 3, none⟩ = some (.slice A n k))) := Lib.hid (fun u hb => ⟨hb, cells4 (HK0.out.below (HB2.out.trans (hb.mono HB2.out.size)) HK0.out.lt)⟩)
      have Hcd : Hid (Below w2.heap.size w2 w2.drew) := Lib.hid ((Below.refl _ _).drew)
      have Hal : Hid (∀ o, Below w2.heap.size w2 (w2.alloc o).drew) := Lib.hid (fun o => ((Below.refl _ _).alloc (Nat.le_refl _) o).drew)
      have HSU : Hid (∀ u, Below w2.heap.size w2 u → SI u A n xs) := Lib.hid (fun u hb => HS.out.below (HB2.out.trans (hb.mono HB2.out.size)) (Nat.le_refl _))
      go_cut [4] from 5 (fun p4 wx => ∃ ge lo hi AR nR cR AC nC cC, p4 = .pointer (some ⟨ge, 0, none⟩) ∧ BoxE w2 wx ge lo hi AR nR cR AC nC cC p E)
      case first =>
        go_region_held3 (fun u => Below w2.heap.size w2 u ∧ u.cell? ⟨g, 0, none⟩ = some (.int .i64 p) ∧ u.cell? ⟨g, 1, none⟩ = some (.int .i64 C) ∧ u.cell? ⟨g, 2, none⟩ = some (.int .i64 C) ∧ u.cell? ⟨g, 3, none⟩ = some (.slice A n k))
          (first | with_reducible exact MKS.out _ Hcd.out | with_reducible exact MKS.out _ Hcu0.out | with_reducible exact MKS.out _ HcuS.out | with_reducible exact MKS.out _ (Hal.out _) | with_reducible exact MKS.out _ (Below.alloc Hcu0.out Hcu0.out.size _) | with_reducible exact MKS.out _ (Below.alloc HcuS.out HcuS.out.size _) | exact MKS.out _ (below_put3 HcuS.out HGZS.out _ _ _) | exact MKS.out _ (Below.alloc HcuS.out HcuS.out.size _) | exact MKS.out _ (below_put3 (Below.alloc HcuS.out HcuS.out.size _) HcuS.out.size _ _ _))
          (first
            | (go_at_call 128
               refine calls_here ?_
               intro v1 hu
               have Hv : Hid (Below w2.heap.size w2 v1) := Lib.hid (by rw [hu]; first | exact Hcu0.out | exact Hcu0.out.alloc Hcu0.out.size _)
               have HT0 : Hid (LS v1 (some ⟨ga, 0, none⟩) C (rowsC xs C C C)) := Lib.hid (by rw [hu]; first | exact HS0.out | exact HS0.out.below (Below.alloc_self _ _) (Nat.le_refl _))
               first
                 | (have HZ1 : Hid (Blk v1 u0.heap.size 87 #[.int .i64 0, .slice none 0 0, .slice none 0 0]) := Lib.hid (by rw [hu]; exact Blk.new _ _ _))
                 | skip
               with_reducible refine (echelonOf_any p C (some ⟨ga, 0, none⟩) C C (rowsC xs C C C) v1 HP7.out HT0.out (by omega) HROK.out (by omega)).mono ?_
               rintro e uS ⟨AR, nR, cR, AC, nC, cC, rfl, hoR, hoC, hb⟩
               rw [← HE.out] at hoR hoC
               have HcuS : Hid (Below w2.heap.size w2 uS) := Lib.hid (Hv.out.trans (hb.mono Hv.out.size))
               first
                 | (have HY1 := Lib.hid (HZ1.out.below hb HZ1.out.lt); have HGZS : Hid (w2.heap.size ≤ u0.heap.size) := Lib.hid Hcu0.out.size; have rr0 := HY1.out.cell 0; have rr1 := HY1.out.cell 1; have rr2 := HY1.out.cell 2; have ff0 := HY1.out.frozen 0; have ff1 := HY1.out.frozen 1; have ff2 := HY1.out.frozen 2; have HBX2 := Lib.hid (BoxE.put (w0 := w2) (p := p) hoR hoC HY1.out Hv.out.size (Nat.le_refl _) (.inl HZ1.out.lt) HGZS.out HcuS.out))
                 | (have HZ1 := Lib.hid (Blk.eqE_ hu HY0.out); have HY1 := Lib.hid (HZ1.out.below hb HZ1.out.lt); have HGZS := HGZ; have rr0 := HY1.out.cell 0; have rr1 := HY1.out.cell 1; have rr2 := HY1.out.cell 2; have ff0 := HY1.out.frozen 0; have ff1 := HY1.out.frozen 1; have ff2 := HY1.out.frozen 2; have HBX2 := Lib.hid (BoxE.put (w0 := w2) (p := p) hoR hoC HY1.out Hv.out.size (Nat.le_refl _) (.inl HZ1.out.lt) HGZS.out HcuS.out))
                 | (have HBX2 := Lib.hid (BoxE.new (w0 := w2) (p := p) hoR hoC Hv.out.size (Nat.le_refl _) HcuS.out))
               clear hu hb hoR hoC)
            | (go_at_call 70
               refine calls_here ?_
               intro v0 hu
               have Hv : Hid (Below w2.heap.size w2 v0) := Lib.hid (by rw [hu]; first | exact Hcd.out | exact Hal.out _)
               first
                 | (have HZ0 : Hid (Blk v0 w2.heap.size 87 #[.int .i64 0, .slice none 0 0, .slice none 0 0]) := Lib.hid (by rw [hu]; first | exact Blk.new _ _ _ | exact (Blk.new w2 _ _).drewN 1))
                 | skip
               with_reducible refine (allRows_any p C C A n k xs v0 (HSU.out _ Hv.out) ⟨hC0, by omega⟩ (by omega) HXL.out hnk).mono ?_
               rintro e u0 ⟨ga, rfl, hls, hb⟩
               have Hcu0 : Hid (Below w2.heap.size w2 u0) := Lib.hid (Hv.out.trans (hb.mono Hv.out.size))
               have HS0 := Lib.hid hls
               first
                 | (have HY0 := Lib.hid (HZ0.out.below hb HZ0.out.lt); have HGZ : Hid (w2.heap.size ≤ w2.heap.size) := Lib.hid (Nat.le_refl _))
                 | skip
               clear hu hb hls))
        all_goals
          (go_wp2
           go_meet
           case rel => exact ⟨_, _, _, _, _, _, _, _, _, rfl, HBX2.out⟩)
      case rest =>
        obtain ⟨w3, hwc⟩ : ∃ v, v = wc := ⟨_, rfl⟩
        subst hwc
        obtain ⟨ge, lo, hi, AR, nR, cR, AC, nC, cC, rfl, hbx⟩ := hcut
        have HBX := Lib.hid hbx
        clear hbx MKS Hal Hcd HSU
        have HB3 : Hid (Below w1.heap.size w1 w3) := Lib.hid (HB2.out.trans (HBX.out.2.2.2.2.2.2.2.mono HB2.out.size))
        have HNR : Hid (nR = E.length) := Lib.hid (by have h := HBX.out.1.len; simpa using h.symm)
        have HRK := Lib.hid (fun u => ecRank_any p AR AC nR cR nC cC u)
        have MKS : Hid (∀ u, Below w3.heap.size w3 u → ((u.cell? ⟨g, 0, none⟩ = some (.int .i64 p) ∧ u.cell? ⟨g, 1, none⟩ = some (.int .i64 C) ∧ u.cell? ⟨g, 2, none⟩ = some (.int .i64 C) ∧ u.cell? ⟨g, 3, none⟩ = some (.slice A n k)) ∧ u.cell? ⟨ge, 0, none⟩ = some (.int .i64 p) ∧ u.cell? ⟨ge, 1, none⟩ = some (.slice AR nR cR) ∧ u.cell? ⟨ge, 2, none⟩ = some (.slice AC nC cC))) := Lib.hid (fun u hb => ⟨cells4 (HK0.out.below (HB3.out.trans (hb.mono HB3.out.size)) HK0.out.lt), (HBX.out.below hb).2.2.1.cell 0, (HBX.out.below hb).2.2.1.cell 1, (HBX.out.below hb).2.2.1.cell 2⟩)
        have HKd : Hid ((w3.drew.cell? ⟨g, 0, none⟩ = some (.int .i64 p) ∧ w3.drew.cell? ⟨g, 1, none⟩ = some (.int .i64 C) ∧ w3.drew.cell? ⟨g, 2, none⟩ = some (.int .i64 C) ∧ w3.drew.cell? ⟨g, 3, none⟩ = some (.slice A n k)) ∧ w3.drew.cell? ⟨ge, 0, none⟩ = some (.int .i64 p) ∧ w3.drew.cell? ⟨ge, 1, none⟩ = some (.slice AR nR cR) ∧ w3.drew.cell? ⟨ge, 2, none⟩ = some (.slice AC nC cC)) := Lib.hid (MKS.out _ ((Below.refl _ _).drew))
        have HKn := Lib.hid (MKS.out _ (Below.refl _ _))
        go_upto_region 4 with fail
        go_region_held3 (fun u => (u.cell? ⟨g, 0, none⟩ = some (.int .i64 p) ∧ u.cell? ⟨g, 1, none⟩ = some (.int .i64 C) ∧ u.cell? ⟨g, 2, none⟩ = some (.int .i64 C) ∧ u.cell? ⟨g, 3, none⟩ = some (.slice A n k)) ∧ u.cell? ⟨ge, 0, none⟩ = some (.int .i64 p) ∧ u.cell? ⟨ge, 1, none⟩ = some (.slice AR nR cR) ∧ u.cell? ⟨ge, 2, none⟩ = some (.slice AC nC cC))
          (first | with_reducible exact HKd.out | with_reducible exact HKn.out | with_reducible exact KA)
          (first
            | (go_at_call 129
               with_reducible refine (HRK.out _).mono ?_
               rintro e w4 ⟨rfl, hb4⟩
               have HB4 : Hid (Below w3.heap.size w3 w4) := Lib.hid (((Below.refl _ _).drew).trans hb4)
               have KA := MKS.out w4 HB4.out
               clear hb4))
        clear HKd HKn
        have HBX4 := Lib.hid (HBX.out.below HB4.out)
        have HB14 : Hid (Below w1.heap.size w1 w4) := Lib.hid (HB3.out.trans (HB4.out.mono HB3.out.size))
        have HR4 := Lib.hid (HK1.out.below HB14.out HK1.out.lt)
        have MKS4 : Hid (∀ u, Below w4.heap.size w4 u → ((u.cell? ⟨g, 0, none⟩ = some (.int .i64 p) ∧ u.cell? ⟨g, 1, none⟩ = some (.int .i64 C) ∧ u.cell? ⟨g, 2, none⟩ = some (.int .i64 C) ∧ u.cell? ⟨g, 3, none⟩ = some (.slice A n k)) ∧ u.cell? ⟨ge, 0, none⟩ = some (.int .i64 p) ∧ u.cell? ⟨ge, 1, none⟩ = some (.slice AR nR cR) ∧ u.cell? ⟨ge, 2, none⟩ = some (.slice AC nC cC))) := Lib.hid (fun u hb => MKS.out u (HB4.out.trans (hb.mono HB4.out.size)))
        clear MKS KA HRK
        by_cases hfu : E.length = C
        case neg =>
          have hnI : (nR : Int) < (C : Int) := by have := HNR.out; omega
          have HFW : Hid (flgW p C C xs = []) := Lib.hid (by unfold flgW; rw [if_neg (by rw [HFN.out hfu]; decide)])
          obtain rfl : ok = false := by rw [hz.1, HFN.out hfu]
          obtain ⟨rfl, rfl, rfl, rfl⟩ := hz.2.2 rfl
          clear hz
          go_wp2_with (first
            | (refine wpList_store_rowP rfl 76 (.tmp 2) (.tmp 26) rfl (g + 1) #[.int .i64 0, .int .i64 0, .int .i64 0, .slice none 0 0, .slice none 0 0] rfl rfl 76 #[.int .i64 0, .int .i64 0, .int .i64 0, .slice none 0 0, .slice none 0 0] HR4.out Try.infoNf rfl (by simp [Value.oneCell']) ?_; intro w5 hb5 hg5)
            | fail)
          refine bodyPost_ret (results_mx_tmp Try.results59 _ _ _ 76 #[.int .i64 0, .int .i64 0, .int .i64 0, .slice none 0 0, .slice none 0 0] _ rfl hb5 Try.underlying76 rfl Try.infoNf) rfl ?_
          rw [HFW.out]
          exact FreshNf.zero (HB.out.trans (HB14.out.mono HB.out.size)) (by have := HG.out; omega) hg5
        case pos =>
          have hnI : ¬ (nR : Int) < (C : Int) := by have := HNR.out; omega
          obtain rfl : ok = true := by rw [hz.1, HFB.out hfu]
          obtain ⟨rfl, rfl, rfl, rfl⟩ := hz.2.1 rfl
          have HFW : Hid (flgW zp C C xs = E.map (·.2)) := Lib.hid (by unfold flgW nfW; rw [if_pos (HFB.out hfu), HE.out]; simp only [Int.toNat_natCast])
          have HNX : Hid (nfX zp (C : Int).toNat xs = flatK C C (E.map (·.1)) C) := Lib.hid (by rw [HE.out]; simp [nfX])
          clear hz
          obtain ⟨X, hX⟩ : ∃ X, X = flatK C C (E.map (·.1)) C := ⟨_, rfl⟩
          have hnRC : nR = C := by have := HNR.out; omega
          have HMX := Lib.hid (fun u (hb : Below w4.heap.size w4 u) => matrixOf_any zp C C cR AR (E.map (·.1)) u (by have h := (HBX4.out.below hb).1.si; rw [hnRC] at h; exact h) ⟨hC0, by omega⟩ (by omega) (fun x hx => by obtain ⟨e, he, rfl⟩ := List.mem_map.1 hx; exact (HEOK.out.1 e he).1))
          rw [← hX] at HMX
          have HX := Lib.hid hX
          subst hnRC
          clear hX hfu
          have HKd : Hid ((w4.drew.cell? ⟨g, 0, none⟩ = some (.int .i64 zp) ∧ w4.drew.cell? ⟨g, 1, none⟩ = some (.int .i64 nR) ∧ w4.drew.cell? ⟨g, 2, none⟩ = some (.int .i64 nR) ∧ w4.drew.cell? ⟨g, 3, none⟩ = some (.slice A n k)) ∧ w4.drew.cell? ⟨ge, 0, none⟩ = some (.int .i64 zp) ∧ w4.drew.cell? ⟨ge, 1, none⟩ = some (.slice AR nR cR) ∧ w4.drew.cell? ⟨ge, 2, none⟩ = some (.slice AC nC cC)) := Lib.hid (MKS4.out _ ((Below.refl _ _).drew))
          have HKn := Lib.hid (MKS4.out _ (Below.refl _ _))
          go_upto_region 6 with fail
          go_region_held3 (fun u => (u.cell? ⟨g, 0, none⟩ = some (.int .i64 zp) ∧ u.cell? ⟨g, 1, none⟩ = some (.int .i64 nR) ∧ u.cell? ⟨g, 2, none⟩ = some (.int .i64 nR) ∧ u.cell? ⟨g, 3, none⟩ = some (.slice A n k)) ∧ u.cell? ⟨ge, 0, none⟩ = some (.int .i64 zp) ∧ u.cell? ⟨ge, 1, none⟩ = some (.slice AR nR cR) ∧ u.cell? ⟨ge, 2, none⟩ = some (.slice AC nC cC))
            (first | with_reducible exact HKd.out | with_reducible exact HKn.out | with_reducible exact KA | with_reducible exact KZ | exact KZ)
            (first
              | (go_at_call 130
                 with_reducible refine (HMX.out _ ((Below.refl _ _).drew)).mono ?_
                 rintro e w6 ⟨A6, n6, k6, rfl, ho6, hb6⟩
                 have HB6 : Hid (Below w4.heap.size w4 w6) := Lib.hid (((Below.refl _ _).drew).trans hb6)
                 have HO6 : Hid (Own w6 w4.heap.size w6.heap.size A6 n6 k6 X) := Lib.hid ho6
                 have KA := MKS4.out w6 HB6.out
                 have HR6 := Lib.hid (HR4.out.below HB6.out HR4.out.lt)
                 have rr0 := HR6.out.cell 0
                 have rr1 := HR6.out.cell 1
                 have rr2 := HR6.out.cell 2
                 have rr3 := HR6.out.cell 3
                 have rr4 := HR6.out.cell 4
                 have ff0 := HR6.out.frozen 0
                 have ff1 := HR6.out.frozen 1
                 have ff2 := HR6.out.frozen 2
                 have ff3 := HR6.out.frozen 3
                 have ff4 := HR6.out.frozen 4
                 have HGP := Lib.hid (grown_put5 w6 (g + 1) (.int .i64 zp) (.int .i64 nR) (.int .i64 nR) (.slice A6 n6 k6) (.slice AC nC cC))
                 have HRP : Hid (Blk (((((w6.setCell ⟨g + 1, 0, none⟩ (.int .i64 zp)).setCell ⟨g + 1, 1, none⟩ (.int .i64 nR)).setCell ⟨g + 1, 2, none⟩ (.int .i64 nR)).setCell ⟨g + 1, 3, none⟩ (.slice A6 n6 k6)).setCell ⟨g + 1, 4, none⟩ (.slice AC nC cC)) (g + 1) 76 #[.int .i64 zp, .int .i64 nR, .int .i64 nR, .slice A6 n6 k6, .slice AC nC cC]) := Lib.hid (((((HR6.out.set_ 0 _).set_ 1 _).set_ 2 _).set_ 3 _).set_ 4 _)
                 have hge : ge ≠ g + 1 := by have := HBX.out.2.2.2.2.2.2.1; have := HB2.out.size; have := HSZ.out; omega
                 have KZ : ((((((w6.setCell ⟨g + 1, 0, none⟩ (.int .i64 zp)).setCell ⟨g + 1, 1, none⟩ (.int .i64 nR)).setCell ⟨g + 1, 2, none⟩ (.int .i64 nR)).setCell ⟨g + 1, 3, none⟩ (.slice A6 n6 k6)).setCell ⟨g + 1, 4, none⟩ (.slice AC nC cC)).cell? ⟨g, 0, none⟩ = some (.int .i64 zp) ∧ (((((w6.setCell ⟨g + 1, 0, none⟩ (.int .i64 zp)).setCell ⟨g + 1, 1, none⟩ (.int .i64 nR)).setCell ⟨g + 1, 2, none⟩ (.int .i64 nR)).setCell ⟨g + 1, 3, none⟩ (.slice A6 n6 k6)).setCell ⟨g + 1, 4, none⟩ (.slice AC nC cC)).cell? ⟨g, 1, none⟩ = some (.int .i64 nR) ∧ (((((w6.setCell ⟨g + 1, 0, none⟩ (.int .i64 zp)).setCell ⟨g + 1, 1, none⟩ (.int .i64 nR)).setCell ⟨g + 1, 2, none⟩ (.int .i64 nR)).setCell ⟨g + 1, 3, none⟩ (.slice A6 n6 k6)).setCell ⟨g + 1, 4, none⟩ (.slice AC nC cC)).cell? ⟨g, 2, none⟩ = some (.int .i64 nR) ∧ (((((w6.setCell ⟨g + 1, 0, none⟩ (.int .i64 zp)).setCell ⟨g + 1, 1, none⟩ (.int .i64 nR)).setCell ⟨g + 1, 2, none⟩ (.int .i64 nR)).setCell ⟨g + 1, 3, none⟩ (.slice A6 n6 k6)).setCell ⟨g + 1, 4, none⟩ (.slice AC nC cC)).cell? ⟨g, 3, none⟩ = some (.slice A n k)) ∧ (((((w6.setCell ⟨g + 1, 0, none⟩ (.int .i64 zp)).setCell ⟨g + 1, 1, none⟩ (.int .i64 nR)).setCell ⟨g + 1, 2, none⟩ (.int .i64 nR)).setCell ⟨g + 1, 3, none⟩ (.slice A6 n6 k6)).setCell ⟨g + 1, 4, none⟩ (.slice AC nC cC)).cell? ⟨ge, 0, none⟩ = some (.int .i64 zp) ∧ (((((w6.setCell ⟨g + 1, 0, none⟩ (.int .i64 zp)).setCell ⟨g + 1, 1, none⟩ (.int .i64 nR)).setCell ⟨g + 1, 2, none⟩ (.int .i64 nR)).setCell ⟨g + 1, 3, none⟩ (.slice A6 n6 k6)).setCell ⟨g + 1, 4, none⟩ (.slice AC nC cC)).cell? ⟨ge, 1, none⟩ = some (.slice AR nR cR) ∧ (((((w6.setCell ⟨g + 1, 0, none⟩ (.int .i64 zp)).setCell ⟨g + 1, 1, none⟩ (.int .i64 nR)).setCell ⟨g + 1, 2, none⟩ (.int .i64 nR)).setCell ⟨g + 1, 3, none⟩ (.slice A6 n6 k6)).setCell ⟨g + 1, 4, none⟩ (.slice AC nC cC)).cell? ⟨ge, 2, none⟩ = some (.slice AC nC cC) := ⟨cells4 ((HK0.out.below (HB14.out.trans (HB6.out.mono HB14.out.size)) HK0.out.lt).grown HGP.out (fun e => by injection e with e; omega)), ((HBX4.out.below HB6.out).2.2.1.grown HGP.out (fun e => by injection e with e; omega)).cell 0, ((HBX4.out.below HB6.out).2.2.1.grown HGP.out (fun e => by injection e with e; omega)).cell 1, ((HBX4.out.below HB6.out).2.2.1.grown HGP.out (fun e => by injection e with e; omega)).cell 2⟩
                 clear ho6 hb6 hge))
          go_wp2
          refine bodyPost_ret (results_mx_tmp Try.results59 _ _ _ 76 #[.int .i64 zp, .int .i64 nR, .int .i64 nR, .slice A6 n6 k6, .slice AC nC cC] _ rfl HRP.out Try.underlying76 rfl Try.infoNf) rfl ?_
          have l1 := HSZ.out
          have l2 := HG.out
          have l3 := HGP.out.size
          have l4 := HB.out.size
          have l5 := HB14.out.size
          have l6 := HB6.out.size
          have l7 := (HBX4.out.below HB6.out).2.2.2.1
          have l8 := (HBX4.out.below HB6.out).2.2.2.2.1
          have l9 := HB2.out.size
          refine ⟨A6, n6, k6, AC, nC, cC, rfl, ?_, ?_, ?_⟩
          · rw [HNX.out, ← HX.out]; exact (HO6.out.grown HGP.out (fun q hq => by injection hq with hq; omega)).wide (by omega) (by omega)
          · rw [HFW.out]; exact ((HBX4.out.below HB6.out).2.1.grown HGP.out (fun q hq => by injection hq with hq; omega)).wide (by omega) (by omega)
          · exact ((HB.out.trans (HB14.out.mono l4)).trans (HB6.out.mono (by omega))).grown HGP.out (by omega) (by rintro q ⟨⟩; omega)

end Go.Proofs.Ytfaegfhbbkicgaa

/-
  A flag beside a space, on the program's side. Conditions: lengths below 2^40.
-/





namespace Go.Proofs.Ytfaegfhbbkicgaa
open Go.RowKit

set_option maxRecDepth 100000 in
set_option maxHeartbeats 16000000 in
theorem flagBeside_z (p r c p' r' c' : Int) (A A' : Option Addr) (n k n' k' : Nat) (xs ys : List Int) (w : World) (hs : SI w A n xs) (hs' : SI w A' n' ys) (hn : n ≤ 1099511627776) (hn' : n' ≤ 1099511627776) (hnk : n ≤ k) (hnk' : n' ≤ k') (zp zr zc : Int) (z : List Int) (ok : Bool) (hz : NfIs p' r' c' ys zp zr zc z ok) :
    Calls Try.prog 66 #[.agg #[.int .i64 p, .int .i64 r, .int .i64 c, .slice A n k], .agg #[.int .i64 p', .int .i64 r', .int .i64 c', .slice A' n' k']] w fun e w' => FreshNf w w' e zp zr zc z (flgW p' r' c' ys) (besideB p r c xs p' r' c' ys) := by
  obtain ⟨w1, hw1⟩ : ∃ w1, w1 = (((w.alloc (.cells #[.int .i64 p, .int .i64 r, .int .i64 c, .slice A n k] 27)).alloc (.cells #[.int .i64 p', .int .i64 r', .int .i64 c', .slice A' n' k'] 27)).alloc (.cells #[.int .i64 0, .int .i64 0, .int .i64 0, .slice none 0 0, .slice none 0 0] 76)) := ⟨_, rfl⟩
  obtain ⟨g, hg⟩ : ∃ g, g = w.heap.size := ⟨_, rfl⟩
  have HK0 : Hid (Blk w1 (g) 27 #[.int .i64 p, .int .i64 r, .int .i64 c, .slice A n k]) := Lib.hid (by rw [hw1, hg]; have := ((Blk.new w 27 #[.int .i64 p, .int .i64 r, .int .i64 c, .slice A n k]).alloc (.cells #[.int .i64 p', .int .i64 r', .int .i64 c', .slice A' n' k'] 27)).alloc (.cells #[.int .i64 0, .int .i64 0, .int .i64 0, .slice none 0 0, .slice none 0 0] 76); simpa using this)
  have HK1 : Hid (Blk w1 (g + 1) 27 #[.int .i64 p', .int .i64 r', .int .i64 c', .slice A' n' k']) := Lib.hid (by rw [hw1, hg]; have := (Blk.new (w.alloc (.cells #[.int .i64 p, .int .i64 r, .int .i64 c, .slice A n k] 27)) 27 #[.int .i64 p', .int .i64 r', .int .i64 c', .slice A' n' k']).alloc (.cells #[.int .i64 0, .int .i64 0, .int .i64 0, .slice none 0 0, .slice none 0 0] 76); simpa using this)
  have HK2 : Hid (Blk w1 (g + 2) 76 #[.int .i64 0, .int .i64 0, .int .i64 0, .slice none 0 0, .slice none 0 0]) := Lib.hid (by rw [hw1, hg]; have := Blk.new ((w.alloc (.cells #[.int .i64 p, .int .i64 r, .int .i64 c, .slice A n k] 27)).alloc (.cells #[.int .i64 p', .int .i64 r', .int .i64 c', .slice A' n' k'] 27)) 76 #[.int .i64 0, .int .i64 0, .int .i64 0, .slice none 0 0, .slice none 0 0]; simpa using this)
  have hb : Below w.heap.size w w1 := by rw [hw1]; go_grown
  have HB := Lib.hid hb
  have HW := Lib.hid hw1
  have HG := Lib.hid hg
  have HSZ : Hid (w1.heap.size = g + 3) := Lib.hid (by rw [hw1, hg]; simp)
  have HSA := Lib.hid (hs.below hb (Nat.le_refl _))
  have HFO := Lib.hid (flagOf_z p' r' c' A' n' k' ys w1 (hs'.below hb (Nat.le_refl _)) hn' hnk' zp zr zc z ok hz)
  have HIS := Lib.hid (fun u (hu : Below w1.heap.size w1 u) => implIsSpace_any p r c A n k xs u (HSA.out.below hu (Nat.le_refl _)) hn hnk)
  obtain ⟨W, hW⟩ : ∃ W, W = flgW p' r' c' ys := ⟨_, rfl⟩
  rw [← hW] at HFO ⊢
  have HOK := Lib.hid hz.1
  clear hw1 hg hb hs hs' hz hW
  cases ok with
  | false =>
    have HV : Hid (besideB p r c xs p' r' c' ys = false) := Lib.hid (by unfold besideB; rw [← HOK.out]; simp)
    clear HOK
    go_enter Try.func66, Try.ntmps66
    go_upto_region 1 with fail
    rw [← HW.out, ← HG.out]
    go_upto_region 2 with (first
      | (refine wpList_load_rowP rfl 27 (.tmp 3) rfl (g + 1) rfl 27 #[.int .i64 p', .int .i64 r', .int .i64 c', .slice A' n' k'] _ HK1.out Try.underlying27 rfl Try.infoMx ?_)
      | (go_at_call 59
         with_reducible refine (HFO.out).mono ?_
         rintro e w2 ⟨P3, m3, d3, AC, nC, cC, rfl, ho2, hc2, hb2⟩
         have HO2 := Lib.hid ho2
         have HC2 := Lib.hid hc2
         have HB2 := Lib.hid hb2
         clear ho2 hc2 hb2)
      | (refine wpList_store_rowP rfl 76 (.tmp 6) (.tmp 11) rfl w2.heap.size #[.int .i64 zp, .int .i64 zr, .int .i64 zc, .slice P3 m3 d3, .slice AC nC cC] rfl rfl 76 #[.int .i64 0, .int .i64 0, .int .i64 0, .slice none 0 0, .slice none 0 0] (Blk.new _ _ _) Try.infoNf rfl (by simp [Value.oneCell']) ?_; intro w3 hb3 hg3)
      | fail)
    have hz3 : w2.heap.size < w3.heap.size := hb3.lt
    have HB3 : Hid (Below w1.heap.size w1 w3) := Lib.hid ((HB2.out.alloc HB2.out.size _).grown hg3 (by have := HB2.out.size; simp; omega) (by rintro q ⟨⟩; exact HB2.out.size))
    have HO3 : Hid (Own w3 w1.heap.size w2.heap.size P3 m3 d3 z) := Lib.hid ((HO2.out.below (Below.alloc_self _ _) (Nat.le_refl _)).grown hg3 (fun q hq => by injection hq with hq; omega))
    have HC3 : Hid (Own w3 w1.heap.size w2.heap.size AC nC cC W) := Lib.hid ((HC2.out.below (Below.alloc_self _ _) (Nat.le_refl _)).grown hg3 (fun q hq => by injection hq with hq; omega))
    obtain ⟨gb, hgb⟩ : ∃ q, q = w2.heap.size := ⟨_, rfl⟩
    rw [← hgb] at hb3 HO3 HC3 hz3 ⊢
    have HKB := Lib.hid hb3
    have HZ3 : Hid (w1.heap.size ≤ gb ∧ gb < w3.heap.size) := Lib.hid ⟨by have := HB2.out.size; omega, hz3⟩
    have HR3 := Lib.hid (HK2.out.below HB3.out HK2.out.lt)
    clear hb3 hg3 hz3 hgb HO2 HC2 HB2
    have HPUT : Hid (∀ u, Blk u (g + 2) 76 #[.int .i64 0, .int .i64 0, .int .i64 0, .slice none 0 0, .slice none 0 0] → Blk (((((u.setCell ⟨g + 2, 0, none⟩ (.int .i64 zp)).setCell ⟨g + 2, 1, none⟩ (.int .i64 zr)).setCell ⟨g + 2, 2, none⟩ (.int .i64 zc)).setCell ⟨g + 2, 3, none⟩ (.slice P3 m3 d3)).setCell ⟨g + 2, 4, none⟩ (.slice AC nC cC)) (g + 2) 76 #[.int .i64 zp, .int .i64 zr, .int .i64 zc, .slice P3 m3 d3, .slice AC nC cC]) := Lib.hid (fun u h => ((((h.set_ 0 _).set_ 1 _).set_ 2 _).set_ 3 _).set_ 4 _)
    have MKS : Hid (∀ u, Blk u g 27 #[.int .i64 p, .int .i64 r, .int .i64 c, .slice A n k] → Blk u (g + 1) 27 #[.int .i64 p', .int .i64 r', .int .i64 c', .slice A' n' k'] → Blk u gb 76 #[.int .i64 zp, .int .i64 zr, .int .i64 zc, .slice P3 m3 d3, .slice AC nC cC] → (u.cell? ⟨g, 0, none⟩ = some (.int .i64 p) ∧ u.cell? ⟨g, 1, none⟩ = some (.int .i64 r) ∧ u.cell? ⟨g, 2, none⟩ = some (.int .i64 c) ∧ u.cell? ⟨g, 3, none⟩ = some (.slice A n k) ∧ u.cell? ⟨g + 1, 0, none⟩ = some (.int .i64 p') ∧ u.cell? ⟨g + 1, 1, none⟩ = some (.int .i64 r') ∧ u.cell? ⟨g + 1, 2, none⟩ = some (.int .i64 c') ∧ u.cell? ⟨g + 1, 3, none⟩ = some (.slice A' n' k') ∧ u.cell? ⟨gb, 0, none⟩ = some (.int .i64 zp) ∧ u.cell? ⟨gb, 1, none⟩ = some (.int .i64 zr) ∧ u.cell? ⟨gb, 2, none⟩ = some (.int .i64 zc) ∧ u.cell? ⟨gb, 3, none⟩ = some (.slice P3 m3 d3) ∧ u.cell? ⟨gb, 4, none⟩ = some (.slice AC nC cC))) := Lib.hid (fun u h0 h1 h2 => by obtain ⟨a0, a1, a2, a3⟩ := cells4 h0; obtain ⟨b0, b1, b2, b3⟩ := cells4 h1; exact ⟨a0, a1, a2, a3, b0, b1, b2, b3, h2.cell 0, h2.cell 1, h2.cell 2, h2.cell 3, h2.cell 4⟩)
    have HQ0 := Lib.hid (HK0.out.below HB3.out HK0.out.lt)
    have HQ1 := Lib.hid (HK1.out.below HB3.out HK1.out.lt)
    have HKd : Hid (w3.drew.cell? ⟨g, 0, none⟩ = some (.int .i64 p) ∧ w3.drew.cell? ⟨g, 1, none⟩ = some (.int .i64 r) ∧ w3.drew.cell? ⟨g, 2, none⟩ = some (.int .i64 c) ∧ w3.drew.cell? ⟨g, 3, none⟩ = some (.slice A n k) ∧ w3.drew.cell? ⟨g + 1, 0, none⟩ = some (.int .i64 p') ∧ w3.drew.cell? ⟨g + 1, 1, none⟩ = some (.int .i64 r') ∧ w3.drew.cell? ⟨g + 1, 2, none⟩ = some (.int .i64 c') ∧ w3.drew.cell? ⟨g + 1, 3, none⟩ = some (.slice A' n' k') ∧ w3.drew.cell? ⟨gb, 0, none⟩ = some (.int .i64 zp) ∧ w3.drew.cell? ⟨gb, 1, none⟩ = some (.int .i64 zr) ∧ w3.drew.cell? ⟨gb, 2, none⟩ = some (.int .i64 zc) ∧ w3.drew.cell? ⟨gb, 3, none⟩ = some (.slice P3 m3 d3) ∧ w3.drew.cell? ⟨gb, 4, none⟩ = some (.slice AC nC cC)) := Lib.hid (MKS.out w3 HQ0.out HQ1.out HKB.out)
    have HKn := Lib.hid (MKS.out w3 HQ0.out HQ1.out HKB.out)
    have hWd : Below w3.heap.size w3 w3.drew := (Below.refl _ _).drew
    have hBd : Below w1.heap.size w1 w3.drew := HB3.out.drew
    have hRd : Blk w3.drew (g + 2) 76 #[.int .i64 0, .int .i64 0, .int .i64 0, .slice none 0 0, .slice none 0 0] := HR3.out
    have HKn2 := HKd.out
    clear HKd HKn
    refine wp_region_held_drew (S := fun u => u.cell? ⟨g, 0, none⟩ = some (.int .i64 p) ∧ u.cell? ⟨g, 1, none⟩ = some (.int .i64 r) ∧ u.cell? ⟨g, 2, none⟩ = some (.int .i64 c) ∧ u.cell? ⟨g, 3, none⟩ = some (.slice A n k) ∧ u.cell? ⟨g + 1, 0, none⟩ = some (.int .i64 p') ∧ u.cell? ⟨g + 1, 1, none⟩ = some (.int .i64 r') ∧ u.cell? ⟨g + 1, 2, none⟩ = some (.int .i64 c') ∧ u.cell? ⟨g + 1, 3, none⟩ = some (.slice A' n' k') ∧ u.cell? ⟨gb, 0, none⟩ = some (.int .i64 zp) ∧ u.cell? ⟨gb, 1, none⟩ = some (.int .i64 zr) ∧ u.cell? ⟨gb, 2, none⟩ = some (.int .i64 zc) ∧ u.cell? ⟨gb, 3, none⟩ = some (.slice P3 m3 d3) ∧ u.cell? ⟨gb, 4, none⟩ = some (.slice AC nC cC)) (by kernel_rfl) HKn2 (fun hHeld => ?_)
    clear HKn2
    generalize w3.drew = w4 at *
    have HWd := Lib.hid hWd
    have HBd := Lib.hid hBd
    have HRd := Lib.hid hRd
    clear hWd hBd hRd
    have hgne : g ≠ g + 2 ∧ g + 1 ≠ g + 2 ∧ gb ≠ g + 2 := by have := HZ3.out; have := HSZ.out; omega
    have hgp := grown_put5 w4 (g + 2) (.int .i64 zp) (.int .i64 zr) (.int .i64 zc) (.slice P3 m3 d3) (.slice AC nC cC)
    have KZ := MKS.out _ ((HQ0.out.below HWd.out HQ0.out.lt).grown hgp (fun e => by injection e with e; omega)) ((HQ1.out.below HWd.out HQ1.out.lt).grown hgp (fun e => by injection e with e; omega)) ((HKB.out.below HWd.out HKB.out.lt).grown hgp (fun e => by injection e with e; omega))
    clear hgne hgp
    have HKZ := Lib.hid KZ
    clear KZ
    refine wpAnyH_take (i := 0) (v := ?va0) rfl (by kernel_rfl) (by kernel_rfl) (by kernel_rfl) (fun _ _ _ h => h) (Or.inl ⟨by rfl, ?hya0⟩) hHeld ?ra0
    case hya0 => (intro w hSw; (try dsimp only at hSw); simp only [List.getElem_toArray, List.getElem_cons_zero]; go_simp; try with_reducible rfl)
    try simp only [Act.put, List.getElem_toArray, List.getElem_cons_zero, List.setIfInBounds_toArray, List.set_cons_zero, List.set_cons_succ]
    refine wpAnyH_take (i := 1) (v := ?va1) rfl (by kernel_rfl) (by kernel_rfl) (by kernel_rfl) (fun _ _ _ h => h) (Or.inl ⟨by rfl, ?hya1⟩) hHeld ?ra1
    case hya1 => (intro w hSw; (try dsimp only at hSw); simp only [List.getElem_toArray, List.getElem_cons_zero, List.getElem_cons_succ]; go_simp; try with_reducible rfl)
    try simp only [Act.put, List.getElem_toArray, List.getElem_cons_zero, List.getElem_cons_succ, List.setIfInBounds_toArray, List.set_cons_zero, List.set_cons_succ]
    refine wpAnyH_take (i := 2) (v := ?va2) rfl (by kernel_rfl) (by kernel_rfl) (by kernel_rfl) (fun _ _ _ h => h) (Or.inl ⟨by rfl, ?hya2⟩) hHeld ?ra2
    case hya2 => (intro w hSw; (try dsimp only at hSw); simp only [List.getElem_toArray, List.getElem_cons_zero, List.getElem_cons_succ]; go_simp; try with_reducible rfl)
    try simp only [Act.put, List.getElem_toArray, List.getElem_cons_zero, List.getElem_cons_succ, List.setIfInBounds_toArray, List.set_cons_zero, List.set_cons_succ]
    refine wpAnyH_take (i := 3) rfl (by kernel_rfl) (by kernel_rfl) (by kernel_rfl) (fun _ _ _ h => h) (Or.inr ⟨by rfl, rfl⟩) hHeld ?ra3
    try simp only [Act.put, List.getElem_toArray, List.getElem_cons_zero, List.getElem_cons_succ, List.setIfInBounds_toArray, List.set_cons_zero, List.set_cons_succ]
    refine wpAnyH_take (i := 4) rfl (by kernel_rfl) (by kernel_rfl) (by kernel_rfl) (fun _ _ _ h => h) (Or.inr ⟨by rfl, rfl⟩) hHeld ?ra4
    try simp only [Act.put, List.getElem_toArray, List.getElem_cons_zero, List.getElem_cons_succ, List.setIfInBounds_toArray, List.set_cons_zero, List.set_cons_succ]
    refine wpAnyH_take (i := 5) (v := ?va5) rfl (by kernel_rfl) (by kernel_rfl) (by kernel_rfl) (fun _ _ _ h => h) (Or.inl ⟨by rfl, ?hya5⟩) hHeld ?ra5
    case hya5 => (intro w hSw; (try dsimp only at hSw); simp only [List.getElem_toArray, List.getElem_cons_zero, List.getElem_cons_succ]; go_simp; try with_reducible rfl)
    try simp only [Act.put, List.getElem_toArray, List.getElem_cons_zero, List.getElem_cons_succ, List.setIfInBounds_toArray, List.set_cons_zero, List.set_cons_succ]
    refine wpAnyH_take (i := 6) (v := ?va6) rfl (by kernel_rfl) (by kernel_rfl) (by kernel_rfl) (fun _ _ _ h => h) (Or.inl ⟨by rfl, ?hya6⟩) hHeld ?ra6
    case hya6 => (intro w hSw; (try dsimp only at hSw); simp only [List.getElem_toArray, List.getElem_cons_zero, List.getElem_cons_succ]; go_simp; try with_reducible rfl)
    try simp only [Act.put, List.getElem_toArray, List.getElem_cons_zero, List.getElem_cons_succ, List.setIfInBounds_toArray, List.set_cons_zero, List.set_cons_succ]
    refine wpAnyH_take (i := 7) rfl (by kernel_rfl) (by kernel_rfl) (by kernel_rfl) (fun _ _ _ h => h) (Or.inr ⟨by rfl, rfl⟩) hHeld ?ra7
    try simp only [Act.put, List.getElem_toArray, List.getElem_cons_zero, List.getElem_cons_succ, List.setIfInBounds_toArray, List.set_cons_zero, List.set_cons_succ]
    refine wpAnyH_take (i := 8) rfl (by kernel_rfl) (by kernel_rfl) (by kernel_rfl) (fun _ _ _ h => h) (Or.inr ⟨by rfl, rfl⟩) hHeld ?ra8
    try simp only [Act.put, List.getElem_toArray, List.getElem_cons_zero, List.getElem_cons_succ, List.setIfInBounds_toArray, List.set_cons_zero, List.set_cons_succ]
    refine wpAnyH_take (i := 9) rfl (by kernel_rfl) (by kernel_rfl) (by kernel_rfl) (fun _ _ _ h => h) (Or.inr ⟨by rfl, rfl⟩) hHeld ?ra9
    try simp only [Act.put, List.getElem_toArray, List.getElem_cons_zero, List.getElem_cons_succ, List.setIfInBounds_toArray, List.set_cons_zero, List.set_cons_succ]
    refine wpAnyH_take (i := 10) (v := ?va10) rfl (by kernel_rfl) (by kernel_rfl) (by kernel_rfl) (fun _ _ _ h => h) (Or.inl ⟨by rfl, ?hya10⟩) hHeld ?ra10
    case hya10 => (intro w hSw; (try dsimp only at hSw); simp only [List.getElem_toArray, List.getElem_cons_zero, List.getElem_cons_succ]; go_simp; try with_reducible rfl)
    try simp only [Act.put, List.getElem_toArray, List.getElem_cons_zero, List.getElem_cons_succ, List.setIfInBounds_toArray, List.set_cons_zero, List.set_cons_succ]
    refine wpAnyH_ready (rs := [11]) (by kernel_rfl) (by simp) ?_
    refine AllReadyH.cons rfl (fun K hK => ?_) AllReadyH.nil
    simp only [List.getElem_toArray, List.getElem_cons_zero, List.getElem_cons_succ]
    have rr0 := HRd.out.cell 0
    have rr1 := HRd.out.cell 1
    have rr2 := HRd.out.cell 2
    have rr3 := HRd.out.cell 3
    have rr4 := HRd.out.cell 4
    have ff0 := HRd.out.frozen 0
    have ff1 := HRd.out.frozen 1
    have ff2 := HRd.out.frozen 2
    have ff3 := HRd.out.frozen 3
    have ff4 := HRd.out.frozen 4
    go_simp
    refine hK.out _ _ ?_ (fun hHeld => ?_)
    · exact HKZ.out
    clear hK K
    refine wpAnyH_take (i := 12) (v := ?va12) rfl (by kernel_rfl) (by kernel_rfl) (by kernel_rfl) (fun _ _ _ h => h) (Or.inl ⟨by rfl, ?hya12⟩) hHeld ?ra12
    case hya12 => (intro w hSw; (try dsimp only at hSw); simp only [List.getElem_toArray, List.getElem_cons_zero, List.getElem_cons_succ]; go_simp; try with_reducible rfl)
    try simp only [Act.put, List.getElem_toArray, List.getElem_cons_zero, List.getElem_cons_succ, List.setIfInBounds_toArray, List.set_cons_zero, List.set_cons_succ]
    refine wpAnyH_done (by kernel_rfl) ?_ _
    all_goals
      (go_wp2
       refine bodyPost_ret (results_mx_tmp Try.results66 _ _ _ 76 #[.int .i64 zp, .int .i64 zr, .int .i64 zc, .slice P3 m3 d3, .slice AC nC cC] _ rfl (HPUT.out _ HRd.out) Try.underlying76 rfl Try.infoNf) rfl ?_
       have l1 := HSZ.out
       have l2 := HG.out
       have l4 := HB.out.size
       have l5 := HBd.out.size
       have l6 := HZ3.out
       have l7 := HB3.out.size
       have l8 := (HWd.out : Below w3.heap.size w3 w4).size
       have hg := grown_put5 w4 (g + 2) (.int .i64 zp) (.int .i64 zr) (.int .i64 zc) (.slice P3 m3 d3) (.slice AC nC cC)
       have l9 := hg.size
       refine ⟨P3, m3, d3, AC, nC, cC, (by rw [HV.out]; try rfl), ?_, ?_, ?_⟩
       · exact ((HO3.out.below (HWd.out : Below w3.heap.size w3 w4) (by omega)).grown hg (fun q hq => by injection hq with hq; omega)).wide (by omega) (Nat.le_trans (by omega : gb ≤ w4.heap.size) l9)
       · exact ((HC3.out.below (HWd.out : Below w3.heap.size w3 w4) (by omega)).grown hg (fun q hq => by injection hq with hq; omega)).wide (by omega) (Nat.le_trans (by omega : gb ≤ w4.heap.size) l9)
       · exact (HB.out.trans (HBd.out.mono l4)).grown hg (by omega) (by rintro q ⟨⟩; omega))
  | true =>
    cases hu : isSpB p r c xs with
    | false =>
      rw [hu] at HIS
      have HV : Hid (besideB p r c xs p' r' c' ys = false) := Lib.hid (by unfold besideB; simp [hu])
      clear HOK hu
      go_enter Try.func66, Try.ntmps66
      go_upto_region 1 with fail
      rw [← HW.out, ← HG.out]
      go_upto_region 2 with (first
        | (refine wpList_load_rowP rfl 27 (.tmp 3) rfl (g + 1) rfl 27 #[.int .i64 p', .int .i64 r', .int .i64 c', .slice A' n' k'] _ HK1.out Try.underlying27 rfl Try.infoMx ?_)
        | (go_at_call 59
           with_reducible refine (HFO.out).mono ?_
           rintro e w2 ⟨P3, m3, d3, AC, nC, cC, rfl, ho2, hc2, hb2⟩
           have HO2 := Lib.hid ho2
           have HC2 := Lib.hid hc2
           have HB2 := Lib.hid hb2
           clear ho2 hc2 hb2)
        | (refine wpList_store_rowP rfl 76 (.tmp 6) (.tmp 11) rfl w2.heap.size #[.int .i64 zp, .int .i64 zr, .int .i64 zc, .slice P3 m3 d3, .slice AC nC cC] rfl rfl 76 #[.int .i64 0, .int .i64 0, .int .i64 0, .slice none 0 0, .slice none 0 0] (Blk.new _ _ _) Try.infoNf rfl (by simp [Value.oneCell']) ?_; intro w3 hb3 hg3)
        | fail)
      have hz3 : w2.heap.size < w3.heap.size := hb3.lt
      have HB3 : Hid (Below w1.heap.size w1 w3) := Lib.hid ((HB2.out.alloc HB2.out.size _).grown hg3 (by have := HB2.out.size; simp; omega) (by rintro q ⟨⟩; exact HB2.out.size))
      have HO3 : Hid (Own w3 w1.heap.size w2.heap.size P3 m3 d3 z) := Lib.hid ((HO2.out.below (Below.alloc_self _ _) (Nat.le_refl _)).grown hg3 (fun q hq => by injection hq with hq; omega))
      have HC3 : Hid (Own w3 w1.heap.size w2.heap.size AC nC cC W) := Lib.hid ((HC2.out.below (Below.alloc_self _ _) (Nat.le_refl _)).grown hg3 (fun q hq => by injection hq with hq; omega))
      obtain ⟨gb, hgb⟩ : ∃ q, q = w2.heap.size := ⟨_, rfl⟩
      rw [← hgb] at hb3 HO3 HC3 hz3 ⊢
      have HKB := Lib.hid hb3
      have HZ3 : Hid (w1.heap.size ≤ gb ∧ gb < w3.heap.size) := Lib.hid ⟨by have := HB2.out.size; omega, hz3⟩
      have HR3 := Lib.hid (HK2.out.below HB3.out HK2.out.lt)
      clear hb3 hg3 hz3 hgb HO2 HC2 HB2
      have HPUT : Hid (∀ u, Blk u (g + 2) 76 #[.int .i64 0, .int .i64 0, .int .i64 0, .slice none 0 0, .slice none 0 0] → Blk (((((u.setCell ⟨g + 2, 0, none⟩ (.int .i64 zp)).setCell ⟨g + 2, 1, none⟩ (.int .i64 zr)).setCell ⟨g + 2, 2, none⟩ (.int .i64 zc)).setCell ⟨g + 2, 3, none⟩ (.slice P3 m3 d3)).setCell ⟨g + 2, 4, none⟩ (.slice AC nC cC)) (g + 2) 76 #[.int .i64 zp, .int .i64 zr, .int .i64 zc, .slice P3 m3 d3, .slice AC nC cC]) := Lib.hid (fun u h => ((((h.set_ 0 _).set_ 1 _).set_ 2 _).set_ 3 _).set_ 4 _)
      have MKS : Hid (∀ u, Blk u g 27 #[.int .i64 p, .int .i64 r, .int .i64 c, .slice A n k] → Blk u (g + 1) 27 #[.int .i64 p', .int .i64 r', .int .i64 c', .slice A' n' k'] → Blk u gb 76 #[.int .i64 zp, .int .i64 zr, .int .i64 zc, .slice P3 m3 d3, .slice AC nC cC] → (u.cell? ⟨g, 0, none⟩ = some (.int .i64 p) ∧ u.cell? ⟨g, 1, none⟩ = some (.int .i64 r) ∧ u.cell? ⟨g, 2, none⟩ = some (.int .i64 c) ∧ u.cell? ⟨g, 3, none⟩ = some (.slice A n k) ∧ u.cell? ⟨g + 1, 0, none⟩ = some (.int .i64 p') ∧ u.cell? ⟨g + 1, 1, none⟩ = some (.int .i64 r') ∧ u.cell? ⟨g + 1, 2, none⟩ = some (.int .i64 c') ∧ u.cell? ⟨g + 1, 3, none⟩ = some (.slice A' n' k') ∧ u.cell? ⟨gb, 0, none⟩ = some (.int .i64 zp) ∧ u.cell? ⟨gb, 1, none⟩ = some (.int .i64 zr) ∧ u.cell? ⟨gb, 2, none⟩ = some (.int .i64 zc) ∧ u.cell? ⟨gb, 3, none⟩ = some (.slice P3 m3 d3) ∧ u.cell? ⟨gb, 4, none⟩ = some (.slice AC nC cC))) := Lib.hid (fun u h0 h1 h2 => by obtain ⟨a0, a1, a2, a3⟩ := cells4 h0; obtain ⟨b0, b1, b2, b3⟩ := cells4 h1; exact ⟨a0, a1, a2, a3, b0, b1, b2, b3, h2.cell 0, h2.cell 1, h2.cell 2, h2.cell 3, h2.cell 4⟩)
      have HQ0 := Lib.hid (HK0.out.below HB3.out HK0.out.lt)
      have HQ1 := Lib.hid (HK1.out.below HB3.out HK1.out.lt)
      have HKd : Hid (w3.drew.cell? ⟨g, 0, none⟩ = some (.int .i64 p) ∧ w3.drew.cell? ⟨g, 1, none⟩ = some (.int .i64 r) ∧ w3.drew.cell? ⟨g, 2, none⟩ = some (.int .i64 c) ∧ w3.drew.cell? ⟨g, 3, none⟩ = some (.slice A n k) ∧ w3.drew.cell? ⟨g + 1, 0, none⟩ = some (.int .i64 p') ∧ w3.drew.cell? ⟨g + 1, 1, none⟩ = some (.int .i64 r') ∧ w3.drew.cell? ⟨g + 1, 2, none⟩ = some (.int .i64 c') ∧ w3.drew.cell? ⟨g + 1, 3, none⟩ = some (.slice A' n' k') ∧ w3.drew.cell? ⟨gb, 0, none⟩ = some (.int .i64 zp) ∧ w3.drew.cell? ⟨gb, 1, none⟩ = some (.int .i64 zr) ∧ w3.drew.cell? ⟨gb, 2, none⟩ = some (.int .i64 zc) ∧ w3.drew.cell? ⟨gb, 3, none⟩ = some (.slice P3 m3 d3) ∧ w3.drew.cell? ⟨gb, 4, none⟩ = some (.slice AC nC cC)) := Lib.hid (MKS.out w3 HQ0.out HQ1.out HKB.out)
      have HKn := Lib.hid (MKS.out w3 HQ0.out HQ1.out HKB.out)
      have hWd : Below w3.heap.size w3 w3.drew := (Below.refl _ _).drew
      have hBd : Below w1.heap.size w1 w3.drew := HB3.out.drew
      have HKn2 := HKd.out
      clear HKd HKn
      refine wp_region_held_drew (S := fun u => u.cell? ⟨g, 0, none⟩ = some (.int .i64 p) ∧ u.cell? ⟨g, 1, none⟩ = some (.int .i64 r) ∧ u.cell? ⟨g, 2, none⟩ = some (.int .i64 c) ∧ u.cell? ⟨g, 3, none⟩ = some (.slice A n k) ∧ u.cell? ⟨g + 1, 0, none⟩ = some (.int .i64 p') ∧ u.cell? ⟨g + 1, 1, none⟩ = some (.int .i64 r') ∧ u.cell? ⟨g + 1, 2, none⟩ = some (.int .i64 c') ∧ u.cell? ⟨g + 1, 3, none⟩ = some (.slice A' n' k') ∧ u.cell? ⟨gb, 0, none⟩ = some (.int .i64 zp) ∧ u.cell? ⟨gb, 1, none⟩ = some (.int .i64 zr) ∧ u.cell? ⟨gb, 2, none⟩ = some (.int .i64 zc) ∧ u.cell? ⟨gb, 3, none⟩ = some (.slice P3 m3 d3) ∧ u.cell? ⟨gb, 4, none⟩ = some (.slice AC nC cC)) (by kernel_rfl) HKn2 (fun hHeld => ?_)
      clear HKn2
      generalize w3.drew = w4 at *
      have HWd := Lib.hid hWd
      have HBd := Lib.hid hBd
      clear hWd hBd
      refine wpAnyH_take (i := 0) (v := ?vab0) rfl (by kernel_rfl) (by kernel_rfl) (by kernel_rfl) (fun _ _ _ h => h) (Or.inl ⟨by rfl, ?hyab0⟩) hHeld ?rab0
      case hyab0 => (intro w hSw; (try dsimp only at hSw); simp only [List.getElem_toArray, List.getElem_cons_zero]; go_simp; try with_reducible rfl)
      try simp only [Act.put, List.getElem_toArray, List.getElem_cons_zero, List.setIfInBounds_toArray, List.set_cons_zero, List.set_cons_succ]
      refine wpAnyH_take (i := 1) (v := ?vab1) rfl (by kernel_rfl) (by kernel_rfl) (by kernel_rfl) (fun _ _ _ h => h) (Or.inl ⟨by rfl, ?hyab1⟩) hHeld ?rab1
      case hyab1 => (intro w hSw; (try dsimp only at hSw); simp only [List.getElem_toArray, List.getElem_cons_zero, List.getElem_cons_succ]; go_simp; try with_reducible rfl)
      try simp only [Act.put, List.getElem_toArray, List.getElem_cons_zero, List.getElem_cons_succ, List.setIfInBounds_toArray, List.set_cons_zero, List.set_cons_succ]
      refine wpAnyH_take (i := 2) (v := ?vab2) rfl (by kernel_rfl) (by kernel_rfl) (by kernel_rfl) (fun _ _ _ h => h) (Or.inl ⟨by rfl, ?hyab2⟩) hHeld ?rab2
      case hyab2 => (intro w hSw; (try dsimp only at hSw); simp only [List.getElem_toArray, List.getElem_cons_zero, List.getElem_cons_succ]; go_simp; try with_reducible rfl)
      try simp only [Act.put, List.getElem_toArray, List.getElem_cons_zero, List.getElem_cons_succ, List.setIfInBounds_toArray, List.set_cons_zero, List.set_cons_succ]
      refine wpAnyH_take (i := 3) (v := ?vab3) rfl (by kernel_rfl) (by kernel_rfl) (by kernel_rfl) (fun _ _ _ h => h) (Or.inl ⟨by rfl, ?hyab3⟩) hHeld ?rab3
      case hyab3 => (intro w hSw; (try dsimp only at hSw); simp only [List.getElem_toArray, List.getElem_cons_zero, List.getElem_cons_succ]; go_simp; try with_reducible rfl)
      try simp only [Act.put, List.getElem_toArray, List.getElem_cons_zero, List.getElem_cons_succ, List.setIfInBounds_toArray, List.set_cons_zero, List.set_cons_succ]
      refine wpAnyH_ready (rs := [4]) (by kernel_rfl) (by simp) ?_
      refine AllReadyH.cons rfl (fun K hK => ?_) AllReadyH.nil
      simp only [List.getElem_toArray, List.getElem_cons_zero, List.getElem_cons_succ]
      go_simp
      go_at_call 134
      with_reducible refine (HIS.out _ HBd.out).mono ?_
      rintro e w5 ⟨rfl, hb5⟩
      have HW5 : Hid (Below w3.heap.size w3 w5) := Lib.hid (HWd.out.trans (hb5.mono HWd.out.size))
      have HB5 : Hid (Below w1.heap.size w1 w5) := Lib.hid (HBd.out.trans (hb5.mono HBd.out.size))
      have HR5 := Lib.hid (HR3.out.below HW5.out HR3.out.lt)
      clear hb5
      try go_wp2_with fail
      refine hK.out _ _ ?_ (fun hHeld => ?_)
      · exact MKS.out w5 (HQ0.out.below HW5.out HQ0.out.lt) (HQ1.out.below HW5.out HQ1.out.lt) (HKB.out.below HW5.out HKB.out.lt)
      clear hK K
      try simp only [Act.put, List.getElem_toArray, List.getElem_cons_zero, List.getElem_cons_succ, List.setIfInBounds_toArray, List.set_cons_zero, List.set_cons_succ]
      have hgne : g ≠ g + 2 ∧ g + 1 ≠ g + 2 ∧ gb ≠ g + 2 := by have := HZ3.out; have := HSZ.out; omega
      have hgp := grown_put5 w5 (g + 2) (.int .i64 zp) (.int .i64 zr) (.int .i64 zc) (.slice P3 m3 d3) (.slice AC nC cC)
      have KZ := MKS.out _ ((HQ0.out.below HW5.out HQ0.out.lt).grown hgp (fun e => by injection e with e; omega)) ((HQ1.out.below HW5.out HQ1.out.lt).grown hgp (fun e => by injection e with e; omega)) ((HKB.out.below HW5.out HKB.out.lt).grown hgp (fun e => by injection e with e; omega))
      clear hgne hgp
      have HKZ := Lib.hid KZ
      clear KZ
      refine wpAnyH_take (i := 5) (v := ?vab5) rfl (by kernel_rfl) (by kernel_rfl) (by kernel_rfl) (fun _ _ _ h => h) (Or.inl ⟨by rfl, ?hyab5⟩) hHeld ?rab5
      case hyab5 => (intro w hSw; (try dsimp only at hSw); simp only [List.getElem_toArray, List.getElem_cons_zero, List.getElem_cons_succ]; go_simp; try with_reducible rfl)
      try simp only [Act.put, List.getElem_toArray, List.getElem_cons_zero, List.getElem_cons_succ, List.setIfInBounds_toArray, List.set_cons_zero, List.set_cons_succ]
      refine wpAnyH_take (i := 6) (v := ?vab6) rfl (by kernel_rfl) (by kernel_rfl) (by kernel_rfl) (fun _ _ _ h => h) (Or.inl ⟨by rfl, ?hyab6⟩) hHeld ?rab6
      case hyab6 => (intro w hSw; (try dsimp only at hSw); simp only [List.getElem_toArray, List.getElem_cons_zero, List.getElem_cons_succ]; go_simp; try with_reducible rfl)
      try simp only [Act.put, List.getElem_toArray, List.getElem_cons_zero, List.getElem_cons_succ, List.setIfInBounds_toArray, List.set_cons_zero, List.set_cons_succ]
      refine wpAnyH_take (i := 7) rfl (by kernel_rfl) (by kernel_rfl) (by kernel_rfl) (fun _ _ _ h => h) (Or.inr ⟨by rfl, rfl⟩) hHeld ?rab7
      try simp only [Act.put, List.getElem_toArray, List.getElem_cons_zero, List.getElem_cons_succ, List.setIfInBounds_toArray, List.set_cons_zero, List.set_cons_succ]
      refine wpAnyH_take (i := 8) rfl (by kernel_rfl) (by kernel_rfl) (by kernel_rfl) (fun _ _ _ h => h) (Or.inr ⟨by rfl, rfl⟩) hHeld ?rab8
      try simp only [Act.put, List.getElem_toArray, List.getElem_cons_zero, List.getElem_cons_succ, List.setIfInBounds_toArray, List.set_cons_zero, List.set_cons_succ]
      refine wpAnyH_take (i := 9) rfl (by kernel_rfl) (by kernel_rfl) (by kernel_rfl) (fun _ _ _ h => h) (Or.inr ⟨by rfl, rfl⟩) hHeld ?rab9
      try simp only [Act.put, List.getElem_toArray, List.getElem_cons_zero, List.getElem_cons_succ, List.setIfInBounds_toArray, List.set_cons_zero, List.set_cons_succ]
      refine wpAnyH_take (i := 10) (v := ?vab10) rfl (by kernel_rfl) (by kernel_rfl) (by kernel_rfl) (fun _ _ _ h => h) (Or.inl ⟨by rfl, ?hyab10⟩) hHeld ?rab10
      case hyab10 => (intro w hSw; (try dsimp only at hSw); simp only [List.getElem_toArray, List.getElem_cons_zero, List.getElem_cons_succ]; go_simp; try with_reducible rfl)
      try simp only [Act.put, List.getElem_toArray, List.getElem_cons_zero, List.getElem_cons_succ, List.setIfInBounds_toArray, List.set_cons_zero, List.set_cons_succ]
      refine wpAnyH_ready (rs := [11]) (by kernel_rfl) (by simp) ?_
      refine AllReadyH.cons rfl (fun K hK => ?_) AllReadyH.nil
      simp only [List.getElem_toArray, List.getElem_cons_zero, List.getElem_cons_succ]
      have rr0 := HR5.out.cell 0
      have rr1 := HR5.out.cell 1
      have rr2 := HR5.out.cell 2
      have rr3 := HR5.out.cell 3
      have rr4 := HR5.out.cell 4
      have ff0 := HR5.out.frozen 0
      have ff1 := HR5.out.frozen 1
      have ff2 := HR5.out.frozen 2
      have ff3 := HR5.out.frozen 3
      have ff4 := HR5.out.frozen 4
      go_simp
      refine hK.out _ _ ?_ (fun hHeld => ?_)
      · exact HKZ.out
      clear hK K
      refine wpAnyH_take (i := 12) (v := ?vab12) rfl (by kernel_rfl) (by kernel_rfl) (by kernel_rfl) (fun _ _ _ h => h) (Or.inl ⟨by rfl, ?hyab12⟩) hHeld ?rab12
      case hyab12 => (intro w hSw; (try dsimp only at hSw); simp only [List.getElem_toArray, List.getElem_cons_zero, List.getElem_cons_succ]; go_simp; try with_reducible rfl)
      try simp only [Act.put, List.getElem_toArray, List.getElem_cons_zero, List.getElem_cons_succ, List.setIfInBounds_toArray, List.set_cons_zero, List.set_cons_succ]
      refine wpAnyH_done (by kernel_rfl) ?_ _
      all_goals
        (go_wp2
         refine bodyPost_ret (results_mx_tmp Try.results66 _ _ _ 76 #[.int .i64 zp, .int .i64 zr, .int .i64 zc, .slice P3 m3 d3, .slice AC nC cC] _ rfl (HPUT.out _ HR5.out) Try.underlying76 rfl Try.infoNf) rfl ?_
         have l1 := HSZ.out
         have l2 := HG.out
         have l4 := HB.out.size
         have l5 := HB5.out.size
         have l6 := HZ3.out
         have l7 := HB3.out.size
         have l8 := (HW5.out : Below w3.heap.size w3 w5).size
         have hg := grown_put5 w5 (g + 2) (.int .i64 zp) (.int .i64 zr) (.int .i64 zc) (.slice P3 m3 d3) (.slice AC nC cC)
         have l9 := hg.size
         refine ⟨P3, m3, d3, AC, nC, cC, (by rw [HV.out]; try rfl), ?_, ?_, ?_⟩
         · exact ((HO3.out.below (HW5.out : Below w3.heap.size w3 w5) (by omega)).grown hg (fun q hq => by injection hq with hq; omega)).wide (by omega) (Nat.le_trans (by omega : gb ≤ w5.heap.size) l9)
         · exact ((HC3.out.below (HW5.out : Below w3.heap.size w3 w5) (by omega)).grown hg (fun q hq => by injection hq with hq; omega)).wide (by omega) (Nat.le_trans (by omega : gb ≤ w5.heap.size) l9)
         · exact (HB.out.trans (HB5.out.mono l4)).grown hg (by omega) (by rintro q ⟨⟩; omega))
    | true =>
      rw [hu] at HIS
      have HV : Hid (besideB p r c xs p' r' c' ys = (decide (p = p') && decide (c = c'))) := Lib.hid (by unfold besideB; rw [← HOK.out]; simp [hu])
      clear HOK hu
      go_enter Try.func66, Try.ntmps66
      go_upto_region 1 with fail
      rw [← HW.out, ← HG.out]
      go_upto_region 2 with (first
        | (refine wpList_load_rowP rfl 27 (.tmp 3) rfl (g + 1) rfl 27 #[.int .i64 p', .int .i64 r', .int .i64 c', .slice A' n' k'] _ HK1.out Try.underlying27 rfl Try.infoMx ?_)
        | (go_at_call 59
           with_reducible refine (HFO.out).mono ?_
           rintro e w2 ⟨P3, m3, d3, AC, nC, cC, rfl, ho2, hc2, hb2⟩
           have HO2 := Lib.hid ho2
           have HC2 := Lib.hid hc2
           have HB2 := Lib.hid hb2
           clear ho2 hc2 hb2)
        | (refine wpList_store_rowP rfl 76 (.tmp 6) (.tmp 11) rfl w2.heap.size #[.int .i64 zp, .int .i64 zr, .int .i64 zc, .slice P3 m3 d3, .slice AC nC cC] rfl rfl 76 #[.int .i64 0, .int .i64 0, .int .i64 0, .slice none 0 0, .slice none 0 0] (Blk.new _ _ _) Try.infoNf rfl (by simp [Value.oneCell']) ?_; intro w3 hb3 hg3)
        | fail)
      have hz3 : w2.heap.size < w3.heap.size := hb3.lt
      have HB3 : Hid (Below w1.heap.size w1 w3) := Lib.hid ((HB2.out.alloc HB2.out.size _).grown hg3 (by have := HB2.out.size; simp; omega) (by rintro q ⟨⟩; exact HB2.out.size))
      have HO3 : Hid (Own w3 w1.heap.size w2.heap.size P3 m3 d3 z) := Lib.hid ((HO2.out.below (Below.alloc_self _ _) (Nat.le_refl _)).grown hg3 (fun q hq => by injection hq with hq; omega))
      have HC3 : Hid (Own w3 w1.heap.size w2.heap.size AC nC cC W) := Lib.hid ((HC2.out.below (Below.alloc_self _ _) (Nat.le_refl _)).grown hg3 (fun q hq => by injection hq with hq; omega))
      obtain ⟨gb, hgb⟩ : ∃ q, q = w2.heap.size := ⟨_, rfl⟩
      rw [← hgb] at hb3 HO3 HC3 hz3 ⊢
      have HKB := Lib.hid hb3
      have HZ3 : Hid (w1.heap.size ≤ gb ∧ gb < w3.heap.size) := Lib.hid ⟨by have := HB2.out.size; omega, hz3⟩
      have HR3 := Lib.hid (HK2.out.below HB3.out HK2.out.lt)
      clear hb3 hg3 hz3 hgb HO2 HC2 HB2
      have HPUT : Hid (∀ u, Blk u (g + 2) 76 #[.int .i64 0, .int .i64 0, .int .i64 0, .slice none 0 0, .slice none 0 0] → Blk (((((u.setCell ⟨g + 2, 0, none⟩ (.int .i64 zp)).setCell ⟨g + 2, 1, none⟩ (.int .i64 zr)).setCell ⟨g + 2, 2, none⟩ (.int .i64 zc)).setCell ⟨g + 2, 3, none⟩ (.slice P3 m3 d3)).setCell ⟨g + 2, 4, none⟩ (.slice AC nC cC)) (g + 2) 76 #[.int .i64 zp, .int .i64 zr, .int .i64 zc, .slice P3 m3 d3, .slice AC nC cC]) := Lib.hid (fun u h => ((((h.set_ 0 _).set_ 1 _).set_ 2 _).set_ 3 _).set_ 4 _)
      have MKS : Hid (∀ u, Blk u g 27 #[.int .i64 p, .int .i64 r, .int .i64 c, .slice A n k] → Blk u (g + 1) 27 #[.int .i64 p', .int .i64 r', .int .i64 c', .slice A' n' k'] → Blk u gb 76 #[.int .i64 zp, .int .i64 zr, .int .i64 zc, .slice P3 m3 d3, .slice AC nC cC] → (u.cell? ⟨g, 0, none⟩ = some (.int .i64 p) ∧ u.cell? ⟨g, 1, none⟩ = some (.int .i64 r) ∧ u.cell? ⟨g, 2, none⟩ = some (.int .i64 c) ∧ u.cell? ⟨g, 3, none⟩ = some (.slice A n k) ∧ u.cell? ⟨g + 1, 0, none⟩ = some (.int .i64 p') ∧ u.cell? ⟨g + 1, 1, none⟩ = some (.int .i64 r') ∧ u.cell? ⟨g + 1, 2, none⟩ = some (.int .i64 c') ∧ u.cell? ⟨g + 1, 3, none⟩ = some (.slice A' n' k') ∧ u.cell? ⟨gb, 0, none⟩ = some (.int .i64 zp) ∧ u.cell? ⟨gb, 1, none⟩ = some (.int .i64 zr) ∧ u.cell? ⟨gb, 2, none⟩ = some (.int .i64 zc) ∧ u.cell? ⟨gb, 3, none⟩ = some (.slice P3 m3 d3) ∧ u.cell? ⟨gb, 4, none⟩ = some (.slice AC nC cC))) := Lib.hid (fun u h0 h1 h2 => by obtain ⟨a0, a1, a2, a3⟩ := cells4 h0; obtain ⟨b0, b1, b2, b3⟩ := cells4 h1; exact ⟨a0, a1, a2, a3, b0, b1, b2, b3, h2.cell 0, h2.cell 1, h2.cell 2, h2.cell 3, h2.cell 4⟩)
      have HQ0 := Lib.hid (HK0.out.below HB3.out HK0.out.lt)
      have HQ1 := Lib.hid (HK1.out.below HB3.out HK1.out.lt)
      have HKd : Hid (w3.drew.cell? ⟨g, 0, none⟩ = some (.int .i64 p) ∧ w3.drew.cell? ⟨g, 1, none⟩ = some (.int .i64 r) ∧ w3.drew.cell? ⟨g, 2, none⟩ = some (.int .i64 c) ∧ w3.drew.cell? ⟨g, 3, none⟩ = some (.slice A n k) ∧ w3.drew.cell? ⟨g + 1, 0, none⟩ = some (.int .i64 p') ∧ w3.drew.cell? ⟨g + 1, 1, none⟩ = some (.int .i64 r') ∧ w3.drew.cell? ⟨g + 1, 2, none⟩ = some (.int .i64 c') ∧ w3.drew.cell? ⟨g + 1, 3, none⟩ = some (.slice A' n' k') ∧ w3.drew.cell? ⟨gb, 0, none⟩ = some (.int .i64 zp) ∧ w3.drew.cell? ⟨gb, 1, none⟩ = some (.int .i64 zr) ∧ w3.drew.cell? ⟨gb, 2, none⟩ = some (.int .i64 zc) ∧ w3.drew.cell? ⟨gb, 3, none⟩ = some (.slice P3 m3 d3) ∧ w3.drew.cell? ⟨gb, 4, none⟩ = some (.slice AC nC cC)) := Lib.hid (MKS.out w3 HQ0.out HQ1.out HKB.out)
      have HKn := Lib.hid (MKS.out w3 HQ0.out HQ1.out HKB.out)
      go_region_held3 (fun u => u.cell? ⟨g, 0, none⟩ = some (.int .i64 p) ∧ u.cell? ⟨g, 1, none⟩ = some (.int .i64 r) ∧ u.cell? ⟨g, 2, none⟩ = some (.int .i64 c) ∧ u.cell? ⟨g, 3, none⟩ = some (.slice A n k) ∧ u.cell? ⟨g + 1, 0, none⟩ = some (.int .i64 p') ∧ u.cell? ⟨g + 1, 1, none⟩ = some (.int .i64 r') ∧ u.cell? ⟨g + 1, 2, none⟩ = some (.int .i64 c') ∧ u.cell? ⟨g + 1, 3, none⟩ = some (.slice A' n' k') ∧ u.cell? ⟨gb, 0, none⟩ = some (.int .i64 zp) ∧ u.cell? ⟨gb, 1, none⟩ = some (.int .i64 zr) ∧ u.cell? ⟨gb, 2, none⟩ = some (.int .i64 zc) ∧ u.cell? ⟨gb, 3, none⟩ = some (.slice P3 m3 d3) ∧ u.cell? ⟨gb, 4, none⟩ = some (.slice AC nC cC))
        (first | with_reducible exact HKd.out | with_reducible exact HKn.out | with_reducible exact KU4 | with_reducible exact KU5 | with_reducible exact KZ | exact KZ)
        (first
          | (go_at_call 60
             with_reducible refine (hasRowsLike_any p r c p' r' c' A A' n k n' k' w4).mono ?_
             rintro e w5 ⟨rfl, hb5⟩
             have HW5 : Hid (Below w3.heap.size w3 w5) := Lib.hid (HW4.out.trans (hb5.mono HW4.out.size))
             have HB5 : Hid (Below w1.heap.size w1 w5) := Lib.hid (HB3.out.trans (HW5.out.mono HB3.out.size))
             have HR5 := Lib.hid (HR3.out.below HW5.out HR3.out.lt)
             have hgne : g ≠ g + 2 ∧ g + 1 ≠ g + 2 ∧ gb ≠ g + 2 := by have := HZ3.out; have := HSZ.out; omega
             have KU5 := MKS.out w5 (HQ0.out.below HW5.out HQ0.out.lt) (HQ1.out.below HW5.out HQ1.out.lt) (HKB.out.below HW5.out HKB.out.lt)
             have hgp := grown_put5 w5 (g + 2) (.int .i64 zp) (.int .i64 zr) (.int .i64 zc) (.slice P3 m3 d3) (.slice AC nC cC)
             have KZ := MKS.out _ ((HQ0.out.below HW5.out HQ0.out.lt).grown hgp (fun e => by injection e with e; omega)) ((HQ1.out.below HW5.out HQ1.out.lt).grown hgp (fun e => by injection e with e; omega)) ((HKB.out.below HW5.out HKB.out.lt).grown hgp (fun e => by injection e with e; omega))
             have rr0 := HR5.out.cell 0
             have rr1 := HR5.out.cell 1
             have rr2 := HR5.out.cell 2
             have rr3 := HR5.out.cell 3
             have rr4 := HR5.out.cell 4
             have ff0 := HR5.out.frozen 0
             have ff1 := HR5.out.frozen 1
             have ff2 := HR5.out.frozen 2
             have ff3 := HR5.out.frozen 3
             have ff4 := HR5.out.frozen 4
             clear hb5 hgne hgp)
          | (go_at_call 134
             with_reducible refine (HIS.out _ (HB3.out.drew)).mono ?_
             rintro e w4 ⟨rfl, hb4⟩
             have HW4 : Hid (Below w3.heap.size w3 w4) := Lib.hid (((Below.refl _ _).drew).trans hb4)
             have HB4 : Hid (Below w1.heap.size w1 w4) := Lib.hid (HB3.out.trans (HW4.out.mono HB3.out.size))
             have HR4 := Lib.hid (HR3.out.below HW4.out HR3.out.lt)
             have HKB4 := Lib.hid (HKB.out.below HW4.out HKB.out.lt)
             have KU4 := MKS.out w4 (HQ0.out.below HW4.out HQ0.out.lt) (HQ1.out.below HW4.out HQ1.out.lt) HKB4.out
             clear hb4))
      all_goals
        (go_wp2
         refine bodyPost_ret (results_mx_tmp Try.results66 _ _ _ 76 #[.int .i64 zp, .int .i64 zr, .int .i64 zc, .slice P3 m3 d3, .slice AC nC cC] _ rfl (HPUT.out _ HR5.out) Try.underlying76 rfl Try.infoNf) rfl ?_
         have l1 := HSZ.out
         have l2 := HG.out
         have l4 := HB.out.size
         have l5 := HB5.out.size
         have l6 := HZ3.out
         have l7 := HB3.out.size
         have l8 := (HW5.out : Below w3.heap.size w3 w5).size
         have hg := grown_put5 w5 (g + 2) (.int .i64 zp) (.int .i64 zr) (.int .i64 zc) (.slice P3 m3 d3) (.slice AC nC cC)
         have l9 := hg.size
         refine ⟨P3, m3, d3, AC, nC, cC, (by rw [HV.out]; try rfl), ?_, ?_, ?_⟩
         · exact ((HO3.out.below (HW5.out : Below w3.heap.size w3 w5) (by omega)).grown hg (fun q hq => by injection hq with hq; omega)).wide (by omega) (Nat.le_trans (by omega : gb ≤ w5.heap.size) l9)
         · exact ((HC3.out.below (HW5.out : Below w3.heap.size w3 w5) (by omega)).grown hg (fun q hq => by injection hq with hq; omega)).wide (by omega) (Nat.le_trans (by omega : gb ≤ w5.heap.size) l9)
         · exact (HB.out.trans (HB5.out.mono l4)).grown hg (by omega) (by rintro q ⟨⟩; omega))

end Go.Proofs.Ytfaegfhbbkicgaa

/-
  The relative position on the program's side: where it answers nothing. Conditions: lengths below 2^40.
-/



namespace Go.Proofs.Ytfaegfhbbkicgaa
open Go.RowKit

set_option maxRecDepth 100000 in
set_option maxHeartbeats 8000000 in
theorem implRelativePosition_no (p r c p' r' c' : Int) (A A' : Option Addr) (n k n' k' : Nat) (xs ys : List Int) (w : World) (hs : SI w A n xs) (hs' : SI w A' n' ys) (hn : n ≤ 1099511627776) (hn' : n' ≤ 1099511627776) (hnk : n ≤ k) (hnk' : n' ≤ k') (hno : pairB p r c xs p' r' c' ys = false) :
    Calls Try.prog 17 #[.agg #[.int .i64 p, .int .i64 r, .int .i64 c, .slice A n k], .agg #[.int .i64 p', .int .i64 r', .int .i64 c', .slice A' n' k']] w fun e w' => Fresh w w' e (relW p r c xs p' r' c' ys) := by
  obtain ⟨zp, zr, zc, z, ok, hz⟩ := nf_ex p r c xs
  obtain ⟨yp, yr, yc, y, ok', hy⟩ := nf_ex p' r' c' ys
  obtain ⟨w1, hw1⟩ : ∃ w1, w1 = ((w.alloc (.cells #[.int .i64 p, .int .i64 r, .int .i64 c, .slice A n k] 27)).alloc (.cells #[.int .i64 p', .int .i64 r', .int .i64 c', .slice A' n' k'] 27)) := ⟨_, rfl⟩
  obtain ⟨g, hg⟩ : ∃ g, g = w.heap.size := ⟨_, rfl⟩
  have HK0 : Hid (Blk w1 (g) 27 #[.int .i64 p, .int .i64 r, .int .i64 c, .slice A n k]) := Lib.hid (by rw [hw1, hg]; have := (Blk.new w 27 #[.int .i64 p, .int .i64 r, .int .i64 c, .slice A n k]).alloc (.cells #[.int .i64 p', .int .i64 r', .int .i64 c', .slice A' n' k'] 27); simpa using this)
  have HK1 : Hid (Blk w1 (g + 1) 27 #[.int .i64 p', .int .i64 r', .int .i64 c', .slice A' n' k']) := Lib.hid (by rw [hw1, hg]; have := Blk.new (w.alloc (.cells #[.int .i64 p, .int .i64 r, .int .i64 c, .slice A n k] 27)) 27 #[.int .i64 p', .int .i64 r', .int .i64 c', .slice A' n' k']; simpa using this)
  have hb : Below w.heap.size w w1 := by rw [hw1]; go_grown
  have HB := Lib.hid hb
  have HW := Lib.hid hw1
  have HG := Lib.hid hg
  have HSZ : Hid (w1.heap.size = g + 2) := Lib.hid (by rw [hw1, hg]; simp)
  have HF1 := Lib.hid (flagOf_z p r c A n k xs w1 (hs.below hb (Nat.le_refl _)) hn hnk zp zr zc z ok hz)
  have HF2 := Lib.hid (fun u (hu : Below w1.heap.size w1 u) => flagOf_z p' r' c' A' n' k' ys u ((hs'.below hb (Nat.le_refl _)).below hu (Nat.le_refl _)) hn' hnk' yp yr yc y ok' hy)
  obtain ⟨W, hW⟩ : ∃ W, W = flgW p r c xs := ⟨_, rfl⟩
  rw [← hW] at HF1
  obtain ⟨W', hW'⟩ : ∃ W', W' = flgW p' r' c' ys := ⟨_, rfl⟩
  rw [← hW'] at HF2
  clear hw1 hg hb hs hs' hW hW'
  cases ok with
  | false =>
    have HNO : Hid (pairB p r c xs p' r' c' ys = false) := Lib.hid (by unfold pairB; rw [← hz.1]; rfl)
    clear hz hy
    go_enter Try.func17, Try.ntmps17
    go_upto_region 1 with fail
    rw [← HW.out, ← HG.out]
    go_upto_region 3 with (first
      | (refine wpList_load_rowP rfl 27 (.tmp 2) rfl g rfl 27 #[.int .i64 p, .int .i64 r, .int .i64 c, .slice A n k] _ HK0.out Try.underlying27 rfl Try.infoMx ?_)
      | (go_at_call 59
         with_reducible refine (HF1.out).mono ?_
         rintro e w2 ⟨P3, m3, d3, AC, nC, cC, rfl, ho2, hc2, hb2⟩
         have HO2 := Lib.hid ho2
         have HB2 := Lib.hid hb2
         clear ho2 hc2 hb2)
      | (refine wpList_store_rowP rfl 76 (.tmp 5) (.tmp 18) rfl w2.heap.size #[.int .i64 zp, .int .i64 zr, .int .i64 zc, .slice P3 m3 d3, .slice AC nC cC] rfl rfl 76 #[.int .i64 0, .int .i64 0, .int .i64 0, .slice none 0 0, .slice none 0 0] (Blk.new _ _ _) Try.infoNf rfl (by simp [Value.oneCell']) ?_; intro w3 hb3 hg3; have hz3 : w2.heap.size < w3.heap.size := hb3.lt; have HB3 : Hid (Below w1.heap.size w1 w3) := Lib.hid ((HB2.out.alloc HB2.out.size _).grown hg3 (by have := HB2.out.size; simp; omega) (by rintro q ⟨⟩; exact HB2.out.size)); have HO3 : Hid (Own w3 w1.heap.size w2.heap.size P3 m3 d3 z) := Lib.hid ((HO2.out.below (Below.alloc_self _ _) (Nat.le_refl _)).grown hg3 (fun q hq => by injection hq with hq; omega)); have HKB := Lib.hid hb3; have HZ3 := Lib.hid hz3; have HR1 := Lib.hid (HK1.out.below HB3.out HK1.out.lt); clear hb3 hg3 hz3 HO2)
      | (refine wpList_load_rowP rfl 27 (.tmp 3) rfl (g + 1) rfl 27 #[.int .i64 p', .int .i64 r', .int .i64 c', .slice A' n' k'] _ HR1.out Try.underlying27 rfl Try.infoMx ?_)
      | (go_at_call 59
         with_reducible refine (HF2.out _ HB3.out).mono ?_
         rintro e w4 ⟨P5, m5, d5, AD, nD, cD, rfl, ho4, hc4, hb4⟩
         have HO4 := Lib.hid ho4
         have HB4 : Hid (Below w1.heap.size w1 w4) := Lib.hid (HB3.out.trans (hb4.mono HB3.out.size))
         clear ho4 hc4 hb4)
      | (refine wpList_store_rowP rfl 76 (.tmp 7) (.tmp 23) rfl w4.heap.size #[.int .i64 yp, .int .i64 yr, .int .i64 yc, .slice P5 m5 d5, .slice AD nD cD] rfl rfl 76 #[.int .i64 0, .int .i64 0, .int .i64 0, .slice none 0 0, .slice none 0 0] (Blk.new _ _ _) Try.infoNf rfl (by simp [Value.oneCell']) ?_; intro w5 hb5 hg5; have hz5 : w4.heap.size < w5.heap.size := hb5.lt; have HG5 := Lib.hid hg5; have HKC := Lib.hid hb5; have HZ5 := Lib.hid hz5; have HB5 : Hid (Below w1.heap.size w1 w5) := Lib.hid ((HB4.out.alloc HB4.out.size _).grown hg5 (by have := HB4.out.size; simp; omega) (by rintro q ⟨⟩; exact HB4.out.size)); clear hb5 hg5 hz5)
      | fail)
    obtain ⟨q0, q1, q2, q3⟩ := cells4 (HK0.out.below HB5.out HK0.out.lt)
    obtain ⟨r0, r1, r2, r3⟩ := cells4 (HK1.out.below HB5.out HK1.out.lt)
    go_wp2
    go_ret
    exact ⟨none, 0, 0, rfl, by rw [relW_no HNO.out]; exact Own.nil _ _ _, HB.out.trans (HB5.out.mono HB.out.size)⟩
  | true =>
    cases ok' with
    | false =>
      have HNO : Hid (pairB p r c xs p' r' c' ys = false) := Lib.hid (by unfold pairB; rw [← hy.1]; simp)
      clear hz hy
      go_enter Try.func17, Try.ntmps17
      go_upto_region 1 with fail
      rw [← HW.out, ← HG.out]
      go_upto_region 3 with (first
        | (refine wpList_load_rowP rfl 27 (.tmp 2) rfl g rfl 27 #[.int .i64 p, .int .i64 r, .int .i64 c, .slice A n k] _ HK0.out Try.underlying27 rfl Try.infoMx ?_)
        | (go_at_call 59
           with_reducible refine (HF1.out).mono ?_
           rintro e w2 ⟨P3, m3, d3, AC, nC, cC, rfl, ho2, hc2, hb2⟩
           have HO2 := Lib.hid ho2
           have HB2 := Lib.hid hb2
           clear ho2 hc2 hb2)
        | (refine wpList_store_rowP rfl 76 (.tmp 5) (.tmp 18) rfl w2.heap.size #[.int .i64 zp, .int .i64 zr, .int .i64 zc, .slice P3 m3 d3, .slice AC nC cC] rfl rfl 76 #[.int .i64 0, .int .i64 0, .int .i64 0, .slice none 0 0, .slice none 0 0] (Blk.new _ _ _) Try.infoNf rfl (by simp [Value.oneCell']) ?_; intro w3 hb3 hg3; have hz3 : w2.heap.size < w3.heap.size := hb3.lt; have HB3 : Hid (Below w1.heap.size w1 w3) := Lib.hid ((HB2.out.alloc HB2.out.size _).grown hg3 (by have := HB2.out.size; simp; omega) (by rintro q ⟨⟩; exact HB2.out.size)); have HO3 : Hid (Own w3 w1.heap.size w2.heap.size P3 m3 d3 z) := Lib.hid ((HO2.out.below (Below.alloc_self _ _) (Nat.le_refl _)).grown hg3 (fun q hq => by injection hq with hq; omega)); have HKB := Lib.hid hb3; have HZ3 := Lib.hid hz3; have HR1 := Lib.hid (HK1.out.below HB3.out HK1.out.lt); clear hb3 hg3 hz3 HO2)
        | (refine wpList_load_rowP rfl 27 (.tmp 3) rfl (g + 1) rfl 27 #[.int .i64 p', .int .i64 r', .int .i64 c', .slice A' n' k'] _ HR1.out Try.underlying27 rfl Try.infoMx ?_)
        | (go_at_call 59
           with_reducible refine (HF2.out _ HB3.out).mono ?_
           rintro e w4 ⟨P5, m5, d5, AD, nD, cD, rfl, ho4, hc4, hb4⟩
           have HO4 := Lib.hid ho4
           have HB4 : Hid (Below w1.heap.size w1 w4) := Lib.hid (HB3.out.trans (hb4.mono HB3.out.size))
           clear ho4 hc4 hb4)
        | (refine wpList_store_rowP rfl 76 (.tmp 7) (.tmp 23) rfl w4.heap.size #[.int .i64 yp, .int .i64 yr, .int .i64 yc, .slice P5 m5 d5, .slice AD nD cD] rfl rfl 76 #[.int .i64 0, .int .i64 0, .int .i64 0, .slice none 0 0, .slice none 0 0] (Blk.new _ _ _) Try.infoNf rfl (by simp [Value.oneCell']) ?_; intro w5 hb5 hg5; have hz5 : w4.heap.size < w5.heap.size := hb5.lt; have HG5 := Lib.hid hg5; have HKC := Lib.hid hb5; have HZ5 := Lib.hid hz5; have HB5 : Hid (Below w1.heap.size w1 w5) := Lib.hid ((HB4.out.alloc HB4.out.size _).grown hg5 (by have := HB4.out.size; simp; omega) (by rintro q ⟨⟩; exact HB4.out.size)); clear hb5 hg5 hz5)
        | fail)
      obtain ⟨q0, q1, q2, q3⟩ := cells4 (HK0.out.below HB5.out HK0.out.lt)
      obtain ⟨r0, r1, r2, r3⟩ := cells4 (HK1.out.below HB5.out HK1.out.lt)
      go_wp2
      go_ret
      exact ⟨none, 0, 0, rfl, by rw [relW_no HNO.out]; exact Own.nil _ _ _, HB.out.trans (HB5.out.mono HB.out.size)⟩
    | true =>
      cases hlk : (decide (p = p') && decide (c = c')) with
      | false =>
        have HNO : Hid (pairB p r c xs p' r' c' ys = false) := Lib.hid (by unfold pairB; rw [hlk]; simp)
        have HRL := Lib.hid (fun u => hasRowsLike_any p r c p' r' c' A A' n k n' k' u)
        rw [hlk] at HRL
        clear hz hy hlk
        go_enter Try.func17, Try.ntmps17
        go_upto_region 1 with fail
        rw [← HW.out, ← HG.out]
        go_upto_region 3 with (first
          | (refine wpList_load_rowP rfl 27 (.tmp 2) rfl g rfl 27 #[.int .i64 p, .int .i64 r, .int .i64 c, .slice A n k] _ HK0.out Try.underlying27 rfl Try.infoMx ?_)
          | (go_at_call 59
             with_reducible refine (HF1.out).mono ?_
             rintro e w2 ⟨P3, m3, d3, AC, nC, cC, rfl, ho2, hc2, hb2⟩
             have HO2 := Lib.hid ho2
             have HB2 := Lib.hid hb2
             clear ho2 hc2 hb2)
          | (refine wpList_store_rowP rfl 76 (.tmp 5) (.tmp 18) rfl w2.heap.size #[.int .i64 zp, .int .i64 zr, .int .i64 zc, .slice P3 m3 d3, .slice AC nC cC] rfl rfl 76 #[.int .i64 0, .int .i64 0, .int .i64 0, .slice none 0 0, .slice none 0 0] (Blk.new _ _ _) Try.infoNf rfl (by simp [Value.oneCell']) ?_; intro w3 hb3 hg3; have hz3 : w2.heap.size < w3.heap.size := hb3.lt; have HB3 : Hid (Below w1.heap.size w1 w3) := Lib.hid ((HB2.out.alloc HB2.out.size _).grown hg3 (by have := HB2.out.size; simp; omega) (by rintro q ⟨⟩; exact HB2.out.size)); have HO3 : Hid (Own w3 w1.heap.size w2.heap.size P3 m3 d3 z) := Lib.hid ((HO2.out.below (Below.alloc_self _ _) (Nat.le_refl _)).grown hg3 (fun q hq => by injection hq with hq; omega)); have HKB := Lib.hid hb3; have HZ3 := Lib.hid hz3; have HR1 := Lib.hid (HK1.out.below HB3.out HK1.out.lt); clear hb3 hg3 hz3 HO2)
          | (refine wpList_load_rowP rfl 27 (.tmp 3) rfl (g + 1) rfl 27 #[.int .i64 p', .int .i64 r', .int .i64 c', .slice A' n' k'] _ HR1.out Try.underlying27 rfl Try.infoMx ?_)
          | (go_at_call 59
             with_reducible refine (HF2.out _ HB3.out).mono ?_
             rintro e w4 ⟨P5, m5, d5, AD, nD, cD, rfl, ho4, hc4, hb4⟩
             have HO4 := Lib.hid ho4
             have HB4 : Hid (Below w1.heap.size w1 w4) := Lib.hid (HB3.out.trans (hb4.mono HB3.out.size))
             clear ho4 hc4 hb4)
          | (refine wpList_store_rowP rfl 76 (.tmp 7) (.tmp 23) rfl w4.heap.size #[.int .i64 yp, .int .i64 yr, .int .i64 yc, .slice P5 m5 d5, .slice AD nD cD] rfl rfl 76 #[.int .i64 0, .int .i64 0, .int .i64 0, .slice none 0 0, .slice none 0 0] (Blk.new _ _ _) Try.infoNf rfl (by simp [Value.oneCell']) ?_; intro w5 hb5 hg5; have hz5 : w4.heap.size < w5.heap.size := hb5.lt; have HG5 := Lib.hid hg5; have HKC := Lib.hid hb5; have HZ5 := Lib.hid hz5; have HB5 : Hid (Below w1.heap.size w1 w5) := Lib.hid ((HB4.out.alloc HB4.out.size _).grown hg5 (by have := HB4.out.size; simp; omega) (by rintro q ⟨⟩; exact HB4.out.size)); clear hb5 hg5 hz5)
          | fail)
        obtain ⟨q0, q1, q2, q3⟩ := cells4 (HK0.out.below HB5.out HK0.out.lt)
        obtain ⟨r0, r1, r2, r3⟩ := cells4 (HK1.out.below HB5.out HK1.out.lt)
        go_wp2_with (first
          | (go_at_call 60
             with_reducible refine (HRL.out _).mono ?_
             rintro e w6 ⟨rfl, hb6⟩
             have HB6 : Hid (Below w1.heap.size w1 w6) := Lib.hid (HB5.out.trans (hb6.mono HB5.out.size))
             clear hb6)
          | fail)
        go_ret
        exact ⟨none, 0, 0, rfl, by rw [relW_no HNO.out]; exact Own.nil _ _ _, HB.out.trans (HB6.out.mono HB.out.size)⟩
      | true => exact absurd hno (by unfold pairB; rw [← hz.1, ← hy.1, hlk]; decide)

end Go.Proofs.Ytfaegfhbbkicgaa

/-
  slices.Concat at two slices of rows. Conditions: lengths at most 1000.
-/



namespace Go.Proofs.Ytfaegfhbbkicgaa
open Go.RowKit

set_option maxHeartbeats 800000 in
/-- slices.Grow at the nil slice of rows. -/
theorem growNilR_any (m : Nat) (w : World) (hm : m ≤ 2000) :
    Calls Try.prog 184 #[.slice none 0 0, .int .i64 m] w fun e w' => ∃ A c, e = .returned (.slice A 0 c) ∧ w'.ownsRow w.heap.size 22 1 (.slice A 0 c) 0 [] ∧ Below w.heap.size w w' := by
  cases m with
  | zero =>
    go_enter Try.func184, Try.ntmps184
    go_wp2
    go_ret
    exact ⟨none, 0, rfl, World.ownsRow_nil _ _ _ _, Below.refl _ _⟩
  | succ k =>
    obtain ⟨m, hk⟩ : ∃ m, m = k + 1 := ⟨_, rfl⟩
    rw [← hk] at hm ⊢
    have hm1 : 0 < m := by omega
    clear hk
    obtain ⟨i0, hi, hz0, hz1, hz2⟩ := info_parts Try.infoLs
    have hold : (Builtin.firstCells i0.size 0 (.slice none 0 0)).run Try.prog w.drew = .ok #[] w.drew := run_firstCells_none w.drew i0.size 0 0 0
    have hrz : ∀ ty, (Builtin.append_ #[41, 3] ty #[.slice none 0 0, .int .i64 (m : Int)]).run Try.prog w =
        .ok (.slice (some ⟨w.heap.size, 0, none⟩) (0 + m) (grownCap w (0 + m) 0 22)) (w.drew.alloc (.cells (#[] ++ Builtin.zeroCells (Value.slice none 0 0).cells m ++ Builtin.zeroCells (Value.slice none 0 0).cells (grownCap w (0 + m) 0 22 - (0 + m))) 22)) := fun ty =>
      Lib.run_append_grow_zeros w 41 3 ty 22 i0 (.slice none 0 0) .i64 .i64 Try.underlying41 Try.underlying3 hi hz0 none 0 0 [] hold m hm1 (by omega) (by omega) (by omega)
        (by rw [hz2]; omega) (growslice_fits (by omega) (by rw [hz2]; omega))
    have hGn : 0 + m ≤ grownCap w (0 + m) 0 22 := grownCap_ge w _ _ _
    have hGm := grownCap_le_maxLen w (0 + m) 0 22 (by unfold maxLen; omega)
    have hc1 : (Value.slice none 0 0).cells.size = 1 := rfl
    obtain ⟨G, hG⟩ : ∃ G, G = grownCap w (0 + m) 0 22 := ⟨_, rfl⟩
    rw [← hG] at hrz hGn hGm
    have hO := World.ownsRow_made (base := w.heap.size) (e := 22) (size := 1) w.drew (#[] ++ Builtin.zeroCells (Value.slice none 0 0).cells m ++ Builtin.zeroCells (Value.slice none 0 0).cells (G - (0 + m))) G (Nat.le_refl _) hGm (by rw [Array.size_append, Array.size_append, size_zeroCells, size_zeroCells, hc1]; simp; omega)
    generalize (#[] ++ Builtin.zeroCells (Value.slice none 0 0).cells m ++ Builtin.zeroCells (Value.slice none 0 0).cells (G - (0 + m))) = cs at hrz hO
    have hb : Below w.heap.size w (w.drew.alloc (.cells cs 22)) := (Below.refl w.heap.size w).drew.alloc (Nat.le_refl _) _
    have HO := Lib.hid hO
    have HB := Lib.hid hb
    have h1 : ¬ ((m : Int) < 0) := by omega
    have h4 : (m : Int) > 0 := by omega
    have hm63 : wrap64 (m : Int) = (m : Int) := by unfold wrap64; omega
    have hG0 : (0 : Int) ≤ (G : Int) := by omega
    clear hO hb hold hG hi hz0 hz1 hz2 hGn hGm hc1
    go_enter Try.func184, Try.ntmps184
    go_wp2_with (at_builtin; refine Lib.wpList_append_run _ rfl _ _ _ _ rfl _ _ rfl rfl _ _ (hrz _) ?_)
    all_goals (go_ret; exact ⟨_, G, rfl, HO.out, HB.out⟩)
/-- What the cells of a slice of rows hold. -/
def HdL (w : World) (A : Option Addr) (n : Nat) (ls : List (List Int)) (H : List Value) : Prop :=
  H.length = n ∧ (0 < n → ∃ b o, A = some ⟨b, o, none⟩ ∧ ∀ k, k < n → w.cell? ⟨b, o + k, none⟩ = H[k]?) ∧ ∀ k, k < n → ∃ A' n' c', H[k]? = some (.slice A' n' c') ∧ SI w A' n' (li ls k) ∧ n' ≤ c' ∧ (A' = none → n' = 0 ∧ c' = 0)
theorem LS.hdl {w : World} {A : Option Addr} {n : Nat} {ls : List (List Int)} (h : LS w A n ls) : ∃ H, HdL w A n ls H := by
  by_cases h0 : 0 < n
  · obtain ⟨b, o, rfl, hb, hk⟩ := h.2 h0
    refine ⟨(List.range n).map fun k => (w.cell? ⟨b, o + k, none⟩).getD undef, by simp, fun _ => ⟨b, o, rfl, fun k hkn => ?_⟩, fun k hkn => ?_⟩
    · obtain ⟨A', n', c', e, _⟩ := hk k hkn
      simp [hkn, e]
    · obtain ⟨A', n', c', e, hs, hc, hn⟩ := hk k hkn
      exact ⟨A', n', c', by simp [hkn, e], hs, hc, hn⟩
  · have : n = 0 := by omega
    subst this
    exact ⟨[], rfl, fun h1 => absurd h1 (by omega), fun k hk => absurd hk (by omega)⟩
theorem HdL.below {w w' : World} {A : Option Addr} {n : Nat} {ls : List (List Int)} {H : List Value} (h : HdL w A n ls H) (hl : LS w A n ls) (hb : Below w.heap.size w w') : HdL w' A n ls H := by
  refine ⟨h.1, fun h0 => ?_, fun k hk => ?_⟩
  · obtain ⟨b, o, e, hc⟩ := h.2.1 h0
    obtain ⟨b', o', e', hb', _⟩ := hl.2 h0
    rw [e] at e'
    injection e' with e'
    injection e' with e1 e2
    subst e1
    exact ⟨b, o, e, fun k hk => by rw [Below.cell hb (p := ⟨b, o + k, none⟩) hb']; exact hc k hk⟩
  · obtain ⟨A', n', c', e, hs, hc, hn⟩ := h.2.2 k hk
    exact ⟨A', n', c', e, hs.below hb (Nat.le_refl _), hc, hn⟩
theorem HdL.one {w : World} {A : Option Addr} {n : Nat} {ls : List (List Int)} {H : List Value} (h : HdL w A n ls H) : ∀ u ∈ H, u.oneCell' = true := fun u hu => by
  obtain ⟨k, hk, rfl⟩ := List.mem_iff_getElem.1 hu
  obtain ⟨A', n', c', e, _⟩ := h.2.2 k (by rw [← h.1]; exact hk)
  rw [List.getElem?_eq_getElem hk] at e
  injection e with e
  rw [e]; rfl
/-- An owned slice whose cells are the headers of two slices of rows reads as both lists. -/
theorem HdL.cat {w : World} {A1 A2 A : Option Addr} {n1 n2 lo c : Nat} {ls us : List (List Int)} {H1 H2 : List Value} (h1 : HdL w A1 n1 ls H1) (h2 : HdL w A2 n2 us H2) (hl1 : ls.length = n1) (hl2 : us.length = n2) (ho : w.ownsRow lo 22 1 (.slice A (n1 + n2) c) (n1 + n2) (H1 ++ H2)) : LS w A (n1 + n2) (ls ++ us) := by
  refine ⟨by simp [hl1, hl2], fun h0 => ?_⟩
  obtain ⟨g, cap, e, _, _⟩ := ho.form h0
  injection e with e1 e2 e3
  subst e1
  have hlt := (ho.lt g rfl).2
  refine ⟨g, 0, rfl, hlt, fun k hk => ?_⟩
  have hcell : w.cell? ⟨g, 0 + k, none⟩ = (H1 ++ H2)[k]? := by
    rw [Nat.zero_add]
    exact World.ownsRow.cellAt ho k (by omega)
  by_cases hk1 : k < n1
  · obtain ⟨A', n', c', e, hs, hc, hn⟩ := h1.2.2 k hk1
    refine ⟨A', n', c', by rw [hcell, List.getElem?_append_left (by rw [h1.1]; exact hk1)]; exact e, ?_, hc, hn⟩
    rw [li_get (by simp [hl1, hl2]; omega), List.getElem_append_left (by omega)]
    rw [li_get (by omega)] at hs
    exact hs
  · obtain ⟨A', n', c', e, hs, hc, hn⟩ := h2.2.2 (k - n1) (by omega)
    refine ⟨A', n', c', by rw [hcell, List.getElem?_append_right (by rw [h1.1]; omega), h1.1]; exact e, ?_, hc, hn⟩
    rw [li_get (by simp [hl1, hl2]; omega), List.getElem_append_right (by omega)]
    rw [li_get (by omega)] at hs
    simpa only [hl1] using hs
theorem World.ownsRow.mono_ {w : World} {lo lo' n : Nat} {v : Value} {L : List Value} (h : w.ownsRow lo 22 1 v n L) (hl : lo' ≤ lo) : w.ownsRow lo' 22 1 v n L := by
  refine ⟨h.1, ?_⟩
  rcases h.2 with h' | ⟨g, cap, cur, e, hlo, rest⟩
  · exact Or.inl h'
  · exact Or.inr ⟨g, cap, cur, e, by omega, rest⟩
set_option maxRecDepth 100000 in
set_option maxHeartbeats 1000000 in
theorem wpList_append_hd {ops : Array Oper} {rest : List Oper} {o : Oper} {a : Act} {w : World} {Q : Exit → Act → World → Prop} (hgd : o.guard = none) (s x : Operand)
    (ho : o.op = .call { callee := .builtin .append, args := #[s, x], argTypes := #[41, 41] })
    (lo : Nat) (A : Option Addr) (n c : Nat) (L : List Value) (A2 : Option Addr) (m c2 : Nat) (ls : List (List Int)) (H : List Value) (hs : a.eval s = .slice A n c) (hx : a.eval x = .slice A2 m c2)
    (hown : w.ownsRow lo 22 1 (.slice A n c) n L) (hhd : HdL w A2 m ls H) (hlo : lo ≤ w.heap.size) (hn : n ≤ 100000) (hm : m ≤ 100000)
    (hK : ∀ A' c' w', w'.ownsRow lo 22 1 (.slice A' (n + m) c') (n + m) (L ++ H) → Below lo w w' → wpList Try.prog ops Q rest (a.put o.dst (.slice A' (n + m) c')) w') :
    wpList Try.prog ops Q (o :: rest) a w := by
  obtain ⟨i0, hi, hz0, hz1, hz2⟩ := info_parts Try.infoLs
  by_cases h0 : 0 < m
  · obtain ⟨b, off, rfl, hc⟩ := hhd.2.1 h0
    refine wpList_append_own _ hgd s x 41 ho lo 22 i0 (.slice none 0 0) 1 24 Try.underlying41 hi hz0 hz1 hz2 rfl (by decide) _ _ _ hs hown ⟨b, off, none⟩ m c2 H hx (by simp [hhd.1]) ?_ hhd.one (by unfold maxLen; omega) (by omega) hlo ?_
    · intro j u hj
      have hjl : j < H.length := by
        rcases Nat.lt_or_ge j H.length with h | h
        · exact h
        · rw [List.getElem?_eq_none h] at hj; cases hj
      rw [add_pt, hc j (by have := hhd.1; omega)]
      exact hj
    · intro v' w1 ho1 hg1 _
      obtain ⟨g, cap, rfl, _, _⟩ := ho1.form (by omega)
      exact hK _ _ w1 ho1 (grow_below hg1 hlo (fun k hk => (hown.lt k hk).1))
  · have hm0 : m = 0 := by omega
    subst hm0
    have hy : H = [] := List.eq_nil_of_length_eq_zero hhd.1
    subst hy
    have hk0 := hK A c w (by simpa using hown) (Below.refl _ _)
    refine wpList_plain hgd fun K hK' => ?_
    have hrun : (Builtin.append_ #[41, 41] o.type #[.slice A n c, .slice A2 0 c2]).run Try.prog w = .ok (.slice A n c) w := by
      have hg := hown
      have hl0 : ∀ v, (loadCells v 0).run Try.prog w = .ok #[] w := fun v => by simp [loadCells, loadCellsFrom]
      rcases hg.2 with ⟨e, h0⟩ | ⟨g, cap, cur, e, _, hgg, hnc, _⟩
      · injection e with e1 e2 e3
        subst e1; subst e3; subst h0
        cases A2 <;> simp [Builtin.append_, run_underlying Try.underlying41, sizeOf, typeInfo, hi, Builtin.lenOf, Builtin.firstCells, hl0]
      · injection e with e1 e2 e3
        subst e1; subst e3
        cases A2 <;> simp [Builtin.append_, run_underlying Try.underlying41, sizeOf, typeInfo, hi, Builtin.lenOf, Builtin.firstCells, hnc, storeCells, hl0]
    unfold Oper.wp
    simp [execOp, ho, resolve, invoke, builtin, hs, hx, hrun, Result.andThen]
    exact hK' _ _ (by simpa using hk0)
/-- The first i of two lists of headers, one behind the other. -/
def catH (H1 H2 : List Value) : Nat → List Value
  | 0 => []
  | 1 => H1
  | _ => H1 ++ H2
set_option maxHeartbeats 1600000 in
theorem concat2R_any (g cap n1 c1 n2 c2 : Nat) (A1 A2 : Option Addr) (ls us : List (List Int)) (w : World) (hb : Blk w g 41 #[.slice A1 n1 c1, .slice A2 n2 c2]) (hs1 : LS w A1 n1 ls) (hs2 : LS w A2 n2 us) (hn1 : n1 ≤ 1000) (hn2 : n2 ≤ 1000) :
    Calls Try.prog 135 #[.slice (some ⟨g, 0, none⟩) 2 cap] w fun e w' => ∃ A c, e = .returned (.slice A (n1 + n2) c) ∧ LS w' A (n1 + n2) (ls ++ us) ∧ Below w.heap.size w w' := by
  have HK := Lib.hid hb
  have HS1 := Lib.hid hs1
  have HS2 := Lib.hid hs2
  have hgl := hb.lt
  have HG := Lib.hid hgl
  obtain ⟨S, hS⟩ : ∃ S, S = n1 + n2 := ⟨_, rfl⟩
  have hz0 : ¬ ((n1 : Int) < 0) := by omega
  have hz1 : ¬ ((S : Int) < 0) := by omega
  have hw1 : IntKind.i64.wrap (n1 : Int) = (n1 : Int) := IntWalk.i64_in _ (by omega)
  have hw2 : IntKind.i64.wrap ((n1 : Int) + (n2 : Int)) = (S : Int) := by rw [show (n1 : Int) + (n2 : Int) = (S : Int) by omega]; exact IntWalk.i64_in _ (by omega)
  obtain ⟨H1, hh1⟩ := hs1.hdl
  obtain ⟨H2, hh2⟩ := hs2.hdl
  have HH1 := Lib.hid hh1
  have HH2 := Lib.hid hh2
  have HGR := Lib.hid (fun w' => growNilR_any S w' (by omega))
  have HSS := Lib.hid hS
  clear hb hs1 hs2 hgl hS hh1 hh2
  go_enter Try.func135, Try.ntmps135
  go_wp2_with fail
  go_loopw [3, 11] (fun sv iv wr => ∃ i : Nat, i ≤ 2 ∧ iv = .int .i64 i ∧ ((i = 0 ∧ sv = .int .i64 0) ∨ (i = 1 ∧ sv = .int .i64 n1) ∨ (i = 2 ∧ sv = .int .i64 S)) ∧ Drawn w wr)
    (fun _ iv _ => 2 - (intOf iv).toNat)
  case atStart => exact ⟨0, by omega, rfl, .inl ⟨rfl, rfl⟩, Drawn.refl _⟩
  case round =>
    obtain ⟨i, hi, rfl, hsv, hD⟩ := hrel
    have HD := Lib.hid hD
    have HKR := Lib.hid (HK.out.drawn hD)
    clear hD
    rcases hsv with ⟨rfl, rfl⟩ | ⟨rfl, rfl⟩ | ⟨rfl, rfl⟩
    · have hc : wr.cell? ⟨g, 0, none⟩ = some (.slice A1 n1 c1) := by rw [HKR.out.cell]; rfl
      go_wp2
      go_roundw
      case rel => exact ⟨1, by omega, by go_num, .inr (.inl ⟨rfl, rfl⟩), HD.out⟩
      case measure => simp [intOf]
    · have hc : wr.cell? ⟨g, 1, none⟩ = some (.slice A2 n2 c2) := by rw [HKR.out.cell]; rfl
      go_wp2
      go_roundw
      case rel => exact ⟨2, by omega, by go_num, .inr (.inr ⟨rfl, by first | rfl | (have := HSS.out; subst this; go_num)⟩), HD.out⟩
      case measure => simp [intOf]
    · go_wp2_with (go_at_call 184; refine (HGR.out _).mono ?_
                   rintro e w2 ⟨A4, c4, rfl, ho3, hb3⟩
                   have HO3 : Hid (w2.ownsRow w.heap.size 22 1 (.slice A4 0 c4) 0 []) := Lib.hid (World.ownsRow.mono_ ho3 (HD.out.below w.heap.size).size)
                   have HB3 : Hid (Below w.heap.size w w2) := Lib.hid ((HD.out.below _).trans (hb3.mono (HD.out.below w.heap.size).size))
                   clear ho3 hb3)
      go_loopw [6, 27] (fun ov iv wx => ∃ (i : Nat) (Ao : Option Addr) (no co : Nat), i ≤ 2 ∧ iv = .int .i64 i ∧ ov = .slice Ao no co ∧ wx.ownsRow w.heap.size 22 1 (.slice Ao no co) no (catH H1 H2 i) ∧ no = (catH H1 H2 i).length ∧ Below w.heap.size w wx)
        (fun _ iv _ => 2 - (intOf iv).toNat)
      case atStart => exact ⟨0, A4, 0, c4, by omega, rfl, rfl, HO3.out, rfl, HB3.out⟩
      case round =>
        obtain ⟨i, Ao, no, co, hi, rfl, rfl, hown, hnl, hbw⟩ := hrel
        have HO := Lib.hid hown
        have HB := Lib.hid hbw
        have HKX := Lib.hid (HK.out.below hbw HG.out)
        have HNO := Lib.hid hnl
        have HL1 := Lib.hid HH1.out.1
        have HL2 := Lib.hid HH2.out.1
        clear hown hnl hbw HO3 HB3
        have h3 : i = 0 ∨ i = 1 ∨ i = 2 := by omega
        rcases h3 with rfl | rfl | rfl
        · have hc : wr.cell? ⟨g, 0, none⟩ = some (.slice A1 n1 c1) := by rw [HKX.out.cell]; rfl
          have hno : no = 0 := HNO.out
          go_wp2_with (at_builtin; refine wpList_append_hd rfl (.tmp 31) (.tmp 32) rfl w.heap.size Ao no co [] A1 n1 c1 ls H1 rfl rfl HO.out (HH1.out.below HS1.out HB.out) HB.out.size (by omega) (by omega) ?_; intro A' c' w5 ho5 hb5)
          go_roundw
          case rel => exact ⟨1, A', n1, c', by omega, by go_num, rfl, by rw [hno, Nat.zero_add] at ho5; exact ho5, HL1.out.symm, HB.out.trans hb5⟩
          case measure => simp [intOf]
        · have hc : wr.cell? ⟨g, 1, none⟩ = some (.slice A2 n2 c2) := by rw [HKX.out.cell]; rfl
          have hno : no = n1 := by rw [HNO.out]; exact HL1.out
          go_wp2_with (at_builtin; refine wpList_append_hd rfl (.tmp 31) (.tmp 32) rfl w.heap.size Ao no co H1 A2 n2 c2 us H2 rfl rfl HO.out (HH2.out.below HS2.out HB.out) HB.out.size (by omega) (by omega) ?_; intro A' c' w5 ho5 hb5)
          go_roundw
          case rel => exact ⟨2, A', n1 + n2, c', by omega, by go_num, rfl, by rw [hno] at ho5; exact ho5, by rw [← HL1.out, ← HL2.out]; simp [catH], HB.out.trans hb5⟩
          case measure => simp [intOf]
        · go_wp2
          go_ret
          obtain rfl : no = n1 + n2 := by rw [HNO.out, ← HL1.out, ← HL2.out]; simp [catH]
          exact ⟨Ao, co, rfl, (HH1.out.below HS1.out HB.out).cat (HH2.out.below HS2.out HB.out) HS1.out.1 HS2.out.1 HO.out, HB.out⟩
end Go.Proofs.Ytfaegfhbbkicgaa

/-
  What rows have in common with a flag, on the program's side. Conditions: the modulus is 2, 3, 5 or 7; sizes at most 7.
-/





namespace Go.Proofs.Ytfaegfhbbkicgaa
open Go.RowKit

set_option maxRecDepth 100000 in
set_option maxHeartbeats 8000000 in
theorem commonWith_any (p : Int) (C R i : Nat) (P : Option Addr) (n k : Nat) (AC : Option Addr) (nC cC : Nat) (AS : Option Addr) (cS : Nat) (d : List Int) (S : List (List Int)) (w : World) (hp : P7 p) (hs : SI w P n d) (hnk : n ≤ k) (hl : d.length = C * C) (hd : Rg p d) (hC1 : 1 ≤ C) (hC : C ≤ 7) (hS : LS w AS R S) (hSo : ∀ x, x ∈ S → x.length = C ∧ Rg p x) (hR : R ≤ 7) (hi : i ≤ C) :
    Calls Try.prog 69 #[.agg #[.int .i64 p, .int .i64 C, .int .i64 C, .slice P n k, .slice AC nC cC], .slice AS R cS, .int .i64 i] w fun e w' => e = .returned (.int .i64 ((R : Int) + (i : Int) - (rnkL p (rowsC d C i C ++ S) : Int))) ∧ Below w.heap.size w w' := by
  obtain ⟨w1, hw1⟩ : ∃ w1, w1 = w.alloc (.cells #[.int .i64 p, .int .i64 C, .int .i64 C, .slice P n k, .slice AC nC cC] 76) := ⟨_, rfl⟩
  obtain ⟨g, hg⟩ : ∃ g, g = w.heap.size := ⟨_, rfl⟩
  have HK0 : Hid (Blk w1 g 76 #[.int .i64 p, .int .i64 C, .int .i64 C, .slice P n k, .slice AC nC cC]) := Lib.hid (by rw [hw1, hg]; exact Blk.new _ _ _)
  have hb : Below w.heap.size w w1 := by rw [hw1]; go_grown
  have HB := Lib.hid hb
  have HW := Lib.hid hw1
  have HG := Lib.hid hg
  have HSD := Lib.hid (hs.below hb (Nat.le_refl _))
  have HLS := Lib.hid (hS.below hb (Nat.le_refl _))
  have hp2 := hp.two
  have hCC : i * C ≤ n := by have h1 := hs.1; have h2 : i * C ≤ C * C := Nat.mul_le_mul hi (Nat.le_refl _); omega
  obtain ⟨bD, oD, hP⟩ : ∃ b o, P = some ⟨b, o, none⟩ := by obtain ⟨b, o, e, _⟩ := hs.2 (by have h1 := hs.1; have h2 : 1 * 1 ≤ C * C := Nat.mul_le_mul hC1 hC1; omega); exact ⟨b, o, e⟩
  subst hP
  have hn196 : n ≤ 196 := by have h1 := hs.1; have := nat_mul_small (r := C) (c := C) (by omega) (by omega); omega
  have HFR := Lib.hid (firstRows_any p (C : Int) (some ⟨bD, oD, none⟩) bD oD n k C i w1 (fun _ => rfl) ⟨hC1, by omega⟩ (by omega) hCC hnk (by omega))
  have HFL := Lib.hid (fun u (hbu : Below w1.heap.size w1 u) gg (h : OwnH u w1.heap.size gg i (fun j => (some ⟨bD, oD + j * C, none⟩, C, k - j * C))) => (h.ls (ls := rowsC d C i C) (rowsC_len ..) fun j hj => by
      have h5 : (j + 1) * C ≤ i * C := Nat.mul_le_mul (by omega) (Nat.le_refl _)
      rw [Nat.add_mul, Nat.one_mul] at h5
      refine ⟨by rw [rowsC_li hj]; exact (HSD.out.below hbu (Nat.le_refl _)).mid (C := C) (c := C) (i := j) (by omega), by show C ≤ k - j * C; omega, fun h => by cases h⟩))
  have hF := rowsC_ok (p := p) (d := d) (by omega) hd C i C
  have hFS := app_ok hF hSo
  have hFSl : (rowsC d C i C ++ S).length = i + R := by rw [List.length_append, rowsC_len, hS.1]
  have HEC := Lib.hid (fun u (B : Option Addr) (c : Nat) (h : LS u B (i + R) (rowsC d C i C ++ S)) => echelonOf_any p C B (i + R) c (rowsC d C i C ++ S) u hp h (by omega) hFS (by omega))
  obtain ⟨K, hK⟩ : ∃ K, K = rnkL p (rowsC d C i C ++ S) := ⟨_, rfl⟩
  have HK := Lib.hid hK
  rw [← hK]
  have hKb : K ≤ 14 := by rw [hK]; have h := rnkL_le p (rowsC d C i C ++ S); omega
  obtain ⟨Q, hQ⟩ : ∃ Q, Q = i + R := ⟨_, rfl⟩
  have HCT := Lib.hid (fun v gg cap A1 c1 (hb1 : Blk v gg 41 #[.slice A1 i c1, .slice AS R cS]) (h1 : LS v A1 i (rowsC d C i C)) (h2 : LS v AS R S) => concat2R_any gg cap i c1 R cS A1 AS (rowsC d C i C) S v hb1 h1 h2 (by omega) (by omega))
  rw [← hQ] at HEC HCT
  have hwr1 : IntKind.i64.wrap ((R : Int) + (i : Int)) = (R : Int) + (i : Int) := IntWalk.i64_in _ (by omega)
  have hwr2 : IntKind.i64.wrap ((R : Int) + (i : Int) - (K : Int)) = (R : Int) + (i : Int) - (K : Int) := IntWalk.i64_in _ (by omega)
  have q0 := HK0.out.cell 0
  have q1 := HK0.out.cell 1
  have q2 := HK0.out.cell 2
  have q3 := HK0.out.cell 3
  clear hw1 hg hb hs hS hd hSo hp hF hFS hFSl hK hKb hQ hCC
  go_enter Try.func69, Try.ntmps69
  go_upto_region 1 with fail
  rw [← HW.out, ← HG.out]
  go_upto_region 2 with (first
    | (go_at_call 62
       with_reducible refine (HFR.out).mono ?_
       rintro e w2 ⟨ga, rfl, hoh, hb2⟩
       have HB2 := Lib.hid hb2
       have HLA := Lib.hid (HFL.out w2 hb2 ga hoh)
       clear hoh hb2)
    | fail)
  clear q0 q1 q2 q3
  have MKS : Hid (∀ u, Below w2.heap.size w2 u → u.cell? ⟨g, 0, none⟩ = some (.int .i64 p)) := Lib.hid (fun u hb => (HK0.out.below (HB2.out.trans (hb.mono HB2.out.size)) HK0.out.lt).cell 0)
  have Hcd : Hid (Below w2.heap.size w2 w2.drew) := Lib.hid ((Below.refl _ _).drew)
  have Hal : Hid (∀ o, Below w2.heap.size w2 (w2.alloc o).drew) := Lib.hid (fun o => ((Below.refl _ _).alloc (Nat.le_refl _) o).drew)
  have Hal2 : Hid (∀ o, Below w2.heap.size w2 (w2.drew.alloc o)) := Lib.hid (fun o => ((Below.refl _ _).drew).alloc (Nat.le_refl _) o)
  go_region_held3 (fun u => u.cell? ⟨g, 0, none⟩ = some (.int .i64 p))
    (first | with_reducible exact MKS.out _ Hcd.out | with_reducible exact MKS.out _ (Hal.out _) | with_reducible exact MKS.out _ (Hal2.out _) | with_reducible exact MKS.out _ Hc3.out | with_reducible exact MKS.out _ Hc4.out | with_reducible exact MKS.out _ Hc5.out)
    (first
      | (go_at_call 135
         refine calls_here ?_
         intro v hu
         have Hv : Hid (Below w2.heap.size w2 v) := Lib.hid (by rw [hu]; first | exact Hal.out _ | exact Hal2.out _)
         have hbk : Blk v w2.heap.size 41 #[.slice (some ⟨ga, 0, none⟩) i i, .slice AS R cS] := by rw [hu]; first | exact (Blk.new w2 _ _).drewN 1 | exact Blk.new w2.drew _ _
         with_reducible refine (HCT.out v w2.heap.size _ (some ⟨ga, 0, none⟩) i hbk (HLA.out.below Hv.out (Nat.le_refl _)) (HLS.out.below (HB2.out.trans (Hv.out.mono HB2.out.size)) (Nat.le_refl _))).mono ?_
         rintro e u3 ⟨A3, c3, rfl, hls3, hb3⟩
         have Hc3 : Hid (Below w2.heap.size w2 u3) := Lib.hid (Hv.out.trans (hb3.mono Hv.out.size))
         have HL3 := Lib.hid hls3
         clear hu hbk hls3 hb3)
      | (go_at_call 128
         with_reducible refine (HEC.out u3 A3 c3 HL3.out).mono ?_
         rintro e u4 ⟨AR, nR, cR, AC4, nC4, cC4, rfl, hoR, _, hb4⟩
         have Hc4 : Hid (Below w2.heap.size w2 u4) := Lib.hid (Hc3.out.trans (hb4.mono Hc3.out.size))
         obtain rfl : nR = K := by have h := hoR.len; rw [List.length_map] at h; rw [HK.out, ← h]; rfl
         clear hoR hb4)
      | (go_at_call 129
         with_reducible refine (ecRank_any p AR AC4 nR cR nC4 cC4 u4).mono ?_
         rintro e u5 ⟨rfl, hb5⟩
         have Hc5 : Hid (Below w2.heap.size w2 u5) := Lib.hid (Hc4.out.trans (hb5.mono Hc4.out.size))
         clear hb5))
  go_wp2
  go_ret
  exact ⟨rfl, HB.out.trans ((HB2.out.trans (Hc5.out.mono HB2.out.size)).mono HB.out.size)⟩
/-- The steps as far as a member. -/
def stpL (C : Nat) (cm : Nat → Int) (j : Nat) : List Int := (List.range C).map fun q => if q < j then cm (q + 1) - cm q else 0
theorem stpL_len (C : Nat) (cm : Nat → Int) (j : Nat) : (stpL C cm j).length = C := by simp [stpL]
theorem stpL_nth {C : Nat} {cm : Nat → Int} {j q : Nat} (h : q < C) : nth (stpL C cm j) q = if q < j then cm (q + 1) - cm q else 0 := nth_rangeMap _ h
theorem stpL_zero (C : Nat) (cm : Nat → Int) : stpL C cm 0 = List.replicate C 0 := nth_ext (by rw [stpL_len]; simp) fun q hq => by
  rw [stpL_len] at hq
  rw [stpL_nth hq, if_neg (by omega)]; simp [nth, List.getD, hq]
theorem stpL_all (C : Nat) (cm : Nat → Int) : stpL C cm C = (List.range C).map fun j => cm (j + 1) - cm j := by
  unfold stpL
  refine List.map_congr_left fun q hq => ?_
  rw [if_pos (List.mem_range.1 hq)]
theorem stpL_succ {C : Nat} {cm : Nat → Int} {j : Nat} (h : j < C) : (stpL C cm j).set j (cm (j + 1) - cm j) = stpL C cm (j + 1) := nth_ext (by rw [List.length_set, stpL_len, stpL_len]) fun q hq => by
  rw [List.length_set, stpL_len] at hq
  rw [nth_set_at (by rw [stpL_len]; exact h), stpL_nth hq, stpL_nth hq]
  by_cases e : q = j
  · subst e; rw [if_pos rfl, if_pos (by omega)]
  · rw [if_neg e]
    by_cases hlt : q < j
    · rw [if_pos hlt, if_pos (by omega)]
    · rw [if_neg hlt, if_neg (by omega)]
set_option maxRecDepth 100000 in
set_option maxHeartbeats 8000000 in
theorem stepsTo_any (p : Int) (C R : Nat) (P : Option Addr) (n k : Nat) (AC : Option Addr) (nC cC : Nat) (AS : Option Addr) (cS : Nat) (d : List Int) (S : List (List Int)) (cm : Nat → Int) (w : World) (hp : P7 p) (hs : SI w P n d) (hnk : n ≤ k) (hl : d.length = C * C) (hd : Rg p d) (hC1 : 1 ≤ C) (hC : C ≤ 7) (hS : LS w AS R S) (hSo : ∀ x, x ∈ S → x.length = C ∧ Rg p x) (hR : R ≤ 7) (h0 : cm 0 = 0) (hcm : ∀ i, i ≤ C → (R : Int) + (i : Int) - (rnkL p (rowsC d C i C ++ S) : Int) = cm i) :
    Calls Try.prog 61 #[.agg #[.int .i64 p, .int .i64 C, .int .i64 C, .slice P n k, .slice AC nC cC], .slice AS R cS] w fun e w' => Fresh w w' e ((List.range C).map fun j => cm (j + 1) - cm j) := by
  obtain ⟨w1, hw1⟩ : ∃ w1, w1 = w.alloc (.cells #[.int .i64 p, .int .i64 C, .int .i64 C, .slice P n k, .slice AC nC cC] 76) := ⟨_, rfl⟩
  obtain ⟨g, hg⟩ : ∃ g, g = w.heap.size := ⟨_, rfl⟩
  have HK0 : Hid (Blk w1 g 76 #[.int .i64 p, .int .i64 C, .int .i64 C, .slice P n k, .slice AC nC cC]) := Lib.hid (by rw [hw1, hg]; exact Blk.new _ _ _)
  have hb : Below w.heap.size w w1 := by rw [hw1]; go_grown
  have HB := Lib.hid hb
  have HW := Lib.hid hw1
  have HG := Lib.hid hg
  have HSZ : Hid (w1.heap.size = g + 1) := Lib.hid (by rw [hw1, hg]; simp)
  have HSD := Lib.hid (hs.below hb (Nat.le_refl _))
  have HLS := Lib.hid (hS.below hb (Nat.le_refl _))
  have HLN := Lib.hid hs.1
  have HCW := Lib.hid (fun u (hbu : Below w1.heap.size w1 u) (i : Nat) (hi : i ≤ C) => commonWith_any p C R i P n k AC nC cC AS cS d S u hp (HSD.out.below hbu (Nat.le_refl _)) hnk hl hd hC1 hC (HLS.out.below hbu (Nat.le_refl _)) hSo hR hi)
  have HCM := Lib.hid hcm
  have HC0 := Lib.hid h0
  have HCB : Hid (∀ i, i ≤ C → -7 ≤ cm i ∧ cm i ≤ 14) := Lib.hid (fun i hi => by have h := hcm i hi; have h2 := rnkL_le p (rowsC d C i C ++ S); rw [List.length_append, rowsC_len, hS.1] at h2; omega)
  obtain ⟨q0, q1, q2, q3⟩ : w1.cell? ⟨g, 0, none⟩ = _ ∧ w1.cell? ⟨g, 1, none⟩ = _ ∧ w1.cell? ⟨g, 2, none⟩ = some (.int .i64 C) ∧ w1.cell? ⟨g, 3, none⟩ = _ := ⟨HK0.out.cell 0, HK0.out.cell 1, HK0.out.cell 2, HK0.out.cell 3⟩
  clear hw1 hg hb hs hS hd hSo hp hcm h0
  go_enter Try.func61, Try.ntmps61
  go_upto_region 1 with fail
  rw [← HW.out, ← HG.out]
  go_upto_region 2 with (first
    | (at_make; refine wpList_make_zero rfl (.tmp 11) (.tmp 11) rfl C rfl rfl (by omega) ?_; intro w2 ho2 hb2; have HO2 := Lib.hid ho2; have HB2 := Lib.hid hb2; obtain ⟨gs, hgs⟩ : ∃ q, q = w1.heap.size := ⟨_, rfl⟩; have HGS := Lib.hid hgs; rw [← hgs]; clear ho2 hb2 hgs)
    | fail)
  clear q0 q1 q2 q3
  have HST : Hid (Own w2 w1.heap.size w2.heap.size (some ⟨gs, 0, none⟩) C C (stpL C cm 0)) := Lib.hid (by rw [HGS.out, stpL_zero]; exact HO2.out)
  obtain ⟨hi2, hhi2⟩ : ∃ q, q = w2.heap.size := ⟨_, rfl⟩
  rw [← hhi2] at HST
  have HHI : Hid (hi2 ≤ w2.heap.size) := Lib.hid (Nat.le_of_eq hhi2)
  clear hhi2
  go_wp2_with fail
  go_loopw [6, 15] (fun bv jv wr => ∃ j : Nat, j ≤ C ∧ jv = .int .i64 j ∧ bv = .int .i64 (cm j) ∧ Own wr w1.heap.size hi2 (some ⟨gs, 0, none⟩) C C (stpL C cm j) ∧ hi2 ≤ wr.heap.size ∧ Below w1.heap.size w1 wr)
    (fun _ jv _ => C - (intOf jv).toNat)
  case atStart => exact ⟨0, Nat.zero_le _, rfl, by rw [HC0.out], HST.out, HHI.out, HB2.out⟩
  case round =>
    obtain ⟨j, hj, rfl, rfl, ho, hhi, hbr⟩ := hrel
    skip
    have HO := Lib.hid ho
    have HH := Lib.hid hhi
    have HBR := Lib.hid hbr
    clear ho hhi hbr
    by_cases hjC : j < C
    case neg =>
      obtain rfl : j = C := by omega
      go_wp2
      go_ret
      exact ⟨some ⟨gs, 0, none⟩, j, j, rfl, by have h := HO.out; rw [stpL_all] at h; exact h.wide (by have := HSZ.out; have := HG.out; omega) HH.out, HB.out.trans (HBR.out.mono HB.out.size)⟩
    case pos =>
      have hjI : (j : Int) < (C : Int) := by omega
      have HCJ := Lib.hid (HCW.out wr HBR.out (j + 1) (by omega))
      rw [HCM.out (j + 1) (by omega)] at HCJ
      obtain ⟨a, ha⟩ : ∃ a, a = cm j := ⟨_, rfl⟩
      obtain ⟨b, hbv⟩ : ∃ b, b = cm (j + 1) := ⟨_, rfl⟩
      have hab := HCB.out j (by omega)
      have hbb := HCB.out (j + 1) (by omega)
      rw [← ha] at hab ⊢
      rw [← hbv] at hbb HCJ
      have hwr1 : IntKind.i64.wrap (b - a) = b - a := IntWalk.i64_in _ (by omega)
      have HST2 : Hid ((stpL C cm j).set j (b - a) = stpL C cm (j + 1)) := Lib.hid (by rw [ha, hbv]; exact stpL_succ hjC)
      have HBV := Lib.hid hbv
      clear ha hbv hab hbb
      simp only [Int.natCast_add, Int.natCast_one] at HCJ
      have hwj : IntKind.i64.wrap ((j : Int) + 1) = (j : Int) + 1 := IntWalk.i64_in _ (by omega)
      go_wp2_with (first
        | (refine wpList_load_rowP rfl 76 (.tmp 2) rfl g rfl 76 #[.int .i64 p, .int .i64 C, .int .i64 C, .slice P n k, .slice AC nC cC] _ (HK0.out.below HBR.out HK0.out.lt) Try.underlying76 rfl Try.infoNf ?_)
        | (go_at_call 69
           with_reducible refine (HCJ.out).mono ?_
           rintro e w3 ⟨rfl, hb3⟩
           have HO3 := Lib.hid (HO.out.below hb3 HH.out)
           have HB3 : Hid (Below w1.heap.size w1 w3) := Lib.hid (HBR.out.trans (hb3.mono HBR.out.size))
           have hsz3 := hb3.size
           have cc := HO3.out.cellAt hjC
           have ff := HO3.out.frozenAt j
           clear hb3)
        | fail)
      go_roundw
      case rel =>
        obtain ⟨h1, h2⟩ := HO3.out.set_ (k := j) (b - a)
        rw [HST2.out] at h1
        have h3 := HO3.out.lt gs rfl
        have h4 := HH.out
        have h5 := h2.size
        exact ⟨j + 1, by omega, by go_num, by rw [HBV.out], h1, by omega, HB3.out.grown h2 HB3.out.size (by rintro z ⟨⟩; exact h3.1)⟩
      case measure => simp [intOf]; omega

end Go.Proofs.Ytfaegfhbbkicgaa
