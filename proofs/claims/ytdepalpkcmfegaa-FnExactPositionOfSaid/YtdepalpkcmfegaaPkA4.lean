/-
  Texts FlgS to FlgJ, merged. Conditions: as each says.
-/
import Derived.Test.YtdepalpkcmfegaaPkA3
/-
  Flags on the document's side. Conditions: lengths below 2^40.
-/





namespace Go.Proofs.Ytdepalpkcmfegaa
open Go.RowKit

set_option maxRecDepth 100000 in
set_option maxHeartbeats 4000000 in
theorem specFlagOk_any (p r c : Int) (A : Option Addr) (n k : Nat) (xs : List Int) (w : World) (hs : SI w A n xs) (hn : n ≤ 1099511627776) :
    Calls Try.prog 26 #[.agg #[.int .i64 p, .int .i64 r, .int .i64 c, .slice A n k]] w fun e w' => e = .returned (.bool (flagB p r c xs)) ∧ Below w.heap.size w w' := by
  obtain ⟨w1, hw1⟩ : ∃ w1, w1 = (w.alloc (.cells #[.int .i64 p, .int .i64 r, .int .i64 c, .slice A n k] 26)) := ⟨_, rfl⟩
  obtain ⟨g, hg⟩ : ∃ g, g = w.heap.size := ⟨_, rfl⟩
  have HK0 : Hid (Blk w1 (g) 26 #[.int .i64 p, .int .i64 r, .int .i64 c, .slice A n k]) := Lib.hid (by rw [hw1, hg]; have := Blk.new w 26 #[.int .i64 p, .int .i64 r, .int .i64 c, .slice A n k]; simpa using this)
  have hb : Below w.heap.size w w1 := by rw [hw1]; go_grown
  have HB := Lib.hid hb
  have HW := Lib.hid hw1
  have HG := Lib.hid hg
  have HSZ : Hid (w1.heap.size = g + 1) := Lib.hid (by rw [hw1, hg]; simp)
  have HS := Lib.hid (hs.below hb (Nat.le_refl _))
  have HL := Lib.hid hs.1
  have HMO := Lib.hid (fun w' (hb' : Below w1.heap.size w1 w') => specMatrixOk_any p r c A n k xs w' ((hs.below hb (Nat.le_refl _)).below hb' (Nat.le_refl _)) hn)
  have hqd : w1.drew.cell? ⟨g, 0, none⟩ = some (.int .i64 p) ∧ w1.drew.cell? ⟨g, 1, none⟩ = some (.int .i64 r) ∧ w1.drew.cell? ⟨g, 2, none⟩ = some (.int .i64 c) ∧ w1.drew.cell? ⟨g, 3, none⟩ = some (.slice A n k) := cells4 HK0.out
  have HQD := Lib.hid hqd
  have HQ := Lib.hid (cells4 HK0.out)
  clear hqd
  clear hw1 hg hb hs
  cases hm : matB p r c xs with
  | false =>
    rw [hm] at HMO
    have HM := Lib.hid hm
    clear hm
    go_enter Try.func26, Try.ntmps26
    go_upto_region 1 with fail
    rw [← HW.out, ← HG.out]
    obtain ⟨q0, q1, q2, q3⟩ := HQ.out
    first
      | (go_region_with (first
          | (go_at_call 62
             with_reducible refine (HMO.out _ ((Below.refl _ _).drew)).mono ?_
             rintro e w2 ⟨rfl, hb2⟩
             have HB2 : Hid (Below w1.heap.size w1 w2) := Lib.hid (((Below.refl _ _).drew).trans hb2)
             clear hb2)
          ))
      | fail
    all_goals
      (go_wp2
       go_ret
       exact ⟨ret_bool (flagB_no1 HM.out).symm, HB.out.trans (HB2.out.mono HB.out.size)⟩)
  | true =>
    rw [hm] at HMO
    by_cases hrc : r = c
    case neg =>
      have HRC := Lib.hid hrc
      have hrcb : (r == c) = false := by simpa using hrc
      clear hm
      go_enter Try.func26, Try.ntmps26
      go_upto_region 1 with fail
      rw [← HW.out, ← HG.out]
      obtain ⟨q0, q1, q2, q3⟩ := HQ.out
      first
        | (go_region_with (first
            | (go_at_call 62
               with_reducible refine (HMO.out _ ((Below.refl _ _).drew)).mono ?_
               rintro e w2 ⟨rfl, hb2⟩
               have HB2 : Hid (Below w1.heap.size w1 w2) := Lib.hid (((Below.refl _ _).drew).trans hb2)
               obtain ⟨t0, t1, t2, t3⟩ := cells4 (HK0.out.below HB2.out HK0.out.lt)
               clear hb2)
            ))
        | fail
      all_goals
        (go_wp2
         go_ret
         exact ⟨ret_bool (flagB_no2 HRC.out).symm, HB.out.trans (HB2.out.mono HB.out.size)⟩)
    case pos =>
      subst hrc
      have HM := Lib.hid (matB_P hm)
      obtain ⟨R, C, rfl, e, hR7, hC1, hC7, hxl⟩ := HM.out.nats
      obtain rfl : C = R := by omega
      have HFF : Hid (∀ K, K = rnkL p (rowsC xs C C C) → flagB p C C xs = decide (K = C)) := Lib.hid (fun K e => by subst e; simpa using flagB_rk hm rfl)
      obtain ⟨K, hK⟩ : ∃ K, K = rnkL p (rowsC xs C C C) := ⟨_, rfl⟩
      have HF := Lib.hid (HFF.out K hK)
      have HRK := Lib.hid (fun w' (hb' : Below w1.heap.size w1 w') => l7Rank_any p C C A n k xs (rowsC xs C C C) w' HM.out.1 (HS.out.below hb' (Nat.le_refl _)) (by omega) (by omega) HM.out.rg hxl (rowsC_len ..) (rowsC_ok (by have := HM.out.1.two; omega) HM.out.rg C C C) (fun x y hx hy => by rw [rowsC_li hx, rowC_nth hy]))
      rw [← hK] at HRK
      clear hm hxl e hK
      go_enter Try.func26, Try.ntmps26
      go_upto_region 1 with fail
      rw [← HW.out, ← HG.out]
      go_region_held3 (fun u => u.cell? ⟨g, 0, none⟩ = some (.int .i64 p) ∧ u.cell? ⟨g, 1, none⟩ = some (.int .i64 C) ∧ u.cell? ⟨g, 2, none⟩ = some (.int .i64 C) ∧ u.cell? ⟨g, 3, none⟩ = some (.slice A n k))
        (first | with_reducible exact HQD.out | with_reducible exact HQ.out | with_reducible exact K2 | with_reducible exact K3)
        (first
          | (go_at_call 68
             with_reducible refine (HRK.out _ HB2.out).mono ?_
             rintro e w3 ⟨rfl, hb3⟩
             have HB3 : Hid (Below w1.heap.size w1 w3) := Lib.hid (HB2.out.trans (hb3.mono HB2.out.size))
             have K3 := cells4 (HK0.out.below HB3.out HK0.out.lt)
             clear hb3)
          | (go_at_call 62
             with_reducible refine (HMO.out _ ((Below.refl _ _).drew)).mono ?_
             rintro e w2 ⟨rfl, hb2⟩
             have HB2 : Hid (Below w1.heap.size w1 w2) := Lib.hid (((Below.refl _ _).drew).trans hb2)
             have K2 := cells4 (HK0.out.below HB2.out HK0.out.lt)
             clear hb2))
      go_wp2
      go_ret
      exact ⟨ret_bool (by rw [HF.out]; by_cases e : K = C <;> simp [e] <;> omega), HB.out.trans (HB3.out.mono HB.out.size)⟩
set_option maxRecDepth 100000 in
set_option maxHeartbeats 4000000 in
theorem specNormalFlag_z (p r c : Int) (A : Option Addr) (n k : Nat) (xs : List Int) (w : World) (hs : SI w A n xs) (hn : n ≤ 1099511627776) (zp zr zc : Int) (z : List Int) (ok : Bool) (hz : NfIs p r c xs zp zr zc z ok) :
    Calls Try.prog 28 #[.agg #[.int .i64 p, .int .i64 r, .int .i64 c, .slice A n k]] w fun e w' => FreshMxB w w' e zp zr zc z ok := by
  obtain ⟨w1, hw1⟩ : ∃ w1, w1 = ((w.alloc (.cells #[.int .i64 p, .int .i64 r, .int .i64 c, .slice A n k] 26)).alloc (.cells #[.int .i64 0, .int .i64 0, .int .i64 0, .slice none 0 0] 26)) := ⟨_, rfl⟩
  obtain ⟨g, hg⟩ : ∃ g, g = w.heap.size := ⟨_, rfl⟩
  have HK0 : Hid (Blk w1 (g) 26 #[.int .i64 p, .int .i64 r, .int .i64 c, .slice A n k]) := Lib.hid (by rw [hw1, hg]; have := (Blk.new w 26 #[.int .i64 p, .int .i64 r, .int .i64 c, .slice A n k]).alloc (.cells #[.int .i64 0, .int .i64 0, .int .i64 0, .slice none 0 0] 26); simpa using this)
  have HK1 : Hid (Blk w1 (g + 1) 26 #[.int .i64 0, .int .i64 0, .int .i64 0, .slice none 0 0]) := Lib.hid (by rw [hw1, hg]; have := Blk.new (w.alloc (.cells #[.int .i64 p, .int .i64 r, .int .i64 c, .slice A n k] 26)) 26 #[.int .i64 0, .int .i64 0, .int .i64 0, .slice none 0 0]; simpa using this)
  have hb : Below w.heap.size w w1 := by rw [hw1]; go_grown
  have HB := Lib.hid hb
  have HW := Lib.hid hw1
  have HG := Lib.hid hg
  have HSZ : Hid (w1.heap.size = g + 2) := Lib.hid (by rw [hw1, hg]; simp)
  have HS := Lib.hid (hs.below hb (Nat.le_refl _))
  have HL := Lib.hid hs.1
  have HFO := Lib.hid (specFlagOk_any p r c A n k xs w1 (hs.below hb (Nat.le_refl _)) hn)
  clear hw1 hg hb hs
  cases hu : flagB p r c xs with
  | false =>
    rw [hu] at HFO
    obtain rfl : ok = false := by rw [hz.1, hu]
    obtain ⟨rfl, rfl, rfl, rfl⟩ := hz.2.2 rfl
    clear hz hu
    go_enter Try.func28, Try.ntmps28
    go_upto_region 1 with fail
    rw [← HW.out, ← HG.out]
    go_wp2_with (first
      | (refine wpList_load_rowP rfl 26 (.tmp 1) rfl g rfl 26 #[.int .i64 p, .int .i64 r, .int .i64 c, .slice A n k] _ HK0.out Try.underlying26 rfl Try.infoMx ?_)
      | (go_at_call 26
         with_reducible refine (HFO.out).mono ?_
         rintro e w2 ⟨rfl, hb2⟩
         have HB2 := Lib.hid hb2
         have HR2 := Lib.hid (HK1.out.below hb2 HK1.out.lt)
         clear hb2)
      | (refine wpList_store_rowP rfl 26 (.tmp 2) (.tmp 9) rfl (g + 1) #[.int .i64 0, .int .i64 0, .int .i64 0, .slice none 0 0] rfl rfl 26 #[.int .i64 0, .int .i64 0, .int .i64 0, .slice none 0 0] HR2.out Try.infoMx rfl (by simp [Value.oneCell']) ?_; intro w5 hb5 hg5)
      | fail)
    refine bodyPost_ret (results_mx_tmp Try.results28 _ _ _ 26 #[.int .i64 0, .int .i64 0, .int .i64 0, .slice none 0 0] _ rfl hb5 Try.underlying26 rfl Try.infoMx) rfl ?_
    exact FreshMxB.zero (HB.out.trans (HB2.out.mono HB.out.size)) (by have := HG.out; omega) hg5
  | true =>
    rw [hu] at HFO
    obtain rfl : ok = true := by rw [hz.1, hu]
    obtain ⟨rfl, rfl, rfl, rfl⟩ := hz.2.1 rfl
    obtain ⟨C, rfl, rfl, hp7, hC1, hC7, hxl, hxr, hfull⟩ := flagB_yes hu
    simp only [Int.toNat_natCast, nfX]
    have HNO := Lib.hid (fun w' (hb' : Below w1.heap.size w1 w') => l7Normal_any zp C A n k xs w' hp7 (HS.out.below hb' (Nat.le_refl _)) (by omega) hC1 hxr hxl hfull)
    obtain ⟨X, hX⟩ : ∃ X, X = flatK C C ((echel zp (rowsC xs C C C)).map (·.1)) C := ⟨_, rfl⟩
    rw [← hX] at HNO ⊢
    clear hz hu hp7 hxl hxr hfull hX
    go_enter Try.func28, Try.ntmps28
    go_upto_region 1 with fail
    rw [← HW.out, ← HG.out]
    go_wp2_with (first
      | (refine wpList_load_rowP rfl 26 (.tmp 1) rfl g rfl 26 #[.int .i64 zp, .int .i64 C, .int .i64 C, .slice A n k] _ HK0.out Try.underlying26 rfl Try.infoMx ?_)
      | (refine wpList_load_rowP rfl 26 (.tmp 1) rfl g rfl 26 #[.int .i64 zp, .int .i64 C, .int .i64 C, .slice A n k] _ (HK0.out.below HB2.out HK0.out.lt) Try.underlying26 rfl Try.infoMx ?_)
      | (go_at_call 26
         with_reducible refine (HFO.out).mono ?_
         rintro e w2 ⟨rfl, hb2⟩
         have HB2 := Lib.hid hb2
         have HR2 := Lib.hid (HK1.out.below hb2 HK1.out.lt)
         clear hb2)
      | (go_at_call 70
         with_reducible refine (HNO.out _ HB2.out).mono ?_
         rintro e w3 ⟨A3, k3, Ap, np, cp, rfl, ho3, _, hb3⟩
         have HO3 := Lib.hid ho3
         have HB3 : Hid (Below w1.heap.size w1 w3) := Lib.hid (HB2.out.trans (hb3.mono HB2.out.size))
         have HZ3 := Lib.hid hb3.size
         clear ho3 hb3)
      | (refine wpList_store_rowP rfl 26 (.tmp 4) (.tmp 13) rfl w3.heap.size #[.int .i64 zp, .int .i64 C, .int .i64 C, .slice A3 n k3] rfl rfl 26 #[.int .i64 0, .int .i64 0, .int .i64 0, .slice none 0 0] (Blk.new _ _ _) Try.infoMx rfl (by simp [Value.oneCell']) ?_; intro w4 hb4 hg4)
      | (refine wpList_load_rowP rfl 26 (.tmp 4) rfl w3.heap.size rfl 26 #[.int .i64 zp, .int .i64 C, .int .i64 C, .slice A3 n k3] _ hb4 Try.underlying26 rfl Try.infoMx ?_)
      | (refine wpList_store_rowP rfl 26 (.tmp 2) (.tmp 15) rfl (g + 1) #[.int .i64 zp, .int .i64 C, .int .i64 C, .slice A3 n k3] rfl rfl 26 #[.int .i64 0, .int .i64 0, .int .i64 0, .slice none 0 0] (((HK1.out.below HB3.out HK1.out.lt).alloc _).grown hg4 (fun e => by injection e with e; have := HK1.out.lt; have := HB3.out.size; omega)) Try.infoMx rfl (by simp [Value.oneCell']) ?_; intro w5 hb5 hg5)
      | fail)
    refine bodyPost_ret (results_mx_tmp Try.results28 _ _ _ 26 #[.int .i64 zp, .int .i64 C, .int .i64 C, .slice A3 n k3] _ rfl hb5 Try.underlying26 rfl Try.infoMx) rfl ?_
    have l1 := HSZ.out
    have l2 := HG.out
    have l3 := hg5.size
    have l4 := hg4.size
    have l5 := HB.out.size
    have l6 := HB2.out.size
    have l7 := HZ3.out
    have l8 : (w3.alloc (.cells #[.int .i64 0, .int .i64 0, .int .i64 0, .slice none 0 0] 26)).heap.size = w3.heap.size + 1 := by simp
    refine ⟨A3, n, k3, rfl, ?_, ?_⟩
    · exact ((((HO3.out.below (Below.alloc_self _ _) (Nat.le_refl _)).grown hg4 (fun q hq => by injection hq with hq; omega)).grown hg5 (fun q hq => by injection hq with hq; omega))).wide (by omega) (by omega)
    · exact ((((HB.out.trans (HB3.out.mono l5)).alloc (by omega) _).grown hg4 (by omega) (by rintro q ⟨⟩; omega))).grown hg5 (by omega) (by rintro q ⟨⟩; omega)
set_option maxRecDepth 100000 in
set_option maxHeartbeats 4000000 in
theorem specFlagPerm_any (p r c : Int) (A : Option Addr) (n k : Nat) (xs : List Int) (w : World) (hs : SI w A n xs) (hn : n ≤ 1099511627776) :
    Calls Try.prog 30 #[.agg #[.int .i64 p, .int .i64 r, .int .i64 c, .slice A n k]] w fun e w' => Fresh w w' e (flgW p r c xs) := by
  obtain ⟨w1, hw1⟩ : ∃ w1, w1 = (w.alloc (.cells #[.int .i64 p, .int .i64 r, .int .i64 c, .slice A n k] 26)) := ⟨_, rfl⟩
  obtain ⟨g, hg⟩ : ∃ g, g = w.heap.size := ⟨_, rfl⟩
  have HK0 : Hid (Blk w1 (g) 26 #[.int .i64 p, .int .i64 r, .int .i64 c, .slice A n k]) := Lib.hid (by rw [hw1, hg]; have := Blk.new w 26 #[.int .i64 p, .int .i64 r, .int .i64 c, .slice A n k]; simpa using this)
  have hb : Below w.heap.size w w1 := by rw [hw1]; go_grown
  have HB := Lib.hid hb
  have HW := Lib.hid hw1
  have HG := Lib.hid hg
  have HSZ : Hid (w1.heap.size = g + 1) := Lib.hid (by rw [hw1, hg]; simp)
  have HS := Lib.hid (hs.below hb (Nat.le_refl _))
  have HL := Lib.hid hs.1
  have HFO := Lib.hid (specFlagOk_any p r c A n k xs w1 (hs.below hb (Nat.le_refl _)) hn)
  clear hw1 hg hb hs
  cases hu : flagB p r c xs with
  | false =>
    rw [hu] at HFO
    have HU := Lib.hid hu
    clear hu
    go_enter Try.func30, Try.ntmps30
    go_upto_region 1 with fail
    rw [← HW.out, ← HG.out]
    go_wp2_with (first
      | (refine wpList_load_rowP rfl 26 (.tmp 1) rfl g rfl 26 #[.int .i64 p, .int .i64 r, .int .i64 c, .slice A n k] _ HK0.out Try.underlying26 rfl Try.infoMx ?_)
      | (go_at_call 26
         with_reducible refine (HFO.out).mono ?_
         rintro e w2 ⟨rfl, hb2⟩
         have HB2 := Lib.hid hb2
         clear hb2)
      | fail)
    go_ret
    exact ⟨none, 0, 0, rfl, by unfold flgW; rw [HU.out]; exact Own.nil _ _ _, HB.out.trans (HB2.out.mono HB.out.size)⟩
  | true =>
    rw [hu] at HFO
    have HU := Lib.hid hu
    obtain ⟨C, rfl, rfl, hp7, hC1, hC7, hxl, hxr, hfull⟩ := flagB_yes hu
    have HNO := Lib.hid (fun w' (hb' : Below w1.heap.size w1 w') => l7Normal_any p C A n k xs w' hp7 (HS.out.below hb' (Nat.le_refl _)) (by omega) hC1 hxr hxl hfull)
    clear hu hp7 hxl hxr hfull
    go_enter Try.func30, Try.ntmps30
    go_upto_region 1 with fail
    rw [← HW.out, ← HG.out]
    go_wp2_with (first
      | (refine wpList_load_rowP rfl 26 (.tmp 1) rfl g rfl 26 #[.int .i64 p, .int .i64 C, .int .i64 C, .slice A n k] _ HK0.out Try.underlying26 rfl Try.infoMx ?_)
      | (refine wpList_load_rowP rfl 26 (.tmp 1) rfl g rfl 26 #[.int .i64 p, .int .i64 C, .int .i64 C, .slice A n k] _ (HK0.out.below HB2.out HK0.out.lt) Try.underlying26 rfl Try.infoMx ?_)
      | (go_at_call 26
         with_reducible refine (HFO.out).mono ?_
         rintro e w2 ⟨rfl, hb2⟩
         have HB2 := Lib.hid hb2
         clear hb2)
      | (go_at_call 70
         with_reducible refine (HNO.out _ HB2.out).mono ?_
         rintro e w3 ⟨A3, k3, Ap, np, cp, rfl, _, ho3, hb3⟩
         have HO3 := Lib.hid ho3
         have HB3 : Hid (Below w1.heap.size w1 w3) := Lib.hid (HB2.out.trans (hb3.mono HB2.out.size))
         have HZ3 := Lib.hid hb3.size
         clear ho3 hb3)
      | (refine wpList_store_rowP rfl 26 (.tmp 3) (.tmp 11) rfl w3.heap.size #[.int .i64 p, .int .i64 C, .int .i64 C, .slice A3 n k3] rfl rfl 26 #[.int .i64 0, .int .i64 0, .int .i64 0, .slice none 0 0] (Blk.new _ _ _) Try.infoMx rfl (by simp [Value.oneCell']) ?_; intro w4 hb4 hg4)
      | fail)
    go_ret
    have l1 := HSZ.out
    have l4 := hg4.size
    have l5 := HB.out.size
    have l6 := HB2.out.size
    have l7 := HZ3.out
    have l8 : (w3.alloc (.cells #[.int .i64 0, .int .i64 0, .int .i64 0, .slice none 0 0] 26)).heap.size = w3.heap.size + 1 := by simp
    refine ⟨Ap, np, cp, rfl, ?_, ?_⟩
    · unfold flgW nfW
      rw [if_pos HU.out]
      simp only [Int.toNat_natCast]
      exact ((HO3.out.below (Below.alloc_self _ _) (Nat.le_refl _)).grown hg4 (fun q hq => by injection hq with hq; omega)).wide (by omega) (by omega)
    · exact ((HB.out.trans (HB3.out.mono l5)).alloc (by omega) _).grown hg4 (by omega) (by rintro q ⟨⟩; omega)

end Go.Proofs.Ytdepalpkcmfegaa

/-
  flagOf on the program's side. Conditions: lengths below 2^40.
-/






namespace Go.Proofs.Ytdepalpkcmfegaa
open Go.RowKit

theorem Try.infoNf : (Try.prog.info? 68).map (·.size) = some 5 := by kernel_rfl
/-- Rows that are kept, in a variable of its own. -/
def BoxE (w0 wx : World) (ge lo hi : Nat) (AR : Option Addr) (nR cR : Nat) (AC : Option Addr) (nC cC : Nat) (p : Int) (E : List (List Int × Int)) : Prop :=
  OwnL wx lo hi AR nR cR (E.map (·.1)) ∧ Own wx lo hi AC nC cC (E.map (·.2)) ∧ Blk wx ge 59 #[.int .i64 p, .slice AR nR cR, .slice AC nC cC] ∧ w0.heap.size ≤ lo ∧ hi ≤ wx.heap.size ∧ (ge < lo ∨ hi ≤ ge) ∧ w0.heap.size ≤ ge ∧ Below w0.heap.size w0 wx
theorem grown_put3 (w : World) (g : Nat) (a b c : Value) : w.grownBy (((w.setCell ⟨g, 0, none⟩ a).setCell ⟨g, 1, none⟩ b).setCell ⟨g, 2, none⟩ c) (some g) :=
  ((grown_setP w ⟨g, 0, none⟩ a).trans (grown_setP _ ⟨g, 1, none⟩ b)).trans (grown_setP _ ⟨g, 2, none⟩ c)
theorem below_put3 {B : Nat} {a w : World} (h : Below B a w) {g : Nat} (hg : B ≤ g) (x0 x1 x2 : Value) : Below B a (((w.setCell ⟨g, 0, none⟩ x0).setCell ⟨g, 1, none⟩ x1).setCell ⟨g, 2, none⟩ x2) :=
  ((h.setCell (p := ⟨g, 0, none⟩) hg x0).setCell (p := ⟨g, 1, none⟩) hg x1).setCell (p := ⟨g, 2, none⟩) hg x2
section
variable {w0 u w' : World} {ge lo hi : Nat} {AR : Option Addr} {nR cR : Nat} {AC : Option Addr} {nC cC : Nat} {p : Int} {E : List (List Int × Int)}
theorem BoxE.put (hR : OwnL u lo hi AR nR cR (E.map (·.1))) (hC : Own u lo hi AC nC cC (E.map (·.2))) {x0 x1 x2 : Value} (hk : Blk u ge 59 #[x0, x1, x2]) (h1 : w0.heap.size ≤ lo) (h2 : hi ≤ u.heap.size) (h3 : ge < lo ∨ hi ≤ ge) (h4 : w0.heap.size ≤ ge) (hb : Below w0.heap.size w0 u) :
    BoxE w0 (((u.setCell ⟨ge, 0, none⟩ (.int .i64 p)).setCell ⟨ge, 1, none⟩ (.slice AR nR cR)).setCell ⟨ge, 2, none⟩ (.slice AC nC cC)) ge lo hi AR nR cR AC nC cC p E := by
  have hg := grown_put3 u ge (.int .i64 p) (.slice AR nR cR) (.slice AC nC cC)
  have hb' := below_put3 hb h4 (.int .i64 p) (.slice AR nR cR) (.slice AC nC cC)
  exact ⟨hR.within (Within.of_grown hg (lo := ge) (hi := ge + 1) (fun k e => by injection e with e; omega)) (by omega), hC.grown hg (fun k hk => by injection hk with hk; omega), ((hk.set_ 0 _).set_ 1 _).set_ 2 _, h1, Nat.le_trans h2 hg.size, h3, h4, hb'⟩
theorem BoxE.new (hR : OwnL u lo hi AR nR cR (E.map (·.1))) (hC : Own u lo hi AC nC cC (E.map (·.2))) (h1 : w0.heap.size ≤ lo) (h2 : hi ≤ u.heap.size) (hb : Below w0.heap.size w0 u) :
    BoxE w0 (u.alloc (.cells #[.int .i64 p, .slice AR nR cR, .slice AC nC cC] 59)) u.heap.size lo hi AR nR cR AC nC cC p E :=
  ⟨hR.below (Below.alloc_self _ _) h2, hC.below (Below.alloc_self _ _) h2, Blk.new _ _ _, h1, by simp; omega, .inr h2, hb.size, hb.alloc hb.size _⟩
theorem BoxE.below (h : BoxE w0 u ge lo hi AR nR cR AC nC cC p E) (hb : Below u.heap.size u w') : BoxE w0 w' ge lo hi AR nR cR AC nC cC p E := by
  obtain ⟨h1, h2, h3, h4, h5, h6, h7, h8⟩ := h
  have hz := hb.size
  exact ⟨h1.below hb h5, h2.below hb h5, h3.below hb h3.lt, h4, by omega, h6, h7, h8.trans (hb.mono h8.size)⟩
end
theorem grown_put5 (w : World) (g : Nat) (a b c d e : Value) : w.grownBy (((((w.setCell ⟨g, 0, none⟩ a).setCell ⟨g, 1, none⟩ b).setCell ⟨g, 2, none⟩ c).setCell ⟨g, 3, none⟩ d).setCell ⟨g, 4, none⟩ e) (some g) :=
  ((((grown_setP w ⟨g, 0, none⟩ a).trans (grown_setP _ ⟨g, 1, none⟩ b)).trans (grown_setP _ ⟨g, 2, none⟩ c)).trans (grown_setP _ ⟨g, 3, none⟩ d)).trans (grown_setP _ ⟨g, 4, none⟩ e)
theorem Blk.eqE_ {v u : World} {g : Nat} {t : TypeId} {cs : Array Value} (h : v = u) (hb : Blk u g t cs) : Blk v g t cs := h ▸ hb
/-- What flagOf hands back. -/
def FreshNf (w w' : World) (e : Ending) (p r c : Int) (z ys : List Int) (ok : Bool) : Prop :=
  ∃ P m d AC nC cC, e = .returned (.tuple #[.agg #[.int .i64 p, .int .i64 r, .int .i64 c, .slice P m d, .slice AC nC cC], .bool ok]) ∧ Own w' w.heap.size w'.heap.size P m d z ∧ Own w' w.heap.size w'.heap.size AC nC cC ys ∧ Below w.heap.size w w'
theorem FreshNf.zero {w w1 w5 : World} {g : Nat} (hw : Below w.heap.size w w1) (hg : w.heap.size ≤ g) (hg5 : w1.grownBy w5 (some g)) : FreshNf w w5 (.returned (.tuple #[.agg #[.int .i64 0, .int .i64 0, .int .i64 0, .slice none 0 0, .slice none 0 0], .bool false])) 0 0 0 [] [] false :=
  ⟨none, 0, 0, none, 0, 0, rfl, Own.nil _ _ _, Own.nil _ _ _, hw.grown hg5 hw.size (by rintro q ⟨⟩; exact hg)⟩
set_option maxRecDepth 100000 in
set_option maxHeartbeats 16000000 in
theorem flagOf_z (p r c : Int) (A : Option Addr) (n k : Nat) (xs : List Int) (w : World) (hs : SI w A n xs) (hn : n ≤ 1099511627776) (hnk : n ≤ k) (zp zr zc : Int) (z : List Int) (ok : Bool) (hz : NfIs p r c xs zp zr zc z ok) :
    Calls Try.prog 69 #[.agg #[.int .i64 p, .int .i64 r, .int .i64 c, .slice A n k]] w fun e w' => FreshNf w w' e zp zr zc z (flgW p r c xs) ok := by
  obtain ⟨w1, hw1⟩ : ∃ w1, w1 = ((w.alloc (.cells #[.int .i64 p, .int .i64 r, .int .i64 c, .slice A n k] 26)).alloc (.cells #[.int .i64 0, .int .i64 0, .int .i64 0, .slice none 0 0, .slice none 0 0] 68)) := ⟨_, rfl⟩
  obtain ⟨g, hg⟩ : ∃ g, g = w.heap.size := ⟨_, rfl⟩
  have HK0 : Hid (Blk w1 (g) 26 #[.int .i64 p, .int .i64 r, .int .i64 c, .slice A n k]) := Lib.hid (by rw [hw1, hg]; have := (Blk.new w 26 #[.int .i64 p, .int .i64 r, .int .i64 c, .slice A n k]).alloc (.cells #[.int .i64 0, .int .i64 0, .int .i64 0, .slice none 0 0, .slice none 0 0] 68); simpa using this)
  have HK1 : Hid (Blk w1 (g + 1) 68 #[.int .i64 0, .int .i64 0, .int .i64 0, .slice none 0 0, .slice none 0 0]) := Lib.hid (by rw [hw1, hg]; have := Blk.new (w.alloc (.cells #[.int .i64 p, .int .i64 r, .int .i64 c, .slice A n k] 26)) 68 #[.int .i64 0, .int .i64 0, .int .i64 0, .slice none 0 0, .slice none 0 0]; simpa using this)
  have hb : Below w.heap.size w w1 := by rw [hw1]; go_grown
  have HB := Lib.hid hb
  have HW := Lib.hid hw1
  have HG := Lib.hid hg
  have HSZ : Hid (w1.heap.size = g + 2) := Lib.hid (by rw [hw1, hg]; simp)
  have HS := Lib.hid (hs.below hb (Nat.le_refl _))
  have HL := Lib.hid hs.1
  have HMO := Lib.hid (implMatrixOk_any p r c A n k xs w1 (hs.below hb (Nat.le_refl _)) hn)
  clear hw1 hg hb hs
  cases hm : matB p r c xs with
  | false =>
    rw [hm] at HMO
    have HFW : Hid (flgW p r c xs = []) := Lib.hid (by unfold flgW; rw [if_neg (by rw [flagB_no1 hm]; decide)])
    obtain rfl : ok = false := by rw [hz.1, flagB_no1 hm]
    obtain ⟨rfl, rfl, rfl, rfl⟩ := hz.2.2 rfl
    clear hz
    rw [HFW.out]
    clear hm
    go_enter Try.func69, Try.ntmps69
    go_upto_region 1 with fail
    rw [← HW.out, ← HG.out]
    go_wp2_with (first
      | (refine wpList_load_rowP rfl 26 (.tmp 1) rfl g rfl 26 #[.int .i64 p, .int .i64 r, .int .i64 c, .slice A n k] _ HK0.out Try.underlying26 rfl Try.infoMx ?_)
      | (go_at_call 64
         with_reducible refine (HMO.out).mono ?_
         rintro e w2 ⟨rfl, hb2⟩
         have HB2 := Lib.hid hb2
         have HR2 := Lib.hid (HK1.out.below hb2 HK1.out.lt)
         obtain ⟨q0, q1, q2, q3⟩ := cells4 (HK0.out.below hb2 HK0.out.lt)
         clear hb2)
      | (refine wpList_store_rowP rfl 68 (.tmp 2) (.tmp 15) rfl (g + 1) #[.int .i64 0, .int .i64 0, .int .i64 0, .slice none 0 0, .slice none 0 0] rfl rfl 68 #[.int .i64 0, .int .i64 0, .int .i64 0, .slice none 0 0, .slice none 0 0] HR2.out Try.infoNf rfl (by simp [Value.oneCell']) ?_; intro w5 hb5 hg5)
      | fail)
    refine bodyPost_ret (results_mx_tmp Try.results69 _ _ _ 68 #[.int .i64 0, .int .i64 0, .int .i64 0, .slice none 0 0, .slice none 0 0] _ rfl hb5 Try.underlying68 rfl Try.infoNf) rfl ?_
    exact FreshNf.zero (HB.out.trans (HB2.out.mono HB.out.size)) (by have := HG.out; omega) hg5
  | true =>
    rw [hm] at HMO
    by_cases hrc : r = c
    case neg =>
      have HFW : Hid (flgW p r c xs = []) := Lib.hid (by unfold flgW; rw [if_neg (by rw [flagB_no2 hrc]; decide)])
      obtain rfl : ok = false := by rw [hz.1, flagB_no2 hrc]
      obtain ⟨rfl, rfl, rfl, rfl⟩ := hz.2.2 rfl
      clear hz
      rw [HFW.out]
      have hrcb : (r != c) = true := by simpa using hrc
      clear hm
      go_enter Try.func69, Try.ntmps69
      go_upto_region 1 with fail
      rw [← HW.out, ← HG.out]
      go_wp2_with (first
        | (refine wpList_load_rowP rfl 26 (.tmp 1) rfl g rfl 26 #[.int .i64 p, .int .i64 r, .int .i64 c, .slice A n k] _ HK0.out Try.underlying26 rfl Try.infoMx ?_)
        | (go_at_call 64
           with_reducible refine (HMO.out).mono ?_
           rintro e w2 ⟨rfl, hb2⟩
           have HB2 := Lib.hid hb2
           have HR2 := Lib.hid (HK1.out.below hb2 HK1.out.lt)
           obtain ⟨q0, q1, q2, q3⟩ := cells4 (HK0.out.below hb2 HK0.out.lt)
           clear hb2)
        | (refine wpList_store_rowP rfl 68 (.tmp 2) (.tmp 15) rfl (g + 1) #[.int .i64 0, .int .i64 0, .int .i64 0, .slice none 0 0, .slice none 0 0] rfl rfl 68 #[.int .i64 0, .int .i64 0, .int .i64 0, .slice none 0 0, .slice none 0 0] HR2.out Try.infoNf rfl (by simp [Value.oneCell']) ?_; intro w5 hb5 hg5)
        | fail)
      refine bodyPost_ret (results_mx_tmp Try.results69 _ _ _ 68 #[.int .i64 0, .int .i64 0, .int .i64 0, .slice none 0 0, .slice none 0 0] _ rfl hb5 Try.underlying68 rfl Try.infoNf) rfl ?_
      exact FreshNf.zero (HB.out.trans (HB2.out.mono HB.out.size)) (by have := HG.out; omega) hg5
    case pos =>
      subst hrc
      have HM := Lib.hid (matB_P hm)
      obtain ⟨R, C, rfl, e, hR7, hC1, hC7, hxl⟩ := HM.out.nats
      obtain rfl : C = R := by omega
      clear e
      have HXL := Lib.hid hxl
      have HP7 := Lib.hid HM.out.1
      have hp2 := HM.out.1.two
      have hC0 : 0 < C := hC1
      have HROK := Lib.hid (rowsC_ok (by omega) HM.out.rg C C C)
      obtain ⟨E, hE⟩ : ∃ E, E = echel p (rowsC xs C C C) := ⟨_, rfl⟩
      have HE := Lib.hid hE
      have hELE : E.length ≤ C := by rw [hE]; have h := rnkL_le p (rowsC xs C C C); unfold rnkL at h; rw [rowsC_len] at h; exact h
      have HFB : Hid (E.length = C → flagB p C C xs = true) := Lib.hid (fun h => by simpa [rnkL, ← hE, h] using flagB_rk hm rfl)
      have HFN : Hid (E.length ≠ C → flagB p C C xs = false) := Lib.hid (fun h => by simpa [rnkL, ← hE, h] using flagB_rk hm rfl)
      have HEOK : Hid (EOk p C E) := Lib.hid (by rw [hE]; exact (echel_ok HM.out.1 HROK.out).1)
      clear hm hxl hE
      go_enter Try.func69, Try.ntmps69
      go_upto_region 1 with fail
      rw [← HW.out, ← HG.out]
      go_upto_region 3 with (first
        | (refine wpList_load_rowP rfl 26 (.tmp 1) rfl g rfl 26 #[.int .i64 p, .int .i64 C, .int .i64 C, .slice A n k] _ HK0.out Try.underlying26 rfl Try.infoMx ?_)
        | (go_at_call 64
           with_reducible refine (HMO.out).mono ?_
           rintro e w2 ⟨rfl, hb2⟩
           have HB2 := Lib.hid hb2
           have HR2 := Lib.hid (HK1.out.below hb2 HK1.out.lt)
           obtain ⟨q0, q1, q2, q3⟩ := cells4 (HK0.out.below hb2 HK0.out.lt)
           clear hb2)
        | fail)
      clear q0 q1 q2 q3
      have MKS : Hid (∀ u, Below w2.heap.size w2 u → (Below w2.heap.size w2 u ∧ u.cell? ⟨g, 0, none⟩ = some (.int .i64 p) ∧ u.cell? ⟨g, 1, none⟩ = some (.int .i64 C) ∧ u.cell? ⟨g, 2, none⟩ = some (.int .i64 C) ∧ u.cell? ⟨g, 3, none⟩ = some (.slice A n k))) := Lib.hid (fun u hb => ⟨hb, cells4 (HK0.out.below (HB2.out.trans (hb.mono HB2.out.size)) HK0.out.lt)⟩)
      have Hcd : Hid (Below w2.heap.size w2 w2.drew) := Lib.hid ((Below.refl _ _).drew)
      have Hal : Hid (∀ o, Below w2.heap.size w2 (w2.alloc o).drew) := Lib.hid (fun o => ((Below.refl _ _).alloc (Nat.le_refl _) o).drew)
      have HSU : Hid (∀ u, Below w2.heap.size w2 u → SI u A n xs) := Lib.hid (fun u hb => HS.out.below (HB2.out.trans (hb.mono HB2.out.size)) (Nat.le_refl _))
      go_cut [4] from 5 (fun p4 wx => ∃ ge lo hi AR nR cR AC nC cC, p4 = .pointer (some ⟨ge, 0, none⟩) ∧ BoxE w2 wx ge lo hi AR nR cR AC nC cC p E)
      case first =>
        go_region_held3 (fun u => Below w2.heap.size w2 u ∧ u.cell? ⟨g, 0, none⟩ = some (.int .i64 p) ∧ u.cell? ⟨g, 1, none⟩ = some (.int .i64 C) ∧ u.cell? ⟨g, 2, none⟩ = some (.int .i64 C) ∧ u.cell? ⟨g, 3, none⟩ = some (.slice A n k))
          (first | with_reducible exact MKS.out _ Hcd.out | with_reducible exact MKS.out _ Hcu0.out | with_reducible exact MKS.out _ HcuS.out | with_reducible exact MKS.out _ (Hal.out _) | with_reducible exact MKS.out _ (Below.alloc Hcu0.out Hcu0.out.size _) | with_reducible exact MKS.out _ (Below.alloc HcuS.out HcuS.out.size _) | exact MKS.out _ (below_put3 HcuS.out HGZS.out _ _ _) | exact MKS.out _ (Below.alloc HcuS.out HcuS.out.size _) | exact MKS.out _ (below_put3 (Below.alloc HcuS.out HcuS.out.size _) HcuS.out.size _ _ _))
          (first
            | (go_at_call 106
               refine calls_here ?_
               intro v1 hu
               have Hv : Hid (Below w2.heap.size w2 v1) := Lib.hid (by rw [hu]; first | exact Hcu0.out | exact Hcu0.out.alloc Hcu0.out.size _)
               have HT0 : Hid (LS v1 (some ⟨ga, 0, none⟩) C (rowsC xs C C C)) := Lib.hid (by rw [hu]; first | exact HS0.out | exact HS0.out.below (Below.alloc_self _ _) (Nat.le_refl _))
               first
                 | (have HZ1 : Hid (Blk v1 u0.heap.size 59 #[.int .i64 0, .slice none 0 0, .slice none 0 0]) := Lib.hid (by rw [hu]; exact Blk.new _ _ _))
                 | skip
               with_reducible refine (echelonOf_any p C (some ⟨ga, 0, none⟩) C C (rowsC xs C C C) v1 HP7.out HT0.out (by omega) HROK.out (by omega)).mono ?_
               rintro e uS ⟨AR, nR, cR, AC, nC, cC, rfl, hoR, hoC, hb⟩
               rw [← HE.out] at hoR hoC
               have HcuS : Hid (Below w2.heap.size w2 uS) := Lib.hid (Hv.out.trans (hb.mono Hv.out.size))
               first
                 | (have HY1 := Lib.hid (HZ1.out.below hb HZ1.out.lt); have HGZS : Hid (w2.heap.size ≤ u0.heap.size) := Lib.hid Hcu0.out.size; have rr0 := HY1.out.cell 0; have rr1 := HY1.out.cell 1; have rr2 := HY1.out.cell 2; have ff0 := HY1.out.frozen 0; have ff1 := HY1.out.frozen 1; have ff2 := HY1.out.frozen 2; have HBX2 := Lib.hid (BoxE.put (w0 := w2) (p := p) hoR hoC HY1.out Hv.out.size (Nat.le_refl _) (.inl HZ1.out.lt) HGZS.out HcuS.out))
                 | (have HZ1 := Lib.hid (Blk.eqE_ hu HY0.out); have HY1 := Lib.hid (HZ1.out.below hb HZ1.out.lt); have HGZS := HGZ; have rr0 := HY1.out.cell 0; have rr1 := HY1.out.cell 1; have rr2 := HY1.out.cell 2; have ff0 := HY1.out.frozen 0; have ff1 := HY1.out.frozen 1; have ff2 := HY1.out.frozen 2; have HBX2 := Lib.hid (BoxE.put (w0 := w2) (p := p) hoR hoC HY1.out Hv.out.size (Nat.le_refl _) (.inl HZ1.out.lt) HGZS.out HcuS.out))
                 | (have HBX2 := Lib.hid (BoxE.new (w0 := w2) (p := p) hoR hoC Hv.out.size (Nat.le_refl _) HcuS.out))
               clear hu hb hoR hoC)
            | (go_at_call 58
               refine calls_here ?_
               intro v0 hu
               have Hv : Hid (Below w2.heap.size w2 v0) := Lib.hid (by rw [hu]; first | exact Hcd.out | exact Hal.out _)
               first
                 | (have HZ0 : Hid (Blk v0 w2.heap.size 59 #[.int .i64 0, .slice none 0 0, .slice none 0 0]) := Lib.hid (by rw [hu]; first | exact Blk.new _ _ _ | exact (Blk.new w2 _ _).drewN 1))
                 | skip
               with_reducible refine (allRows_any p C C A n k xs v0 (HSU.out _ Hv.out) ⟨hC0, by omega⟩ (by omega) HXL.out hnk).mono ?_
               rintro e u0 ⟨ga, rfl, hls, hb⟩
               have Hcu0 : Hid (Below w2.heap.size w2 u0) := Lib.hid (Hv.out.trans (hb.mono Hv.out.size))
               have HS0 := Lib.hid hls
               first
                 | (have HY0 := Lib.hid (HZ0.out.below hb HZ0.out.lt); have HGZ : Hid (w2.heap.size ≤ w2.heap.size) := Lib.hid (Nat.le_refl _))
                 | skip
               clear hu hb hls))
        all_goals
          (go_wp2
           go_meet
           case rel => exact ⟨_, _, _, _, _, _, _, _, _, rfl, HBX2.out⟩)
      case rest =>
        obtain ⟨w3, hwc⟩ : ∃ v, v = wc := ⟨_, rfl⟩
        subst hwc
        obtain ⟨ge, lo, hi, AR, nR, cR, AC, nC, cC, rfl, hbx⟩ := hcut
        have HBX := Lib.hid hbx
        clear hbx MKS Hal Hcd HSU
        have HB3 : Hid (Below w1.heap.size w1 w3) := Lib.hid (HB2.out.trans (HBX.out.2.2.2.2.2.2.2.mono HB2.out.size))
        have HNR : Hid (nR = E.length) := Lib.hid (by have h := HBX.out.1.len; simpa using h.symm)
        have HRK := Lib.hid (fun u => ecRank_any p AR AC nR cR nC cC u)
        have MKS : Hid (∀ u, Below w3.heap.size w3 u → ((u.cell? ⟨g, 0, none⟩ = some (.int .i64 p) ∧ u.cell? ⟨g, 1, none⟩ = some (.int .i64 C) ∧ u.cell? ⟨g, 2, none⟩ = some (.int .i64 C) ∧ u.cell? ⟨g, 3, none⟩ = some (.slice A n k)) ∧ u.cell? ⟨ge, 0, none⟩ = some (.int .i64 p) ∧ u.cell? ⟨ge, 1, none⟩ = some (.slice AR nR cR) ∧ u.cell? ⟨ge, 2, none⟩ = some (.slice AC nC cC))) := Lib.hid (fun u hb => ⟨cells4 (HK0.out.below (HB3.out.trans (hb.mono HB3.out.size)) HK0.out.lt), (HBX.out.below hb).2.2.1.cell 0, (HBX.out.below hb).2.2.1.cell 1, (HBX.out.below hb).2.2.1.cell 2⟩)
        have HKd : Hid ((w3.drew.cell? ⟨g, 0, none⟩ = some (.int .i64 p) ∧ w3.drew.cell? ⟨g, 1, none⟩ = some (.int .i64 C) ∧ w3.drew.cell? ⟨g, 2, none⟩ = some (.int .i64 C) ∧ w3.drew.cell? ⟨g, 3, none⟩ = some (.slice A n k)) ∧ w3.drew.cell? ⟨ge, 0, none⟩ = some (.int .i64 p) ∧ w3.drew.cell? ⟨ge, 1, none⟩ = some (.slice AR nR cR) ∧ w3.drew.cell? ⟨ge, 2, none⟩ = some (.slice AC nC cC)) := Lib.hid (MKS.out _ ((Below.refl _ _).drew))
        have HKn := Lib.hid (MKS.out _ (Below.refl _ _))
        go_upto_region 4 with fail
        go_region_held3 (fun u => (u.cell? ⟨g, 0, none⟩ = some (.int .i64 p) ∧ u.cell? ⟨g, 1, none⟩ = some (.int .i64 C) ∧ u.cell? ⟨g, 2, none⟩ = some (.int .i64 C) ∧ u.cell? ⟨g, 3, none⟩ = some (.slice A n k)) ∧ u.cell? ⟨ge, 0, none⟩ = some (.int .i64 p) ∧ u.cell? ⟨ge, 1, none⟩ = some (.slice AR nR cR) ∧ u.cell? ⟨ge, 2, none⟩ = some (.slice AC nC cC))
          (first | with_reducible exact HKd.out | with_reducible exact HKn.out | with_reducible exact KA)
          (first
            | (go_at_call 114
               with_reducible refine (HRK.out _).mono ?_
               rintro e w4 ⟨rfl, hb4⟩
               have HB4 : Hid (Below w3.heap.size w3 w4) := Lib.hid (((Below.refl _ _).drew).trans hb4)
               have KA := MKS.out w4 HB4.out
               clear hb4))
        clear HKd HKn
        have HBX4 := Lib.hid (HBX.out.below HB4.out)
        have HB14 : Hid (Below w1.heap.size w1 w4) := Lib.hid (HB3.out.trans (HB4.out.mono HB3.out.size))
        have HR4 := Lib.hid (HK1.out.below HB14.out HK1.out.lt)
        have MKS4 : Hid (∀ u, Below w4.heap.size w4 u → ((u.cell? ⟨g, 0, none⟩ = some (.int .i64 p) ∧ u.cell? ⟨g, 1, none⟩ = some (.int .i64 C) ∧ u.cell? ⟨g, 2, none⟩ = some (.int .i64 C) ∧ u.cell? ⟨g, 3, none⟩ = some (.slice A n k)) ∧ u.cell? ⟨ge, 0, none⟩ = some (.int .i64 p) ∧ u.cell? ⟨ge, 1, none⟩ = some (.slice AR nR cR) ∧ u.cell? ⟨ge, 2, none⟩ = some (.slice AC nC cC))) := Lib.hid (fun u hb => MKS.out u (HB4.out.trans (hb.mono HB4.out.size)))
        clear MKS KA HRK
        by_cases hfu : E.length = C
        case neg =>
          have hnI : (nR : Int) < (C : Int) := by have := HNR.out; omega
          have HFW : Hid (flgW p C C xs = []) := Lib.hid (by unfold flgW; rw [if_neg (by rw [HFN.out hfu]; decide)])
          obtain rfl : ok = false := by rw [hz.1, HFN.out hfu]
          obtain ⟨rfl, rfl, rfl, rfl⟩ := hz.2.2 rfl
          clear hz
          go_wp2_with (first
            | (refine wpList_store_rowP rfl 68 (.tmp 2) (.tmp 26) rfl (g + 1) #[.int .i64 0, .int .i64 0, .int .i64 0, .slice none 0 0, .slice none 0 0] rfl rfl 68 #[.int .i64 0, .int .i64 0, .int .i64 0, .slice none 0 0, .slice none 0 0] HR4.out Try.infoNf rfl (by simp [Value.oneCell']) ?_; intro w5 hb5 hg5)
            | fail)
          refine bodyPost_ret (results_mx_tmp Try.results69 _ _ _ 68 #[.int .i64 0, .int .i64 0, .int .i64 0, .slice none 0 0, .slice none 0 0] _ rfl hb5 Try.underlying68 rfl Try.infoNf) rfl ?_
          rw [HFW.out]
          exact FreshNf.zero (HB.out.trans (HB14.out.mono HB.out.size)) (by have := HG.out; omega) hg5
        case pos =>
          have hnI : ¬ (nR : Int) < (C : Int) := by have := HNR.out; omega
          obtain rfl : ok = true := by rw [hz.1, HFB.out hfu]
          obtain ⟨rfl, rfl, rfl, rfl⟩ := hz.2.1 rfl
          have HFW : Hid (flgW zp C C xs = E.map (·.2)) := Lib.hid (by unfold flgW nfW; rw [if_pos (HFB.out hfu), HE.out]; simp only [Int.toNat_natCast])
          have HNX : Hid (nfX zp (C : Int).toNat xs = flatK C C (E.map (·.1)) C) := Lib.hid (by rw [HE.out]; simp [nfX])
          clear hz
          obtain ⟨X, hX⟩ : ∃ X, X = flatK C C (E.map (·.1)) C := ⟨_, rfl⟩
          have hnRC : nR = C := by have := HNR.out; omega
          have HMX := Lib.hid (fun u (hb : Below w4.heap.size w4 u) => matrixOf_any zp C C cR AR (E.map (·.1)) u (by have h := (HBX4.out.below hb).1.si; rw [hnRC] at h; exact h) ⟨hC0, by omega⟩ (by omega) (fun x hx => by obtain ⟨e, he, rfl⟩ := List.mem_map.1 hx; exact (HEOK.out.1 e he).1))
          rw [← hX] at HMX
          have HX := Lib.hid hX
          subst hnRC
          clear hX hfu
          have HKd : Hid ((w4.drew.cell? ⟨g, 0, none⟩ = some (.int .i64 zp) ∧ w4.drew.cell? ⟨g, 1, none⟩ = some (.int .i64 nR) ∧ w4.drew.cell? ⟨g, 2, none⟩ = some (.int .i64 nR) ∧ w4.drew.cell? ⟨g, 3, none⟩ = some (.slice A n k)) ∧ w4.drew.cell? ⟨ge, 0, none⟩ = some (.int .i64 zp) ∧ w4.drew.cell? ⟨ge, 1, none⟩ = some (.slice AR nR cR) ∧ w4.drew.cell? ⟨ge, 2, none⟩ = some (.slice AC nC cC)) := Lib.hid (MKS4.out _ ((Below.refl _ _).drew))
          have HKn := Lib.hid (MKS4.out _ (Below.refl _ _))
          go_upto_region 6 with fail
          go_region_held3 (fun u => (u.cell? ⟨g, 0, none⟩ = some (.int .i64 zp) ∧ u.cell? ⟨g, 1, none⟩ = some (.int .i64 nR) ∧ u.cell? ⟨g, 2, none⟩ = some (.int .i64 nR) ∧ u.cell? ⟨g, 3, none⟩ = some (.slice A n k)) ∧ u.cell? ⟨ge, 0, none⟩ = some (.int .i64 zp) ∧ u.cell? ⟨ge, 1, none⟩ = some (.slice AR nR cR) ∧ u.cell? ⟨ge, 2, none⟩ = some (.slice AC nC cC))
            (first | with_reducible exact HKd.out | with_reducible exact HKn.out | with_reducible exact KA | with_reducible exact KZ | exact KZ)
            (first
              | (go_at_call 105
                 with_reducible refine (HMX.out _ ((Below.refl _ _).drew)).mono ?_
                 rintro e w6 ⟨A6, n6, k6, rfl, ho6, hb6⟩
                 have HB6 : Hid (Below w4.heap.size w4 w6) := Lib.hid (((Below.refl _ _).drew).trans hb6)
                 have HO6 : Hid (Own w6 w4.heap.size w6.heap.size A6 n6 k6 X) := Lib.hid ho6
                 have KA := MKS4.out w6 HB6.out
                 have HR6 := Lib.hid (HR4.out.below HB6.out HR4.out.lt)
                 have rr0 := HR6.out.cell 0
                 have rr1 := HR6.out.cell 1
                 have rr2 := HR6.out.cell 2
                 have rr3 := HR6.out.cell 3
                 have rr4 := HR6.out.cell 4
                 have ff0 := HR6.out.frozen 0
                 have ff1 := HR6.out.frozen 1
                 have ff2 := HR6.out.frozen 2
                 have ff3 := HR6.out.frozen 3
                 have ff4 := HR6.out.frozen 4
                 have HGP := Lib.hid (grown_put5 w6 (g + 1) (.int .i64 zp) (.int .i64 nR) (.int .i64 nR) (.slice A6 n6 k6) (.slice AC nC cC))
                 have HRP : Hid (Blk (((((w6.setCell ⟨g + 1, 0, none⟩ (.int .i64 zp)).setCell ⟨g + 1, 1, none⟩ (.int .i64 nR)).setCell ⟨g + 1, 2, none⟩ (.int .i64 nR)).setCell ⟨g + 1, 3, none⟩ (.slice A6 n6 k6)).setCell ⟨g + 1, 4, none⟩ (.slice AC nC cC)) (g + 1) 68 #[.int .i64 zp, .int .i64 nR, .int .i64 nR, .slice A6 n6 k6, .slice AC nC cC]) := Lib.hid (((((HR6.out.set_ 0 _).set_ 1 _).set_ 2 _).set_ 3 _).set_ 4 _)
                 have hge : ge ≠ g + 1 := by have := HBX.out.2.2.2.2.2.2.1; have := HB2.out.size; have := HSZ.out; omega
                 have KZ : ((((((w6.setCell ⟨g + 1, 0, none⟩ (.int .i64 zp)).setCell ⟨g + 1, 1, none⟩ (.int .i64 nR)).setCell ⟨g + 1, 2, none⟩ (.int .i64 nR)).setCell ⟨g + 1, 3, none⟩ (.slice A6 n6 k6)).setCell ⟨g + 1, 4, none⟩ (.slice AC nC cC)).cell? ⟨g, 0, none⟩ = some (.int .i64 zp) ∧ (((((w6.setCell ⟨g + 1, 0, none⟩ (.int .i64 zp)).setCell ⟨g + 1, 1, none⟩ (.int .i64 nR)).setCell ⟨g + 1, 2, none⟩ (.int .i64 nR)).setCell ⟨g + 1, 3, none⟩ (.slice A6 n6 k6)).setCell ⟨g + 1, 4, none⟩ (.slice AC nC cC)).cell? ⟨g, 1, none⟩ = some (.int .i64 nR) ∧ (((((w6.setCell ⟨g + 1, 0, none⟩ (.int .i64 zp)).setCell ⟨g + 1, 1, none⟩ (.int .i64 nR)).setCell ⟨g + 1, 2, none⟩ (.int .i64 nR)).setCell ⟨g + 1, 3, none⟩ (.slice A6 n6 k6)).setCell ⟨g + 1, 4, none⟩ (.slice AC nC cC)).cell? ⟨g, 2, none⟩ = some (.int .i64 nR) ∧ (((((w6.setCell ⟨g + 1, 0, none⟩ (.int .i64 zp)).setCell ⟨g + 1, 1, none⟩ (.int .i64 nR)).setCell ⟨g + 1, 2, none⟩ (.int .i64 nR)).setCell ⟨g + 1, 3, none⟩ (.slice A6 n6 k6)).setCell ⟨g + 1, 4, none⟩ (.slice AC nC cC)).cell? ⟨g, 3, none⟩ = some (.slice A n k)) ∧ (((((w6.setCell ⟨g + 1, 0, none⟩ (.int .i64 zp)).setCell ⟨g + 1, 1, none⟩ (.int .i64 nR)).setCell ⟨g + 1, 2, none⟩ (.int .i64 nR)).setCell ⟨g + 1, 3, none⟩ (.slice A6 n6 k6)).setCell ⟨g + 1, 4, none⟩ (.slice AC nC cC)).cell? ⟨ge, 0, none⟩ = some (.int .i64 zp) ∧ (((((w6.setCell ⟨g + 1, 0, none⟩ (.int .i64 zp)).setCell ⟨g + 1, 1, none⟩ (.int .i64 nR)).setCell ⟨g + 1, 2, none⟩ (.int .i64 nR)).setCell ⟨g + 1, 3, none⟩ (.slice A6 n6 k6)).setCell ⟨g + 1, 4, none⟩ (.slice AC nC cC)).cell? ⟨ge, 1, none⟩ = some (.slice AR nR cR) ∧ (((((w6.setCell ⟨g + 1, 0, none⟩ (.int .i64 zp)).setCell ⟨g + 1, 1, none⟩ (.int .i64 nR)).setCell ⟨g + 1, 2, none⟩ (.int .i64 nR)).setCell ⟨g + 1, 3, none⟩ (.slice A6 n6 k6)).setCell ⟨g + 1, 4, none⟩ (.slice AC nC cC)).cell? ⟨ge, 2, none⟩ = some (.slice AC nC cC) := ⟨cells4 ((HK0.out.below (HB14.out.trans (HB6.out.mono HB14.out.size)) HK0.out.lt).grown HGP.out (fun e => by injection e with e; omega)), ((HBX4.out.below HB6.out).2.2.1.grown HGP.out (fun e => by injection e with e; omega)).cell 0, ((HBX4.out.below HB6.out).2.2.1.grown HGP.out (fun e => by injection e with e; omega)).cell 1, ((HBX4.out.below HB6.out).2.2.1.grown HGP.out (fun e => by injection e with e; omega)).cell 2⟩
                 clear ho6 hb6 hge))
          go_wp2
          refine bodyPost_ret (results_mx_tmp Try.results69 _ _ _ 68 #[.int .i64 zp, .int .i64 nR, .int .i64 nR, .slice A6 n6 k6, .slice AC nC cC] _ rfl HRP.out Try.underlying68 rfl Try.infoNf) rfl ?_
          have l1 := HSZ.out
          have l2 := HG.out
          have l3 := HGP.out.size
          have l4 := HB.out.size
          have l5 := HB14.out.size
          have l6 := HB6.out.size
          have l7 := (HBX4.out.below HB6.out).2.2.2.1
          have l8 := (HBX4.out.below HB6.out).2.2.2.2.1
          have l9 := HB2.out.size
          refine ⟨A6, n6, k6, AC, nC, cC, rfl, ?_, ?_, ?_⟩
          · rw [HNX.out, ← HX.out]; exact (HO6.out.grown HGP.out (fun q hq => by injection hq with hq; omega)).wide (by omega) (by omega)
          · rw [HFW.out]; exact ((HBX4.out.below HB6.out).2.1.grown HGP.out (fun q hq => by injection hq with hq; omega)).wide (by omega) (by omega)
          · exact ((HB.out.trans (HB14.out.mono l4)).trans (HB6.out.mono (by omega))).grown HGP.out (by omega) (by rintro q ⟨⟩; omega)

end Go.Proofs.Ytdepalpkcmfegaa

/-
  Flags on the program's side. Conditions: lengths below 2^40.
-/


namespace Go.Proofs.Ytdepalpkcmfegaa
open Go.RowKit

set_option maxRecDepth 100000 in
set_option maxHeartbeats 4000000 in
theorem implFlagOk_any (p r c : Int) (A : Option Addr) (n k : Nat) (xs : List Int) (w : World) (hs : SI w A n xs) (hn : n ≤ 1099511627776) (hnk : n ≤ k) :
    Calls Try.prog 27 #[.agg #[.int .i64 p, .int .i64 r, .int .i64 c, .slice A n k]] w fun e w' => e = .returned (.bool (flagB p r c xs)) ∧ Below w.heap.size w w' := by
  obtain ⟨zp, zr, zc, z, ok, hz⟩ := nf_ex p r c xs
  obtain ⟨w1, hw1⟩ : ∃ w1, w1 = (w.alloc (.cells #[.int .i64 p, .int .i64 r, .int .i64 c, .slice A n k] 26)) := ⟨_, rfl⟩
  obtain ⟨g, hg⟩ : ∃ g, g = w.heap.size := ⟨_, rfl⟩
  have HK0 : Hid (Blk w1 (g) 26 #[.int .i64 p, .int .i64 r, .int .i64 c, .slice A n k]) := Lib.hid (by rw [hw1, hg]; have := Blk.new w 26 #[.int .i64 p, .int .i64 r, .int .i64 c, .slice A n k]; simpa using this)
  have hb : Below w.heap.size w w1 := by rw [hw1]; go_grown
  have HB := Lib.hid hb
  have HW := Lib.hid hw1
  have HG := Lib.hid hg
  have HSZ : Hid (w1.heap.size = g + 1) := Lib.hid (by rw [hw1, hg]; simp)
  have HL := Lib.hid hs.1
  have HFO := Lib.hid (flagOf_z p r c A n k xs w1 (hs.below hb (Nat.le_refl _)) hn hnk zp zr zc z ok hz)
  have HOK := Lib.hid hz.1
  obtain ⟨W, hW⟩ : ∃ W, W = flgW p r c xs := ⟨_, rfl⟩
  rw [← hW] at HFO
  clear hw1 hg hb hs hz hW
  go_enter Try.func27, Try.ntmps27
  go_upto_region 1 with fail
  rw [← HW.out, ← HG.out]
  go_upto_region 2 with (first
    | (refine wpList_load_rowP rfl 26 (.tmp 1) rfl g rfl 26 #[.int .i64 p, .int .i64 r, .int .i64 c, .slice A n k] _ HK0.out Try.underlying26 rfl Try.infoMx ?_)
    | (go_at_call 69
       with_reducible refine (HFO.out).mono ?_
       rintro e w3 ⟨P3, m3, d3, AC, nC, cC, rfl, ho3, hc3, hb3⟩
       have HO3 := Lib.hid ho3
       have HC3 := Lib.hid hc3
       have HB3 := Lib.hid hb3
       clear ho3 hc3 hb3)
    | (refine wpList_store_rowP rfl 68 (.tmp 3) (.tmp 8) rfl w3.heap.size #[.int .i64 zp, .int .i64 zr, .int .i64 zc, .slice P3 m3 d3, .slice AC nC cC] rfl rfl 68 #[.int .i64 0, .int .i64 0, .int .i64 0, .slice none 0 0, .slice none 0 0] (Blk.new _ _ _) Try.infoNf rfl (by simp [Value.oneCell']) ?_; intro w4 hb4 hg4)
    | fail)
  have q0 := hb4.cell 0
  have q1 := hb4.cell 1
  have q2 := hb4.cell 2
  have q3 := hb4.cell 3
  have q4 := hb4.cell 4
  have HB4 : Hid (Below w1.heap.size w1 w4) := Lib.hid ((HB3.out.alloc HB3.out.size _).grown hg4 (by have := HB3.out.size; simp; omega) (by rintro q ⟨⟩; exact HB3.out.size))
  have hz4 : w3.heap.size ≤ w4.heap.size := by have h := hg4.size; simp at h; omega
  go_wp2
  go_ret
  exact ⟨ret_bool HOK.out, HB.out.trans (HB4.out.mono HB.out.size)⟩
set_option maxRecDepth 100000 in
set_option maxHeartbeats 4000000 in
theorem implNormalFlag_z (p r c : Int) (A : Option Addr) (n k : Nat) (xs : List Int) (w : World) (hs : SI w A n xs) (hn : n ≤ 1099511627776) (hnk : n ≤ k) (zp zr zc : Int) (z : List Int) (ok : Bool) (hz : NfIs p r c xs zp zr zc z ok) :
    Calls Try.prog 29 #[.agg #[.int .i64 p, .int .i64 r, .int .i64 c, .slice A n k]] w fun e w' => FreshMxB w w' e zp zr zc z ok := by
  obtain ⟨w1, hw1⟩ : ∃ w1, w1 = ((w.alloc (.cells #[.int .i64 p, .int .i64 r, .int .i64 c, .slice A n k] 26)).alloc (.cells #[.int .i64 0, .int .i64 0, .int .i64 0, .slice none 0 0] 26)) := ⟨_, rfl⟩
  obtain ⟨g, hg⟩ : ∃ g, g = w.heap.size := ⟨_, rfl⟩
  have HK0 : Hid (Blk w1 (g) 26 #[.int .i64 p, .int .i64 r, .int .i64 c, .slice A n k]) := Lib.hid (by rw [hw1, hg]; have := (Blk.new w 26 #[.int .i64 p, .int .i64 r, .int .i64 c, .slice A n k]).alloc (.cells #[.int .i64 0, .int .i64 0, .int .i64 0, .slice none 0 0] 26); simpa using this)
  have HK1 : Hid (Blk w1 (g + 1) 26 #[.int .i64 0, .int .i64 0, .int .i64 0, .slice none 0 0]) := Lib.hid (by rw [hw1, hg]; have := Blk.new (w.alloc (.cells #[.int .i64 p, .int .i64 r, .int .i64 c, .slice A n k] 26)) 26 #[.int .i64 0, .int .i64 0, .int .i64 0, .slice none 0 0]; simpa using this)
  have hb : Below w.heap.size w w1 := by rw [hw1]; go_grown
  have HB := Lib.hid hb
  have HW := Lib.hid hw1
  have HG := Lib.hid hg
  have HSZ : Hid (w1.heap.size = g + 2) := Lib.hid (by rw [hw1, hg]; simp)
  have HL := Lib.hid hs.1
  have HFO := Lib.hid (flagOf_z p r c A n k xs w1 (hs.below hb (Nat.le_refl _)) hn hnk zp zr zc z ok hz)
  obtain ⟨W, hW⟩ : ∃ W, W = flgW p r c xs := ⟨_, rfl⟩
  rw [← hW] at HFO
  clear hw1 hg hb hs hz hW
  go_enter Try.func29, Try.ntmps29
  go_upto_region 1 with fail
  rw [← HW.out, ← HG.out]
  go_upto_region 2 with (first
    | (refine wpList_load_rowP rfl 26 (.tmp 1) rfl g rfl 26 #[.int .i64 p, .int .i64 r, .int .i64 c, .slice A n k] _ HK0.out Try.underlying26 rfl Try.infoMx ?_)
    | (go_at_call 69
       with_reducible refine (HFO.out).mono ?_
       rintro e w3 ⟨P3, m3, d3, AC, nC, cC, rfl, ho3, hc3, hb3⟩
       have HO3 := Lib.hid ho3
       have HC3 := Lib.hid hc3
       have HB3 := Lib.hid hb3
       clear ho3 hc3 hb3)
    | (refine wpList_store_rowP rfl 68 (.tmp 4) (.tmp 9) rfl w3.heap.size #[.int .i64 zp, .int .i64 zr, .int .i64 zc, .slice P3 m3 d3, .slice AC nC cC] rfl rfl 68 #[.int .i64 0, .int .i64 0, .int .i64 0, .slice none 0 0, .slice none 0 0] (Blk.new _ _ _) Try.infoNf rfl (by simp [Value.oneCell']) ?_; intro w4 hb4 hg4)
    | fail)
  have q0 := hb4.cell 0
  have q1 := hb4.cell 1
  have q2 := hb4.cell 2
  have q3 := hb4.cell 3
  have q4 := hb4.cell 4
  have HB4 : Hid (Below w1.heap.size w1 w4) := Lib.hid ((HB3.out.alloc HB3.out.size _).grown hg4 (by have := HB3.out.size; simp; omega) (by rintro q ⟨⟩; exact HB3.out.size))
  have hz4 : w3.heap.size ≤ w4.heap.size := by have h := hg4.size; simp at h; omega
  have HO4 := Lib.hid ((((HO3.out.below (Below.alloc_self _ _) (Nat.le_refl _)).grown hg4 (fun q hq => by injection hq with hq; omega))).wide (Nat.le_refl _) hz4)
  have HR4 := Lib.hid (HK1.out.below HB4.out HK1.out.lt)
  clear hg4 hb4 hz4
  go_wp2_with (first
    | (refine wpList_store_rowP rfl 26 (.tmp 2) (.tmp 12) rfl (g + 1) #[.int .i64 zp, .int .i64 zr, .int .i64 zc, .slice P3 m3 d3] rfl rfl 26 #[.int .i64 0, .int .i64 0, .int .i64 0, .slice none 0 0] HR4.out Try.infoMx rfl (by simp [Value.oneCell']) ?_; intro w5 hb5 hg5)
    | fail)
  refine bodyPost_ret (results_mx_tmp Try.results29 _ _ _ 26 #[.int .i64 zp, .int .i64 zr, .int .i64 zc, .slice P3 m3 d3] _ rfl hb5 Try.underlying26 rfl Try.infoMx) rfl ?_
  have l1 := HSZ.out
  have l2 := HG.out
  have l3 := hg5.size
  have l4 := HB.out.size
  have l5 := HB4.out.size
  refine ⟨P3, m3, d3, rfl, ?_, ?_⟩
  · exact (HO4.out.grown hg5 (fun q hq => by injection hq with hq; omega)).wide (by omega) (by omega)
  · exact (HB.out.trans (HB4.out.mono l4)).grown hg5 (by omega) (by rintro q ⟨⟩; omega)
set_option maxRecDepth 100000 in
set_option maxHeartbeats 4000000 in
theorem implFlagPerm_any (p r c : Int) (A : Option Addr) (n k : Nat) (xs : List Int) (w : World) (hs : SI w A n xs) (hn : n ≤ 1099511627776) (hnk : n ≤ k) :
    Calls Try.prog 31 #[.agg #[.int .i64 p, .int .i64 r, .int .i64 c, .slice A n k]] w fun e w' => Fresh w w' e (flgW p r c xs) := by
  obtain ⟨zp, zr, zc, z, ok, hz⟩ := nf_ex p r c xs
  obtain ⟨w1, hw1⟩ : ∃ w1, w1 = (w.alloc (.cells #[.int .i64 p, .int .i64 r, .int .i64 c, .slice A n k] 26)) := ⟨_, rfl⟩
  obtain ⟨g, hg⟩ : ∃ g, g = w.heap.size := ⟨_, rfl⟩
  have HK0 : Hid (Blk w1 (g) 26 #[.int .i64 p, .int .i64 r, .int .i64 c, .slice A n k]) := Lib.hid (by rw [hw1, hg]; have := Blk.new w 26 #[.int .i64 p, .int .i64 r, .int .i64 c, .slice A n k]; simpa using this)
  have hb : Below w.heap.size w w1 := by rw [hw1]; go_grown
  have HB := Lib.hid hb
  have HW := Lib.hid hw1
  have HG := Lib.hid hg
  have HSZ : Hid (w1.heap.size = g + 1) := Lib.hid (by rw [hw1, hg]; simp)
  have HL := Lib.hid hs.1
  have HFO := Lib.hid (flagOf_z p r c A n k xs w1 (hs.below hb (Nat.le_refl _)) hn hnk zp zr zc z ok hz)
  obtain ⟨W, hW⟩ : ∃ W, W = flgW p r c xs := ⟨_, rfl⟩
  rw [← hW] at HFO ⊢
  clear hw1 hg hb hs hz hW
  go_enter Try.func31, Try.ntmps31
  go_upto_region 1 with fail
  rw [← HW.out, ← HG.out]
  go_upto_region 2 with (first
    | (refine wpList_load_rowP rfl 26 (.tmp 1) rfl g rfl 26 #[.int .i64 p, .int .i64 r, .int .i64 c, .slice A n k] _ HK0.out Try.underlying26 rfl Try.infoMx ?_)
    | (go_at_call 69
       with_reducible refine (HFO.out).mono ?_
       rintro e w3 ⟨P3, m3, d3, AC, nC, cC, rfl, ho3, hc3, hb3⟩
       have HO3 := Lib.hid ho3
       have HC3 := Lib.hid hc3
       have HB3 := Lib.hid hb3
       clear ho3 hc3 hb3)
    | (refine wpList_store_rowP rfl 68 (.tmp 3) (.tmp 8) rfl w3.heap.size #[.int .i64 zp, .int .i64 zr, .int .i64 zc, .slice P3 m3 d3, .slice AC nC cC] rfl rfl 68 #[.int .i64 0, .int .i64 0, .int .i64 0, .slice none 0 0, .slice none 0 0] (Blk.new _ _ _) Try.infoNf rfl (by simp [Value.oneCell']) ?_; intro w4 hb4 hg4)
    | fail)
  have q0 := hb4.cell 0
  have q1 := hb4.cell 1
  have q2 := hb4.cell 2
  have q3 := hb4.cell 3
  have q4 := hb4.cell 4
  have HB4 : Hid (Below w1.heap.size w1 w4) := Lib.hid ((HB3.out.alloc HB3.out.size _).grown hg4 (by have := HB3.out.size; simp; omega) (by rintro q ⟨⟩; exact HB3.out.size))
  have hz4 : w3.heap.size ≤ w4.heap.size := by have h := hg4.size; simp at h; omega
  have HC4 := Lib.hid ((((HC3.out.below (Below.alloc_self _ _) (Nat.le_refl _)).grown hg4 (fun q hq => by injection hq with hq; omega))).wide (Nat.le_refl _) hz4)
  go_wp2
  go_ret
  exact ⟨AC, nC, cC, rfl, HC4.out.wide HB.out.size (Nat.le_refl _), HB.out.trans (HB4.out.mono HB.out.size)⟩

end Go.Proofs.Ytdepalpkcmfegaa
