/-
  Whether a puzzle is made of right small triangles, the program's side. Conditions: lengths below 2^40.
-/
import Derived.Test.YtdkcngilmdpbgaaTriE
import Derived.Test.YtdkcngilmdpbgaaPuzJ
import Derived.WalkMore
namespace Go.Proofs.Ytdkcngilmdpbgaa
open Go.RowKit

theorem tr_mem {L : List Tr} {t : Tr} : t ∈ L ↔ ∃ j, j < L.length ∧ tr L j = t := by
  constructor
  · intro h
    obtain ⟨j, hj, e⟩ := List.mem_iff_getElem.1 h
    exact ⟨j, hj, by rw [tr_get hj]; exact e⟩
  · rintro ⟨j, hj, e⟩
    rw [← e, tr_get hj]; exact List.getElem_mem hj
theorem right_len (wt : Bool) : (rightL wt).length = if wt then 6 else 5 := by cases wt <;> rfl
theorem pz_parts {wt : Bool} {m : Nat} {x1 x2 x3 : List Int} (hl : lensP (m : Int) x1 x2 x3) : pzP wt (m : Int) x1 x2 x3 ↔ (strP (sdA m x1) ∧ strP (sdB m x2) ∧ strP (sdC m x3)) ∧ ∀ t ∈ smR x1 x2 x3 m, t ∈ rightL wt := by
  have hs := side_strings hl
  rw [Int.toNat_natCast] at hs
  unfold pzP
  rw [hs, Int.toNat_natCast]
  constructor
  · rintro ⟨_, h1, h2⟩
    refine ⟨h2, fun t ht => ?_⟩
    obtain ⟨r, hr, k, hk, h | ⟨h0, h⟩⟩ := (smR_mem t m).1 ht
    · rw [h]; exact (h1 r hr k hk).1
    · rw [h]; exact (h1 r hr k hk).2 h0
  · rintro ⟨h2, h1⟩
    exact ⟨hl, fun r hr k hk => ⟨h1 _ ((smR_mem _ m).2 ⟨r, hr, k, hk, .inl rfl⟩), fun h0 => h1 _ ((smR_mem _ m).2 ⟨r, hr, k, hk, .inr ⟨h0, rfl⟩⟩)⟩, h2⟩
set_option maxRecDepth 100000 in
set_option maxHeartbeats 8000000 in
theorem isMadeOf_any (wt : Bool) (s : Int) (A1 A2 A3 : Option Addr) (n1 c1 n2 c2 n3 c3 : Nat) (AR : Option Addr) (nR cR : Nat) (x1 x2 x3 : List Int) (w : World) (h1 : SI w A1 n1 x1) (h2 : SI w A2 n2 x2) (h3 : SI w A3 n3 x3) (hc3 : n3 ≤ c3) (hR : RS w AR nR (rightL wt)) :
    Calls Try.prog 119 #[.agg #[.int .i64 s, .slice A1 n1 c1, .slice A2 n2 c2, .slice A3 n3 c3], .slice AR nR cR] w fun e w' => e = .returned (.bool (pzB wt s x1 x2 x3)) ∧ Below w.heap.size w w' := by
  obtain ⟨w1, hw1⟩ : ∃ w1, w1 = w.alloc (.cells #[.int .i64 s, .slice A1 n1 c1, .slice A2 n2 c2, .slice A3 n3 c3] 47) := ⟨_, rfl⟩
  obtain ⟨g, hg⟩ : ∃ g, g = w.heap.size := ⟨_, rfl⟩
  have hk : Blk w1 g 47 #[.int .i64 s, .slice A1 n1 c1, .slice A2 n2 c2, .slice A3 n3 c3] := by rw [hw1, hg]; exact Blk.new _ _ _
  have hb : Below w.heap.size w w1 := by rw [hw1]; exact Below.alloc_self _ _
  have HB1 := Lib.hid hb
  have HW := Lib.hid hw1
  have HG := Lib.hid hg
  have HK1 := Lib.hid hk
  have HS := Lib.hid (And.intro (h1.below hb (Nat.le_refl _)) (And.intro (h2.below hb (Nat.le_refl _)) (h3.below hb (Nat.le_refl _))))
  have HRR := Lib.hid (hR.below hb (Nat.le_refl _))
  have HSZ : Hid (w1.heap.size = g + 1) := Lib.hid (by rw [hw1, hg]; simp)
  have HLN := Lib.hid (And.intro h1.1 (And.intro h2.1 h3.1))
  have HC3 := Lib.hid hc3
  obtain ⟨q0, q1, q2, q3⟩ := cells4 hk
  have HHL := Lib.hid (hasLists_any s A1 A2 A3 n1 c1 n2 c2 n3 c3 x1 x2 x3 w1 HS.out.1 HS.out.2.1 HS.out.2.2)
  clear hw1 hg hk h1 h2 h3 hb hc3 hR
  cases hu : lensB s x1 x2 x3 with
  | false =>
    rw [hu] at HHL
    have HF := Lib.hid (pzB_false (wt := wt) (s := s) (x1 := x1) (x2 := x2) (x3 := x3) (fun h => by have := (lensB_iff s x1 x2 x3).2 h.1; rw [hu] at this; cases this))
    clear hu
    go_enter Try.func119, Try.ntmps119
    go_upto_region 1 with fail
    rw [← HW.out, ← HG.out]
    refine wp_scope_straight ?_
    go_wp2_with (go_at_call 136; refine HHL.out.mono ?_; rintro e w2 ⟨rfl, hb2⟩; have HB2 := Lib.hid hb2; clear hb2)
    rw [Exit.noGoto_ret]
    go_ret
    exact ⟨ret_bool HF.out.symm, HB1.out.trans (HB2.out.mono (by have := HSZ.out; have := HG.out; omega))⟩
  | true =>
    rw [hu] at HHL
    have hlp := (lensB_iff s x1 x2 x3).1 hu
    obtain ⟨m, rfl⟩ : ∃ m : Nat, s = (m : Int) := ⟨s.toNat, by have := hlp.1; omega⟩
    have hm : 1 ≤ m ∧ m ≤ 7 := by have := hlp.1; have := hlp.2.1; omega
    have hll : n1 = tri m ∧ n2 = tri m ∧ n3 = tri m := by
      have h5 := hlp.2.2
      rw [Int.toNat_natCast, HLN.out.1, HLN.out.2.1, HLN.out.2.2] at h5
      exact h5
    have HPP := Lib.hid (pz_parts (wt := wt) hlp)
    have HSD := Lib.hid (fun w' (hb' : Below w1.heap.size w1 w') => pzSides_any m A1 A2 A3 n1 c1 n2 c2 n3 c3 x1 x2 x3 w' (HS.out.1.below hb' (Nat.le_refl _)) (HS.out.2.1.below hb' (Nat.le_refl _)) (HS.out.2.2.below hb' (Nat.le_refl _)) hm hll HC3.out)
    have HST := Lib.hid (fun w' (hb' : Below w1.heap.size w1 w') => smallTriangles_any m A1 A2 A3 n1 c1 n2 c2 n3 c3 x1 x2 x3 w' (HS.out.1.below hb' (Nat.le_refl _)) (HS.out.2.1.below hb' (Nat.le_refl _)) (HS.out.2.2.below hb' (Nat.le_refl _)) hm hll)
    have hglt : g < w1.heap.size := by have := HSZ.out; omega
    have HGLT := Lib.hid hglt
    have HM := Lib.hid hm
    clear hu hlp hll hm hglt
    cases hv0 : strB (sdA m x1) with
    | false =>
      have HF := Lib.hid (pzB_false (wt := wt) (s := (m : Int)) (x1 := x1) (x2 := x2) (x3 := x3) (fun h => by have h5 := strB_true ((HPP.out.1 h).1.1); rw [hv0] at h5; cases h5))
      have HV0 := Lib.hid hv0
      clear hv0
      go_enter Try.func119, Try.ntmps119
      go_upto_region 1 with fail
      rw [← HW.out, ← HG.out]
      refine wp_scope_straight ?_
      go_upto_region 3 with (go_at_call 136; refine HHL.out.mono ?_; rintro e w2 ⟨rfl, hb2⟩; have HB2 := Lib.hid hb2; obtain ⟨q0, q1, q2, q3⟩ := cells4 (HK1.out.below hb2 HGLT.out); clear hb2)
      go_upto_region 4 with (first
        | (go_at_call 89
           refine (HSD.out _ HB2.out).mono ?_
           rintro e w3 ⟨gl, gr, Ac, nc, cc, k, rfl, hgn, hgl, hgr, hol, hor, ⟨lo, hlo1, hlo2, hoc⟩, hb3⟩
           have HB3 : Hid (Below w1.heap.size w1 w3) := Lib.hid (HB2.out.trans (hb3.mono HB2.out.size))
           have hkm : m = k := by have := hol.len; rw [sdA_len] at this; exact this
           have hcm : m = nc := by have := hoc.len; rw [sdC_len] at this; exact this
           subst hkm
           subst hcm
           have HIA := Lib.hid (fun w' (hd : Drawn w3 w') => implIsString_any (some ⟨gl, 0, none⟩) m m (sdA m x1) w' (hd.si hol.si) (by have := HM.out; omega))
           have HIB := Lib.hid (fun w' (hd : Drawn w3 w') => implIsString_any (some ⟨gr, 0, none⟩) m m (sdB m x2) w' (hd.si hor.si) (by have := HM.out; omega))
           have HIC := Lib.hid (fun w' (hd : Drawn w3 w') => implIsString_any Ac m cc (sdC m x3) w' (hd.si hoc.si) (by have := HM.out; omega))
           clear hgn hgl hgr hol hor hlo1 hlo2 hoc hb3 q0 q1 q2 q3))
      rw [HV0.out] at HIA
      go_wp2_with (first | (go_at_call 77; with_reducible refine (HIA.out _ (Drawn.refl _)).mono ?_; rintro e w4 ⟨rfl, hd⟩; have HDa : Hid (Drawn w3 w4) := Lib.hid (hd); clear hd))
      try rw [Exit.noGoto_ret]
      go_ret
      exact ⟨ret_bool HF.out.symm, HB1.out.trans ((HB3.out.trans (HDa.out.below _)).mono (by have := HSZ.out; have := HG.out; omega))⟩
    | true =>
      cases hv1 : strB (sdB m x2) with
      | false =>
        have HF := Lib.hid (pzB_false (wt := wt) (s := (m : Int)) (x1 := x1) (x2 := x2) (x3 := x3) (fun h => by have h5 := strB_true ((HPP.out.1 h).1.2.1); rw [hv1] at h5; cases h5))
        have HV0 := Lib.hid hv0
        have HV1 := Lib.hid hv1
        clear hv0 hv1
        go_enter Try.func119, Try.ntmps119
        go_upto_region 1 with fail
        rw [← HW.out, ← HG.out]
        refine wp_scope_straight ?_
        go_upto_region 3 with (go_at_call 136; refine HHL.out.mono ?_; rintro e w2 ⟨rfl, hb2⟩; have HB2 := Lib.hid hb2; obtain ⟨q0, q1, q2, q3⟩ := cells4 (HK1.out.below hb2 HGLT.out); clear hb2)
        go_upto_region 4 with (first
          | (go_at_call 89
             refine (HSD.out _ HB2.out).mono ?_
             rintro e w3 ⟨gl, gr, Ac, nc, cc, k, rfl, hgn, hgl, hgr, hol, hor, ⟨lo, hlo1, hlo2, hoc⟩, hb3⟩
             have HB3 : Hid (Below w1.heap.size w1 w3) := Lib.hid (HB2.out.trans (hb3.mono HB2.out.size))
             have hkm : m = k := by have := hol.len; rw [sdA_len] at this; exact this
             have hcm : m = nc := by have := hoc.len; rw [sdC_len] at this; exact this
             subst hkm
             subst hcm
             have HIA := Lib.hid (fun w' (hd : Drawn w3 w') => implIsString_any (some ⟨gl, 0, none⟩) m m (sdA m x1) w' (hd.si hol.si) (by have := HM.out; omega))
             have HIB := Lib.hid (fun w' (hd : Drawn w3 w') => implIsString_any (some ⟨gr, 0, none⟩) m m (sdB m x2) w' (hd.si hor.si) (by have := HM.out; omega))
             have HIC := Lib.hid (fun w' (hd : Drawn w3 w') => implIsString_any Ac m cc (sdC m x3) w' (hd.si hoc.si) (by have := HM.out; omega))
             clear hgn hgl hgr hol hor hlo1 hlo2 hoc hb3 q0 q1 q2 q3))
        rw [HV0.out] at HIA
        rw [HV1.out] at HIB
        go_wp2_with (first | (go_at_call 77; with_reducible refine (HIA.out _ (Drawn.refl _)).mono ?_; rintro e w4 ⟨rfl, hd⟩; have HDa : Hid (Drawn w3 w4) := Lib.hid (hd); clear hd) | (go_at_call 77; with_reducible refine (HIB.out _ HDa.out).mono ?_; rintro e w5 ⟨rfl, hd⟩; have HDb : Hid (Drawn w3 w5) := Lib.hid (HDa.out.trans hd); clear hd))
        try rw [Exit.noGoto_ret]
        go_ret
        exact ⟨ret_bool HF.out.symm, HB1.out.trans ((HB3.out.trans (HDb.out.below _)).mono (by have := HSZ.out; have := HG.out; omega))⟩
      | true =>
        cases hv2 : strB (sdC m x3) with
        | false =>
          have HF := Lib.hid (pzB_false (wt := wt) (s := (m : Int)) (x1 := x1) (x2 := x2) (x3 := x3) (fun h => by have h5 := strB_true ((HPP.out.1 h).1.2.2); rw [hv2] at h5; cases h5))
          have HV0 := Lib.hid hv0
          have HV1 := Lib.hid hv1
          have HV2 := Lib.hid hv2
          clear hv0 hv1 hv2
          go_enter Try.func119, Try.ntmps119
          go_upto_region 1 with fail
          rw [← HW.out, ← HG.out]
          refine wp_scope_straight ?_
          go_upto_region 3 with (go_at_call 136; refine HHL.out.mono ?_; rintro e w2 ⟨rfl, hb2⟩; have HB2 := Lib.hid hb2; obtain ⟨q0, q1, q2, q3⟩ := cells4 (HK1.out.below hb2 HGLT.out); clear hb2)
          go_upto_region 4 with (first
            | (go_at_call 89
               refine (HSD.out _ HB2.out).mono ?_
               rintro e w3 ⟨gl, gr, Ac, nc, cc, k, rfl, hgn, hgl, hgr, hol, hor, ⟨lo, hlo1, hlo2, hoc⟩, hb3⟩
               have HB3 : Hid (Below w1.heap.size w1 w3) := Lib.hid (HB2.out.trans (hb3.mono HB2.out.size))
               have hkm : m = k := by have := hol.len; rw [sdA_len] at this; exact this
               have hcm : m = nc := by have := hoc.len; rw [sdC_len] at this; exact this
               subst hkm
               subst hcm
               have HIA := Lib.hid (fun w' (hd : Drawn w3 w') => implIsString_any (some ⟨gl, 0, none⟩) m m (sdA m x1) w' (hd.si hol.si) (by have := HM.out; omega))
               have HIB := Lib.hid (fun w' (hd : Drawn w3 w') => implIsString_any (some ⟨gr, 0, none⟩) m m (sdB m x2) w' (hd.si hor.si) (by have := HM.out; omega))
               have HIC := Lib.hid (fun w' (hd : Drawn w3 w') => implIsString_any Ac m cc (sdC m x3) w' (hd.si hoc.si) (by have := HM.out; omega))
               clear hgn hgl hgr hol hor hlo1 hlo2 hoc hb3 q0 q1 q2 q3))
          rw [HV0.out] at HIA
          rw [HV1.out] at HIB
          rw [HV2.out] at HIC
          go_wp2_with (first | (go_at_call 77; with_reducible refine (HIA.out _ (Drawn.refl _)).mono ?_; rintro e w4 ⟨rfl, hd⟩; have HDa : Hid (Drawn w3 w4) := Lib.hid (hd); clear hd) | (go_at_call 77; with_reducible refine (HIB.out _ HDa.out).mono ?_; rintro e w5 ⟨rfl, hd⟩; have HDb : Hid (Drawn w3 w5) := Lib.hid (HDa.out.trans hd); clear hd) | (go_at_call 77; with_reducible refine (HIC.out _ HDb.out).mono ?_; rintro e w6 ⟨rfl, hd⟩; have HDc : Hid (Drawn w3 w6) := Lib.hid (HDb.out.trans hd); clear hd))
          try rw [Exit.noGoto_ret]
          go_ret
          exact ⟨ret_bool HF.out.symm, HB1.out.trans ((HB3.out.trans (HDc.out.below _)).mono (by have := HSZ.out; have := HG.out; omega))⟩
        | true =>
          have HSP := Lib.hid (And.intro (strB_P hv0) (And.intro (strB_P hv1) (strB_P hv2)))
          have HV0 := Lib.hid hv0
          have HV1 := Lib.hid hv1
          have HV2 := Lib.hid hv2
          clear hv0 hv1 hv2
          go_enter Try.func119, Try.ntmps119
          go_upto_region 1 with fail
          rw [← HW.out, ← HG.out]
          refine wp_scope_straight ?_
          go_upto_region 3 with (go_at_call 136; refine HHL.out.mono ?_; rintro e w2 ⟨rfl, hb2⟩; have HB2 := Lib.hid hb2; obtain ⟨q0, q1, q2, q3⟩ := cells4 (HK1.out.below hb2 HGLT.out); clear hb2)
          go_upto_region 4 with (first
            | (go_at_call 89
               refine (HSD.out _ HB2.out).mono ?_
               rintro e w3 ⟨gl, gr, Ac, nc, cc, k, rfl, hgn, hgl, hgr, hol, hor, ⟨lo, hlo1, hlo2, hoc⟩, hb3⟩
               have HB3 : Hid (Below w1.heap.size w1 w3) := Lib.hid (HB2.out.trans (hb3.mono HB2.out.size))
               have hkm : m = k := by have := hol.len; rw [sdA_len] at this; exact this
               have hcm : m = nc := by have := hoc.len; rw [sdC_len] at this; exact this
               subst hkm
               subst hcm
               have HIA := Lib.hid (fun w' (hd : Drawn w3 w') => implIsString_any (some ⟨gl, 0, none⟩) m m (sdA m x1) w' (hd.si hol.si) (by have := HM.out; omega))
               have HIB := Lib.hid (fun w' (hd : Drawn w3 w') => implIsString_any (some ⟨gr, 0, none⟩) m m (sdB m x2) w' (hd.si hor.si) (by have := HM.out; omega))
               have HIC := Lib.hid (fun w' (hd : Drawn w3 w') => implIsString_any Ac m cc (sdC m x3) w' (hd.si hoc.si) (by have := HM.out; omega))
               clear hgn hgl hgr hol hor hlo1 hlo2 hoc hb3 q0 q1 q2 q3))
          rw [HV0.out] at HIA
          rw [HV1.out] at HIB
          rw [HV2.out] at HIC
          go_upto_region 6 with (first | (go_at_call 77; with_reducible refine (HIA.out _ (Drawn.refl _)).mono ?_; rintro e w4 ⟨rfl, hd⟩; have HDa : Hid (Drawn w3 w4) := Lib.hid (hd); clear hd) | (go_at_call 77; with_reducible refine (HIB.out _ HDa.out).mono ?_; rintro e w5 ⟨rfl, hd⟩; have HDb : Hid (Drawn w3 w5) := Lib.hid (HDa.out.trans hd); clear hd) | (go_at_call 77; with_reducible refine (HIC.out _ HDb.out).mono ?_; rintro e w6 ⟨rfl, hd⟩; have HDc : Hid (Drawn w3 w6) := Lib.hid (HDb.out.trans hd); clear hd))
          refine wp_label ?_
          have HBW : Hid (Below w1.heap.size w1 w6) := Lib.hid (HB3.out.trans (HDc.out.below _))
          obtain ⟨q0, q1, q2, q3⟩ := cells4 (HK1.out.below HBW.out HGLT.out)
          go_wp2_with (first
            | (go_at_call 137
               refine (HST.out _ HBW.out).mono ?_
               rintro e w7 ⟨AT, nT, cT, rfl, hot, hb7⟩
               have HRT := Lib.hid hot.si
               have HB7 : Hid (Below w1.heap.size w1 w7) := Lib.hid (HBW.out.trans (hb7.mono HBW.out.size))
               clear hot hb7))
          clear q0 q1 q2 q3
          obtain ⟨TL, hTL⟩ : ∃ TL, TL = smR x1 x2 x3 m := ⟨_, rfl⟩
          have hnT : nT ≤ 100 := by
            have h5 := HRT.out.1
            have h6 := smR_len x1 x2 x3 m
            have h7 := tri_small (r := m) (by have := HM.out; omega)
            omega
          have hnR : nR ≤ 6 := by
            have h5 := HRR.out.1
            rw [right_len] at h5
            split at h5 <;> omega
          rw [← hTL] at HRT HPP
          have HNT := Lib.hid HRT.out.1
          have HRW := Lib.hid (HRR.out.below HB7.out (Nat.le_refl _))
          have HNR := Lib.hid HRR.out.1
          have HFI : Hid (∀ t, t ∈ TL → t ∉ rightL wt → pzB wt (m : Int) x1 x2 x3 = false) := Lib.hid (fun t ht hn => pzB_false (fun h => hn ((HPP.out.1 h).2 t ht)))
          have HTR : Hid ((∀ t, t ∈ TL → t ∈ rightL wt) → pzB wt (m : Int) x1 x2 x3 = true) := Lib.hid (fun h => pzB_true (HPP.out.2 ⟨HSP.out, h⟩))
          clear hTL
          go_loopw [37] (fun iv wr => ∃ i : Nat, i ≤ nT ∧ iv = .int .i64 i ∧ Below w7.heap.size w7 wr ∧ ∀ j, j < i → tr TL j ∈ rightL wt)
            (fun iv _ => nT - (intOf iv).toNat)
          case atStart => exact ⟨0, Nat.zero_le _, rfl, Below.refl _ _, fun j hj => absurd hj (by omega)⟩
          case round =>
            obtain ⟨i, hi, rfl, hbw, hall⟩ := hrel
            have HB := Lib.hid hbw
            have HA := Lib.hid hall
            clear hbw hall
            by_cases hlt : i < nT
            case neg =>
              have hin : i = nT := by omega
              have HE : Hid (pzB wt (m : Int) x1 x2 x3 = true) := Lib.hid (HTR.out (fun t ht => by
                obtain ⟨j, hj, e⟩ := tr_mem.1 ht
                rw [← e]; exact HA.out j (by have := HNT.out; omega)))
              clear hin
              go_wp2
              try rw [Exit.noGoto_ret]
              go_ret
              exact ⟨ret_bool HE.out.symm, HB1.out.trans ((HB7.out.trans (HB.out.mono HB7.out.size)).mono (by have := HSZ.out; have := HG.out; omega))⟩
            case pos =>
              have hltI : (i : Int) < (nT : Int) := by omega
              have hrt := HRT.out.below HB.out (Nat.le_refl _)
              obtain ⟨bt, ot, rfl, hbt, hct⟩ := hrt.2 (by omega)
              obtain ⟨e0, e1, e2⟩ := hct i hlt
              obtain ⟨t, ht⟩ : ∃ t, t = tr TL i := ⟨_, rfl⟩
              rw [← ht] at e0 e1 e2
              have HT := Lib.hid ht
              obtain ⟨ta, tb, tc⟩ := t
              simp only [] at e0 e1 e2
              clear hrt hct ht
              go_upto_region 9 with fail
              obtain ⟨wt9, hwt9⟩ : ∃ wt9, wt9 = wr.alloc (.cells #[.int .i64 ta, .int .i64 tb, .int .i64 tc] 121) := ⟨_, rfl⟩
              obtain ⟨gt, hgt⟩ : ∃ gt, gt = wr.heap.size := ⟨_, rfl⟩
              rw [← hwt9, ← hgt]
              have HB9 : Hid (Below w7.heap.size w7 wt9) := Lib.hid (by rw [hwt9]; exact HB.out.alloc HB.out.size _)
              have HK9 : Hid (Blk wt9 gt 121 #[.int .i64 ta, .int .i64 tb, .int .i64 tc]) := Lib.hid (by rw [hwt9, hgt]; exact Blk.new _ _ _)
              have HGT : Hid (w7.heap.size ≤ gt) := Lib.hid (by rw [hgt]; exact HB.out.size)
              clear hwt9 hgt e0 e1 e2
              go_wp2_with fail
              go_loopw [43] (fun kv wx => ∃ k : Nat, k ≤ nR ∧ kv = .int .i64 k ∧ Below w7.heap.size w7 wx ∧ Blk wx gt 121 #[.int .i64 ta, .int .i64 tb, .int .i64 tc] ∧ ∀ j, j < k → tr (rightL wt) j ≠ (ta, tb, tc))
                (fun kv _ => nR - (intOf kv).toNat)
              case atStart => exact ⟨0, Nat.zero_le _, rfl, HB9.out, HK9.out, fun j hj => absurd hj (by omega)⟩
              case round =>
                obtain ⟨k, hk, rfl, hbw, hbk, hall⟩ := hrel
                clear HB9 HK9
                have HB9 := Lib.hid hbw
                have HK9 := Lib.hid hbk
                have HAK := Lib.hid hall
                clear hbw hbk hall
                by_cases hkl : k < nR
                case neg =>
                  have HE : Hid (pzB wt (m : Int) x1 x2 x3 = false) := Lib.hid (HFI.out (ta, tb, tc) (tr_mem.2 ⟨i, by have := HNT.out; omega, HT.out.symm⟩) (fun h => by
                    obtain ⟨j, hj, e⟩ := tr_mem.1 h
                    exact HAK.out j (by have := HNR.out; omega) e))
                  have hkI : ¬ (k : Int) < (nR : Int) := by omega
                  go_wp2
                  try rw [Exit.noGoto_ret]
                  go_ret
                  exact ⟨ret_bool HE.out.symm, HB1.out.trans ((HB7.out.trans (HB9.out.mono HB7.out.size)).mono (by have := HSZ.out; have := HG.out; omega))⟩
                case pos =>
                  have hkI : (k : Int) < (nR : Int) := by omega
                  have hrr := HRW.out.below HB9.out (Nat.le_refl _)
                  obtain ⟨br, or, rfl, hbr, hcr⟩ := hrr.2 (by omega)
                  obtain ⟨f0, f1, f2⟩ := hcr k hkl
                  obtain ⟨u, hu⟩ : ∃ u, u = tr (rightL wt) k := ⟨_, rfl⟩
                  rw [← hu] at f0 f1 f2
                  have HU := Lib.hid hu
                  obtain ⟨ua, ub, uc⟩ := u
                  simp only [] at f0 f1 f2
                  clear hrr hcr hu
                  go_upto_region 12 with fail
                  obtain ⟨wu, hwu⟩ : ∃ wu, wu = wr.alloc (.cells #[.int .i64 ua, .int .i64 ub, .int .i64 uc] 121) := ⟨_, rfl⟩
                  obtain ⟨gu, hgu⟩ : ∃ gu, gu = wr.heap.size := ⟨_, rfl⟩
                  rw [← hwu, ← hgu]
                  have HBU : Hid (Below w7.heap.size w7 wu) := Lib.hid (by rw [hwu]; exact HB9.out.alloc HB9.out.size _)
                  have hkt : Blk wu gt 121 #[.int .i64 ta, .int .i64 tb, .int .i64 tc] := by rw [hwu]; exact HK9.out.alloc _
                  have hku : Blk wu gu 121 #[.int .i64 ua, .int .i64 ub, .int .i64 uc] := by rw [hwu, hgu]; exact Blk.new _ _ _
                  have HKT := Lib.hid hkt
                  have g0 : wu.cell? ⟨gt, 0, none⟩ = some (.int .i64 ta) := hkt.cell 0
                  have g1 : wu.cell? ⟨gt, 1, none⟩ = some (.int .i64 tb) := hkt.cell 1
                  have g2 : wu.cell? ⟨gt, 2, none⟩ = some (.int .i64 tc) := hkt.cell 2
                  have k0 : wu.cell? ⟨gu, 0, none⟩ = some (.int .i64 ua) := hku.cell 0
                  have k1 : wu.cell? ⟨gu, 1, none⟩ = some (.int .i64 ub) := hku.cell 1
                  have k2 : wu.cell? ⟨gu, 2, none⟩ = some (.int .i64 uc) := hku.cell 2
                  have hguard := fun w x y => run_guard_tri w x y #[.int .i64 ta, .int .i64 tb, .int .i64 tc] #[.int .i64 ua, .int .i64 ub, .int .i64 uc]
                  have heql := fun w => run_eql_tri w ta tb tc ua ub uc
                  clear hkt hku hwu hgu f0 f1 f2
                  by_cases heq : (ta, tb, tc) = (ua, ub, uc)
                  case pos =>
                    simp only [decide_eq_true heq] at heql
                    have HIN : Hid (tr TL i ∈ rightL wt) := Lib.hid (by
                      rw [← HT.out, heq, HU.out]
                      exact tr_mem.2 ⟨k, by have := HNR.out; omega, rfl⟩)
                    clear heq
                    go_wp2_with fail
                    go_roundw
                    case rel => exact ⟨i + 1, by omega, by go_num, HBU.out, fun j hj => by
                      rcases Nat.lt_or_ge j i with h | h
                      · exact HA.out j h
                      · obtain rfl : j = i := by omega
                        exact HIN.out⟩
                    case measure => simp [intOf]; omega
                  case neg =>
                    simp only [decide_eq_false heq] at heql
                    have HNE : Hid (tr (rightL wt) k ≠ (ta, tb, tc)) := Lib.hid (by rw [← HU.out]; exact fun h => heq h.symm)
                    clear heq
                    go_wp2_with fail
                    go_roundw
                    case rel => exact ⟨k + 1, by omega, by go_num, HBU.out, HKT.out, fun j hj => by
                      rcases Nat.lt_or_ge j k with h | h
                      · exact HAK.out j h
                      · obtain rfl : j = k := by omega
                        exact HNE.out⟩
                    case measure => simp [intOf]; omega

end Go.Proofs.Ytdkcngilmdpbgaa
