/-
  FnExactRskOf: for every input the law returns true: the program's RskOf answers as the specification's, changes no argument, and its answer owns its memory. No conditions.
-/
import Derived.Test.YtfaegfhbbkicgaaRskS
import Derived.Test.YtfaegfhbbkicgaaRskJ
import Derived.Test.YtfaegfhbbkicgaaMarkE
import Derived.Test.YtfaegfhbbkicgaaLsHelp
import Derived.Test.YtfaegfhbbkicgaaFrame
namespace Go.Proofs.Ytfaegfhbbkicgaa
open Go.ChangeShapes Go.WideShapes Go.ChangeAt Go.RowKit

theorem OwnLE.rdE {E : Nat → Sv} {w : World} {lo hi n c : Nat} {A : Option Addr} {ls : List (List Int)} (h : OwnLE E w lo hi A n c ls) : LS w A n ls := OwnL.si ⟨E, h⟩
theorem OwnLE.withinE {E : Nat → Sv} {w w' : World} {lo hi lo' hi' n c : Nat} {A : Option Addr} {ls : List (List Int)} (h : OwnLE E w lo hi A n c ls) (hw : Within lo' hi' w w') (hd : hi ≤ lo' ∨ hi' ≤ lo) : OwnLE E w' lo hi A n c ls := by
  obtain ⟨h1, h2, h3, h4, h5, h6⟩ := h
  refine ⟨h1, ⟨h2.1, ?_⟩, h3, fun j hj => (h4 j hj).within hw hd, h5, h6⟩
  rcases h2.2 with hn | ⟨g, cap, cur, e, hl, hg, rest⟩
  · exact .inl hn
  · have hlt := h3 g (by injection e with e1; rw [e1]; rfl)
    have hsz : g < w.heap.size := Blk.lt (t := _) hg
    exact .inr ⟨g, cap, cur, e, hl, (hw.2.2.2.2 g hsz (by omega)).trans hg, rest⟩
theorem small_mem {ls : List (List Int)} (h : Small ls) : ∀ t ∈ ls, t.length ≤ 100 := fun t ht => by
  obtain ⟨j, hj, rfl⟩ := List.mem_iff_getElem.1 ht
  rw [← li_get hj]; have := h.2 j; omega
theorem end_smallz {ls : List (List Int)} {z : Int} (h : Small ls) (h0 : 0 ≤ z) (h1 : z ≤ 10000) (k : Nat) : 0 ≤ endS (ls.take k) z ∧ endS (ls.take k) z ≤ 20000 := by
  have hb := endS_bound (ls.take k) z (fun t ht => small_mem h t (List.mem_of_mem_take ht))
  have hl : (ls.take k).length ≤ ls.length := by rw [List.length_take]; omega
  have := h.1
  omega
theorem end_small {ls : List (List Int)} (h : Small ls) (_ : (0 : Int) ≤ 1) (_ : (1 : Int) ≤ 1) (k : Nat) : 0 ≤ endS (ls.take k) 1 ∧ endS (ls.take k) 1 ≤ 10000 := by
  have hb := endS_bound (ls.take k) 1 (fun t ht => small_mem h t (List.mem_of_mem_take ht))
  have hl : (ls.take k).length ≤ ls.length := by rw [List.length_take]; omega
  have := h.1
  omega
set_option maxHeartbeats 4000000 in
theorem walk_RskOf (A0 : Option Addr) (n0 c0 : Nat) (xs : List Int) (w : World) (hs0 : SI w A0 n0 xs) (_hfit0 : Fits xs) :
    Calls Try.prog 7 #[.slice A0 n0 c0] w fun e w' => e = .returned (.bool true) ∧ Below w.heap.size w w' := by
  by_cases hbig0 : 1048576 < n0
  · go_enter Try.func7, Try.ntmps7
    go_wp2
    go_ret
    exact ⟨rfl, Below.refl _ _⟩
  have HN0 := Lib.hid (show n0 ≤ 1048576 by omega)
  have HB0 := Lib.hid (Below.refl w.heap.size w)
  obtain ⟨bb, hbb⟩ : ∃ bb, bb = rskB xs := ⟨_, rfl⟩
  obtain ⟨P, hPE⟩ : ∃ P, P = rskA xs := ⟨_, rfl⟩
  obtain ⟨Q, hQE⟩ : ∃ Q, Q = rskC xs := ⟨_, rfl⟩
  have HPE := Lib.hid hPE.symm
  have HQE := Lib.hid hQE.symm
  clear hPE hQE
  go_enter Try.func7, Try.ntmps7
  go_wp2_with fail
  refine (toIntS_fr _ _ _ xs _ (hs0.below HB0.out (Nat.le_refl _)) (by have := HN0.out; omega)).mono ?_
  rintro e w1 ⟨Ap, np, cp, rfl, ho, hb⟩
  have hsz := hb.size
  have HB1 := Lib.hid (HB0.out.trans (hb.mono HB0.out.size))
  have Op_1 := Lib.hid ho
  have Lp_1 := Lib.hid (Nat.le_refl w1.heap.size)
  have Ep : np ≤ 1048576 := by have := ho.len; have := hs0.1; have := HN0.out; omega
  clear HB0 hb hsz ho
  go_wp2_with fail
  refine (specRskOf_any _ _ _ xs _ Op_1.out.si (by omega)).mono ?_
  rintro e w2 ⟨AW1, nW1, cW1, AW2, nW2, cW2, rfl, h1, h2, hb⟩
  rw [HPE.out] at h1
  rw [HQE.out] at h2
  rw [← hbb]
  have hsz := hb.size
  have HB2 := Lib.hid (HB1.out.trans (hb.mono HB1.out.size))
  have Op_2 := Lib.hid (Op_1.out.below hb Lp_1.out)
  have Lp_2 := Lib.hid (Nat.le_trans Lp_1.out hsz)
  have OW1_2 := Lib.hid h1
  have LW1_2 := Lib.hid (Nat.le_refl w2.heap.size)
  have OW2_2 := Lib.hid h2
  have LW2_2 := Lib.hid (Nat.le_refl w2.heap.size)
  have GW := Lib.hid (Nat.le_refl w2.heap.size)
  clear Op_1 Lp_1 HB1 hb hsz h1 h2
  have SW : Hid (w.heap.size ≤ w2.heap.size) := Lib.hid HB2.out.size
  go_wp2_with fail
  refine (toIntS_fr _ _ _ xs _ (hs0.below HB2.out (Nat.le_refl _)) (by have := HN0.out; omega)).mono ?_
  rintro e w3 ⟨Ax, nx, cx, rfl, ho, hb⟩
  have hsz := hb.size
  have HB3 := Lib.hid (HB2.out.trans (hb.mono HB2.out.size))
  have OW1_3 := Lib.hid (OW1_2.out.below hb LW1_2.out)
  have LW1_3 := Lib.hid (Nat.le_trans LW1_2.out hsz)
  have OW2_3 := Lib.hid (OW2_2.out.below hb LW2_2.out)
  have LW2_3 := Lib.hid (Nat.le_trans LW2_2.out hsz)
  have hszx := hsz
  have Ox_3 := Lib.hid ho
  have Lx_3 := Lib.hid (Nat.le_refl w3.heap.size)
  have Ex : nx ≤ 1048576 := by have := ho.len; have := hs0.1; have := HN0.out; omega
  clear OW1_2 LW1_2 OW2_2 LW2_2 HB2 hb hsz ho
  have Sx : Hid (w.heap.size ≤ w3.heap.size) := Lib.hid HB3.out.size
  go_wp2_with fail
  refine (implRskOf_any _ _ _ xs _ Ox_3.out.si (by omega)).mono ?_
  rintro e w4 ⟨AV1, nV, cV1, XV1, AV2, cV2, XV2, rfl, h1, h2, hdj, hb, hm1, hm2⟩
  rw [HPE.out] at h1 hm1
  rw [HQE.out] at h2 hm2
  rw [← hbb]
  have hsz := hb.size
  have HB4 := Lib.hid (HB3.out.trans (hb.mono HB3.out.size))
  have OW1_4 := Lib.hid (OW1_3.out.below hb LW1_3.out)
  have LW1_4 := Lib.hid (Nat.le_trans LW1_3.out hsz)
  have OW2_4 := Lib.hid (OW2_3.out.below hb LW2_3.out)
  have LW2_4 := Lib.hid (Nat.le_trans LW2_3.out hsz)
  have Ox_4 := Lib.hid (Ox_3.out.below hb Lx_3.out)
  have Lx_4 := Lib.hid (Nat.le_trans Lx_3.out hsz)
  have OV1_4 := Lib.hid h1
  have LV1_4 := Lib.hid (Nat.le_refl w4.heap.size)
  have OV2_4 := Lib.hid h2
  have LV2_4 := Lib.hid (Nat.le_refl w4.heap.size)
  have DV := Lib.hid hdj
  have GWx : Hid (w2.heap.size ≤ w3.heap.size) := Lib.hid hszx
  have EV1 : nV ≤ 1099511627776 := by have := h1.1; have := hm1.1; omega
  have EV2 : nV ≤ 1099511627776 := EV1
  have HM1 := Lib.hid hm1
  have HM2 := Lib.hid hm2
  have FP : Hid (∀ k, (li P k).length ≤ 1099511627776) := Lib.hid (fun k => Nat.le_trans (hm1.2 k) (by decide))
  have FQ : Hid (∀ k, (li Q k).length ≤ 1099511627776) := Lib.hid (fun k => Nat.le_trans (hm2.2 k) (by decide))
  have EW1 : nW1 ≤ 1099511627776 := by have := OW1_4.out.len; have := hm1.1; omega
  have EW2 : nW2 ≤ 1099511627776 := by have := OW2_4.out.len; have := hm2.1; omega
  have QP : Hid (∀ k, 0 ≤ endS (P.take k) 1 ∧ endS (P.take k) 1 ≤ 10000) := Lib.hid (end_small hm1 (by decide) (by decide))
  clear OW1_3 LW1_3 OW2_3 LW2_3 Ox_3 Lx_3 HB3 hb hsz h1 h2 hdj hm1 hm2
  go_wp2_with fail
  refine (eqIntSS_any _ _ _ _ _ _ P P _ OV1_4.out.rdE OW1_4.out.si EV1 EW1 (fun k _ => FP.out k) (fun k _ => FP.out k)).mono ?_
  rintro e w5 ⟨rfl, hd⟩
  rw [eqLs_self]
  have hb : Below w4.heap.size w4 w5 := hd.below _
  have hsz := hb.size
  have HB5 := Lib.hid (HB4.out.trans (hb.mono HB4.out.size))
  have OW1_5 := Lib.hid (OW1_4.out.below hb LW1_4.out)
  have LW1_5 := Lib.hid (Nat.le_trans LW1_4.out hsz)
  have OW2_5 := Lib.hid (OW2_4.out.below hb LW2_4.out)
  have LW2_5 := Lib.hid (Nat.le_trans LW2_4.out hsz)
  have Ox_5 := Lib.hid (Ox_4.out.below hb Lx_4.out)
  have Lx_5 := Lib.hid (Nat.le_trans Lx_4.out hsz)
  have OV1_5 := Lib.hid (OV1_4.out.below hb LV1_4.out)
  have LV1_5 := Lib.hid (Nat.le_trans LV1_4.out hsz)
  have OV2_5 := Lib.hid (OV2_4.out.below hb LV2_4.out)
  have LV2_5 := Lib.hid (Nat.le_trans LV2_4.out hsz)
  clear OW1_4 LW1_4 OW2_4 LW2_4 Ox_4 Lx_4 OV1_4 LV1_4 OV2_4 LV2_4 HB4 hb hsz hd
  go_wp2_with fail
  refine (eqIntSS_any _ _ _ _ _ _ Q Q _ OV2_5.out.rdE OW2_5.out.si EV2 EW2 (fun k _ => FQ.out k) (fun k _ => FQ.out k)).mono ?_
  rintro e w6 ⟨rfl, hd⟩
  rw [eqLs_self]
  have hb : Below w5.heap.size w5 w6 := hd.below _
  have hsz := hb.size
  have HB6 := Lib.hid (HB5.out.trans (hb.mono HB5.out.size))
  have OW1_6 := Lib.hid (OW1_5.out.below hb LW1_5.out)
  have LW1_6 := Lib.hid (Nat.le_trans LW1_5.out hsz)
  have OW2_6 := Lib.hid (OW2_5.out.below hb LW2_5.out)
  have LW2_6 := Lib.hid (Nat.le_trans LW2_5.out hsz)
  have Ox_6 := Lib.hid (Ox_5.out.below hb Lx_5.out)
  have Lx_6 := Lib.hid (Nat.le_trans Lx_5.out hsz)
  have OV1_6 := Lib.hid (OV1_5.out.below hb LV1_5.out)
  have LV1_6 := Lib.hid (Nat.le_trans LV1_5.out hsz)
  have OV2_6 := Lib.hid (OV2_5.out.below hb LV2_5.out)
  have LV2_6 := Lib.hid (Nat.le_trans LV2_5.out hsz)
  clear OW1_5 LW1_5 OW2_5 LW2_5 Ox_5 Lx_5 OV1_5 LV1_5 OV2_5 LV2_5 HB5 hb hsz hd
  go_wp2_with fail
  refine (toIntS_fr _ _ _ xs _ (hs0.below HB6.out (Nat.le_refl _)) (by have := HN0.out; omega)).mono ?_
  rintro e w7 ⟨Ay, ny, cy, rfl, ho, hb⟩
  have hsz := hb.size
  have HB7 := Lib.hid (HB6.out.trans (hb.mono HB6.out.size))
  have OW1_7 := Lib.hid (OW1_6.out.below hb LW1_6.out)
  have LW1_7 := Lib.hid (Nat.le_trans LW1_6.out hsz)
  have OW2_7 := Lib.hid (OW2_6.out.below hb LW2_6.out)
  have LW2_7 := Lib.hid (Nat.le_trans LW2_6.out hsz)
  have Ox_7 := Lib.hid (Ox_6.out.below hb Lx_6.out)
  have Lx_7 := Lib.hid (Nat.le_trans Lx_6.out hsz)
  have OV1_7 := Lib.hid (OV1_6.out.below hb LV1_6.out)
  have LV1_7 := Lib.hid (Nat.le_trans LV1_6.out hsz)
  have OV2_7 := Lib.hid (OV2_6.out.below hb LV2_6.out)
  have LV2_7 := Lib.hid (Nat.le_trans LV2_6.out hsz)
  have Oy_7 := Lib.hid ho
  have Ly_7 := Lib.hid (Nat.le_refl w7.heap.size)
  have Ey : ny ≤ 1048576 := by have := ho.len; have := hs0.1; have := HN0.out; omega
  clear OW1_6 LW1_6 OW2_6 LW2_6 Ox_6 Lx_6 OV1_6 LV1_6 OV2_6 LV2_6 HB6 hb hsz ho
  go_wp2_with fail
  refine (eqIntS_any _ _ _ _ _ _ xs xs _ Ox_7.out.si Oy_7.out.si (by omega) (by omega)).mono ?_
  rintro e w8 ⟨rfl, hd⟩
  rw [eqL_self]
  have hb : Below w7.heap.size w7 w8 := hd.below _
  have hsz := hb.size
  have HB8 := Lib.hid (HB7.out.trans (hb.mono HB7.out.size))
  have OW1_8 := Lib.hid (OW1_7.out.below hb LW1_7.out)
  have LW1_8 := Lib.hid (Nat.le_trans LW1_7.out hsz)
  have OW2_8 := Lib.hid (OW2_7.out.below hb LW2_7.out)
  have LW2_8 := Lib.hid (Nat.le_trans LW2_7.out hsz)
  have Ox_8 := Lib.hid (Ox_7.out.below hb Lx_7.out)
  have Lx_8 := Lib.hid (Nat.le_trans Lx_7.out hsz)
  have OV1_8 := Lib.hid (OV1_7.out.below hb LV1_7.out)
  have LV1_8 := Lib.hid (Nat.le_trans LV1_7.out hsz)
  have OV2_8 := Lib.hid (OV2_7.out.below hb LV2_7.out)
  have LV2_8 := Lib.hid (Nat.le_trans LV2_7.out hsz)
  have Oy_8 := Lib.hid (Oy_7.out.below hb Ly_7.out)
  have Ly_8 := Lib.hid (Nat.le_trans Ly_7.out hsz)
  clear OW1_7 LW1_7 OW2_7 LW2_7 Ox_7 Lx_7 OV1_7 LV1_7 OV2_7 LV2_7 Oy_7 Ly_7 HB7 hb hsz hd
  go_wp2_with fail
  refine (markIntS_any _ _ _ _ _ xs 1 _ Ox_8.out (by omega) (by omega) (by omega)).mono ?_
  rintro e w9 ⟨rfl, ho, hg⟩
  have hw := Within.of_grown hg (fun b hb => Ox_8.out.lt b hb)
  have hsz := hg.size
  have HB9 := Lib.hid (HB8.out.trans (hw.below SW.out HB8.out.size))
  have OW1_9 := Lib.hid (OW1_8.out.within hw (.inl (Nat.le_refl _)))
  have LW1_9 := Lib.hid (Nat.le_trans LW1_8.out hsz)
  have OW2_9 := Lib.hid (OW2_8.out.within hw (.inl (Nat.le_refl _)))
  have LW2_9 := Lib.hid (Nat.le_trans LW2_8.out hsz)
  have OV1_9 := Lib.hid (OV1_8.out.withinE hw (.inr (Nat.le_refl _)))
  have LV1_9 := Lib.hid (Nat.le_trans LV1_8.out hsz)
  have OV2_9 := Lib.hid (OV2_8.out.withinE hw (.inr (Nat.le_refl _)))
  have LV2_9 := Lib.hid (Nat.le_trans LV2_8.out hsz)
  have hyn : ¬ (1 : Int) + (nx : Int) < 0 := by omega
  clear OW1_8 LW1_8 OW2_8 LW2_8 Ox_8 Lx_8 OV1_8 LV1_8 OV2_8 LV2_8 HB8 hw hg ho hsz
  go_wp2_with fail
  refine (eqIntSS_any _ _ _ _ _ _ P P _ OV1_9.out.rdE OW1_9.out.si EV1 EW1 (fun k _ => FP.out k) (fun k _ => FP.out k)).mono ?_
  rintro e w10 ⟨rfl, hd⟩
  rw [eqLs_self]
  have hb : Below w9.heap.size w9 w10 := hd.below _
  have hsz := hb.size
  have HB10 := Lib.hid (HB9.out.trans (hb.mono HB9.out.size))
  have OW1_10 := Lib.hid (OW1_9.out.below hb LW1_9.out)
  have LW1_10 := Lib.hid (Nat.le_trans LW1_9.out hsz)
  have OW2_10 := Lib.hid (OW2_9.out.below hb LW2_9.out)
  have LW2_10 := Lib.hid (Nat.le_trans LW2_9.out hsz)
  have OV1_10 := Lib.hid (OV1_9.out.below hb LV1_9.out)
  have LV1_10 := Lib.hid (Nat.le_trans LV1_9.out hsz)
  have OV2_10 := Lib.hid (OV2_9.out.below hb LV2_9.out)
  have LV2_10 := Lib.hid (Nat.le_trans LV2_9.out hsz)
  clear OW1_9 LW1_9 OW2_9 LW2_9 OV1_9 LV1_9 OV2_9 LV2_9 HB9 hb hsz hd
  go_wp2_with fail
  refine (eqIntSS_any _ _ _ _ _ _ Q Q _ OV2_10.out.rdE OW2_10.out.si EV2 EW2 (fun k _ => FQ.out k) (fun k _ => FQ.out k)).mono ?_
  rintro e w11 ⟨rfl, hd⟩
  rw [eqLs_self]
  have hb : Below w10.heap.size w10 w11 := hd.below _
  have hsz := hb.size
  have HB11 := Lib.hid (HB10.out.trans (hb.mono HB10.out.size))
  have OW1_11 := Lib.hid (OW1_10.out.below hb LW1_10.out)
  have LW1_11 := Lib.hid (Nat.le_trans LW1_10.out hsz)
  have OW2_11 := Lib.hid (OW2_10.out.below hb LW2_10.out)
  have LW2_11 := Lib.hid (Nat.le_trans LW2_10.out hsz)
  have OV1_11 := Lib.hid (OV1_10.out.below hb LV1_10.out)
  have LV1_11 := Lib.hid (Nat.le_trans LV1_10.out hsz)
  have OV2_11 := Lib.hid (OV2_10.out.below hb LV2_10.out)
  have LV2_11 := Lib.hid (Nat.le_trans LV2_10.out hsz)
  clear OW1_10 LW1_10 OW2_10 LW2_10 OV1_10 LV1_10 OV2_10 LV2_10 HB10 hb hsz hd
  go_wp2_with fail
  refine (markIntSSE_any XV1 _ _ _ _ _ P 1 _ OV1_11.out EV1 (fun k _ => FP.out k) (fun k _ => by have := QP.out k; omega)).mono ?_
  rintro e w12 ⟨rfl, ho, hk, hw⟩
  have hsz := hw.size
  have HB12 := Lib.hid (HB11.out.trans (hw.below Sx.out HB11.out.size))
  have OW1_12 := Lib.hid (OW1_11.out.within hw (.inl GWx.out))
  have LW1_12 := Lib.hid (Nat.le_trans LW1_11.out hsz)
  have OW2_12 := Lib.hid (OW2_11.out.within hw (.inl GWx.out))
  have LW2_12 := Lib.hid (Nat.le_trans LW2_11.out hsz)
  have OV1_12 := Lib.hid ho
  have LV1_12 := Lib.hid (Nat.le_trans LV1_11.out hsz)
  have OV2_12 := Lib.hid (OV2_11.out.keepL LV2_11.out DV.out hk)
  have LV2_12 := Lib.hid (Nat.le_trans LV2_11.out hsz)
  clear OW1_11 LW1_11 OW2_11 LW2_11 OV1_11 LV1_11 OV2_11 LV2_11 HB11 hw hk ho hsz
  obtain ⟨z, hz⟩ : ∃ z, z = endS P 1 := ⟨_, rfl⟩
  have hzb : 0 ≤ z ∧ z ≤ 10000 := by have h := QP.out P.length; rw [List.take_of_length_le (Nat.le_refl _), ← hz] at h; exact h
  rw [← hz]
  have HZ := Lib.hid hz
  have QQ : Hid (∀ k, 0 ≤ endS (Q.take k) z ∧ endS (Q.take k) z ≤ 20000) := Lib.hid (end_smallz HM2.out hzb.1 hzb.2)
  have hzn : ¬ z < 0 := by omega
  clear hz hzb
  go_wp2_with fail
  refine (markIntSSE_any XV2 _ _ _ _ _ Q z _ OV2_12.out EV2 (fun k _ => FQ.out k) (fun k _ => by have := QQ.out k; omega)).mono ?_
  rintro e w13 ⟨rfl, ho, hk, hw⟩
  have hsz := hw.size
  have HB13 := Lib.hid (HB12.out.trans (hw.below Sx.out HB12.out.size))
  have OW1_13 := Lib.hid (OW1_12.out.within hw (.inl GWx.out))
  have LW1_13 := Lib.hid (Nat.le_trans LW1_12.out hsz)
  have OW2_13 := Lib.hid (OW2_12.out.within hw (.inl GWx.out))
  have LW2_13 := Lib.hid (Nat.le_trans LW2_12.out hsz)
  have OV2_13 := Lib.hid ho
  have LV2_13 := Lib.hid (Nat.le_trans LV2_12.out hsz)
  have OV1_13 := Lib.hid (OV1_12.out.keepL LV1_12.out DV.out.symm hk)
  have LV1_13 := Lib.hid (Nat.le_trans LV1_12.out hsz)
  clear OW1_12 LW1_12 OW2_12 LW2_12 OV1_12 LV1_12 OV2_12 LV2_12 HB12 hw hk ho hsz
  obtain ⟨y, hy⟩ : ∃ y, y = endS Q z := ⟨_, rfl⟩
  have hyb : ¬ y < 0 := by have h := QQ.out Q.length; rw [List.take_of_length_le (Nat.le_refl _), ← hy] at h; omega
  have HY := Lib.hid hy
  rw [← hy]
  clear hy
  go_wp2_with fail
  refine (heldIntSS_yes _ _ _ P 1 _ OV1_13.out.rdE EV1 (fun k _ => FP.out k) (fun k _ => by have := QP.out k; omega)).mono ?_
  rintro e w14 ⟨rfl, hd⟩
  have hb : Below w13.heap.size w13 w14 := hd.below _
  have hsz := hb.size
  have HB14 := Lib.hid (HB13.out.trans (hb.mono HB13.out.size))
  have OW1_14 := Lib.hid (OW1_13.out.below hb LW1_13.out)
  have LW1_14 := Lib.hid (Nat.le_trans LW1_13.out hsz)
  have OW2_14 := Lib.hid (OW2_13.out.below hb LW2_13.out)
  have LW2_14 := Lib.hid (Nat.le_trans LW2_13.out hsz)
  have OV1_14 := Lib.hid (OV1_13.out.below hb LV1_13.out)
  have LV1_14 := Lib.hid (Nat.le_trans LV1_13.out hsz)
  have OV2_14 := Lib.hid (OV2_13.out.below hb LV2_13.out)
  have LV2_14 := Lib.hid (Nat.le_trans LV2_13.out hsz)
  clear OW1_13 LW1_13 OW2_13 LW2_13 OV1_13 LV1_13 OV2_13 LV2_13 HB13 hb hsz hd
  rw [← HZ.out]
  go_wp2_with fail
  refine (heldIntSS_yes _ _ _ Q z _ OV2_14.out.rdE EV2 (fun k _ => FQ.out k) (fun k _ => by have := QQ.out k; omega)).mono ?_
  rintro e w15 ⟨rfl, hd⟩
  have hb : Below w14.heap.size w14 w15 := hd.below _
  have hsz := hb.size
  have HB15 := Lib.hid (HB14.out.trans (hb.mono HB14.out.size))
  have OW1_15 := Lib.hid (OW1_14.out.below hb LW1_14.out)
  have LW1_15 := Lib.hid (Nat.le_trans LW1_14.out hsz)
  have OW2_15 := Lib.hid (OW2_14.out.below hb LW2_14.out)
  have LW2_15 := Lib.hid (Nat.le_trans LW2_14.out hsz)
  have OV1_15 := Lib.hid (OV1_14.out.below hb LV1_14.out)
  have LV1_15 := Lib.hid (Nat.le_trans LV1_14.out hsz)
  have OV2_15 := Lib.hid (OV2_14.out.below hb LV2_14.out)
  have LV2_15 := Lib.hid (Nat.le_trans LV2_14.out hsz)
  clear OW1_14 LW1_14 OW2_14 LW2_14 OV1_14 LV1_14 OV2_14 LV2_14 HB14 hb hsz hd
  rw [← HY.out]
  go_wp2_with fail
  refine (toIntS_fr _ _ _ xs _ (hs0.below HB15.out (Nat.le_refl _)) (by have := HN0.out; omega)).mono ?_
  rintro e w16 ⟨Az, nz, cz, rfl, ho, hb⟩
  have hsz := hb.size
  have HB16 := Lib.hid (HB15.out.trans (hb.mono HB15.out.size))
  have OW1_16 := Lib.hid (OW1_15.out.below hb LW1_15.out)
  have LW1_16 := Lib.hid (Nat.le_trans LW1_15.out hsz)
  have OW2_16 := Lib.hid (OW2_15.out.below hb LW2_15.out)
  have LW2_16 := Lib.hid (Nat.le_trans LW2_15.out hsz)
  have OV1_16 := Lib.hid (OV1_15.out.below hb LV1_15.out)
  have LV1_16 := Lib.hid (Nat.le_trans LV1_15.out hsz)
  have OV2_16 := Lib.hid (OV2_15.out.below hb LV2_15.out)
  have LV2_16 := Lib.hid (Nat.le_trans LV2_15.out hsz)
  have Oz_16 := Lib.hid ho
  have Lz_16 := Lib.hid (Nat.le_refl w16.heap.size)
  have Ez : nz ≤ 1048576 := by have := ho.len; have := hs0.1; have := HN0.out; omega
  clear OW1_15 LW1_15 OW2_15 LW2_15 OV1_15 LV1_15 OV2_15 LV2_15 HB15 hb hsz ho
  go_wp2_with fail
  refine (implRskOf_any _ _ _ xs _ Oz_16.out.si (by omega)).mono ?_
  rintro e w17 ⟨AZ1, nZ, cZ1, XZ1, AZ2, cZ2, XZ2, rfl, h1, h2, hdj, hb, hm1, hm2⟩
  rw [HPE.out] at h1 hm1
  rw [HQE.out] at h2 hm2
  rw [← hbb]
  have hsz := hb.size
  have HB17 := Lib.hid (HB16.out.trans (hb.mono HB16.out.size))
  have OW1_17 := Lib.hid (OW1_16.out.below hb LW1_16.out)
  have LW1_17 := Lib.hid (Nat.le_trans LW1_16.out hsz)
  have OW2_17 := Lib.hid (OW2_16.out.below hb LW2_16.out)
  have LW2_17 := Lib.hid (Nat.le_trans LW2_16.out hsz)
  have OV1_17 := Lib.hid (OV1_16.out.below hb LV1_16.out)
  have LV1_17 := Lib.hid (Nat.le_trans LV1_16.out hsz)
  have OV2_17 := Lib.hid (OV2_16.out.below hb LV2_16.out)
  have LV2_17 := Lib.hid (Nat.le_trans LV2_16.out hsz)
  have Oz_17 := Lib.hid (Oz_16.out.below hb Lz_16.out)
  have Lz_17 := Lib.hid (Nat.le_trans Lz_16.out hsz)
  have OZ1_17 := Lib.hid h1
  have LZ1_17 := Lib.hid (Nat.le_refl w17.heap.size)
  have OZ2_17 := Lib.hid h2
  have LZ2_17 := Lib.hid (Nat.le_refl w17.heap.size)
  have DZ := Lib.hid hdj
  have GZ : Hid (w16.heap.size ≤ w16.heap.size) := Lib.hid (Nat.le_refl _)
  have EZ1 : nZ ≤ 1099511627776 := by have := h1.1; have := hm1.1; omega
  have EZ2 : nZ ≤ 1099511627776 := EZ1
  clear OW1_16 LW1_16 OW2_16 LW2_16 OV1_16 LV1_16 OV2_16 LV2_16 Oz_16 Lz_16 HB16 hb hsz h1 h2 hdj hm1 hm2
  go_wp2_with fail
  refine (eqIntSS_any _ _ _ _ _ _ P P _ OZ1_17.out.rdE OW1_17.out.si EZ1 EW1 (fun k _ => FP.out k) (fun k _ => FP.out k)).mono ?_
  rintro e w18 ⟨rfl, hd⟩
  rw [eqLs_self]
  have hb : Below w17.heap.size w17 w18 := hd.below _
  have hsz := hb.size
  have HB18 := Lib.hid (HB17.out.trans (hb.mono HB17.out.size))
  have OW1_18 := Lib.hid (OW1_17.out.below hb LW1_17.out)
  have LW1_18 := Lib.hid (Nat.le_trans LW1_17.out hsz)
  have OW2_18 := Lib.hid (OW2_17.out.below hb LW2_17.out)
  have LW2_18 := Lib.hid (Nat.le_trans LW2_17.out hsz)
  have OV1_18 := Lib.hid (OV1_17.out.below hb LV1_17.out)
  have LV1_18 := Lib.hid (Nat.le_trans LV1_17.out hsz)
  have OV2_18 := Lib.hid (OV2_17.out.below hb LV2_17.out)
  have LV2_18 := Lib.hid (Nat.le_trans LV2_17.out hsz)
  have OZ1_18 := Lib.hid (OZ1_17.out.below hb LZ1_17.out)
  have LZ1_18 := Lib.hid (Nat.le_trans LZ1_17.out hsz)
  have OZ2_18 := Lib.hid (OZ2_17.out.below hb LZ2_17.out)
  have LZ2_18 := Lib.hid (Nat.le_trans LZ2_17.out hsz)
  clear OW1_17 LW1_17 OW2_17 LW2_17 OV1_17 LV1_17 OV2_17 LV2_17 OZ1_17 LZ1_17 OZ2_17 LZ2_17 HB17 hb hsz hd
  go_wp2_with fail
  refine (eqIntSS_any _ _ _ _ _ _ Q Q _ OZ2_18.out.rdE OW2_18.out.si EZ2 EW2 (fun k _ => FQ.out k) (fun k _ => FQ.out k)).mono ?_
  rintro e w19 ⟨rfl, hd⟩
  rw [eqLs_self]
  have hb : Below w18.heap.size w18 w19 := hd.below _
  have hsz := hb.size
  have HB19 := Lib.hid (HB18.out.trans (hb.mono HB18.out.size))
  have OW1_19 := Lib.hid (OW1_18.out.below hb LW1_18.out)
  have LW1_19 := Lib.hid (Nat.le_trans LW1_18.out hsz)
  have OW2_19 := Lib.hid (OW2_18.out.below hb LW2_18.out)
  have LW2_19 := Lib.hid (Nat.le_trans LW2_18.out hsz)
  have OV1_19 := Lib.hid (OV1_18.out.below hb LV1_18.out)
  have LV1_19 := Lib.hid (Nat.le_trans LV1_18.out hsz)
  have OV2_19 := Lib.hid (OV2_18.out.below hb LV2_18.out)
  have LV2_19 := Lib.hid (Nat.le_trans LV2_18.out hsz)
  have OZ1_19 := Lib.hid (OZ1_18.out.below hb LZ1_18.out)
  have LZ1_19 := Lib.hid (Nat.le_trans LZ1_18.out hsz)
  have OZ2_19 := Lib.hid (OZ2_18.out.below hb LZ2_18.out)
  have LZ2_19 := Lib.hid (Nat.le_trans LZ2_18.out hsz)
  clear OW1_18 LW1_18 OW2_18 LW2_18 OV1_18 LV1_18 OV2_18 LV2_18 OZ1_18 LZ1_18 OZ2_18 LZ2_18 HB18 hb hsz hd
  go_wp2_with fail
  refine (heldIntSS_yes _ _ _ P 1 _ OV1_19.out.rdE EV1 (fun k _ => FP.out k) (fun k _ => by have := QP.out k; omega)).mono ?_
  rintro e w20 ⟨rfl, hd⟩
  have hb : Below w19.heap.size w19 w20 := hd.below _
  have hsz := hb.size
  have HB20 := Lib.hid (HB19.out.trans (hb.mono HB19.out.size))
  have OW1_20 := Lib.hid (OW1_19.out.below hb LW1_19.out)
  have LW1_20 := Lib.hid (Nat.le_trans LW1_19.out hsz)
  have OW2_20 := Lib.hid (OW2_19.out.below hb LW2_19.out)
  have LW2_20 := Lib.hid (Nat.le_trans LW2_19.out hsz)
  have OV1_20 := Lib.hid (OV1_19.out.below hb LV1_19.out)
  have LV1_20 := Lib.hid (Nat.le_trans LV1_19.out hsz)
  have OV2_20 := Lib.hid (OV2_19.out.below hb LV2_19.out)
  have LV2_20 := Lib.hid (Nat.le_trans LV2_19.out hsz)
  have OZ1_20 := Lib.hid (OZ1_19.out.below hb LZ1_19.out)
  have LZ1_20 := Lib.hid (Nat.le_trans LZ1_19.out hsz)
  have OZ2_20 := Lib.hid (OZ2_19.out.below hb LZ2_19.out)
  have LZ2_20 := Lib.hid (Nat.le_trans LZ2_19.out hsz)
  clear OW1_19 LW1_19 OW2_19 LW2_19 OV1_19 LV1_19 OV2_19 LV2_19 OZ1_19 LZ1_19 OZ2_19 LZ2_19 HB19 hb hsz hd
  rw [← HZ.out]
  go_wp2_with fail
  refine (heldIntSS_yes _ _ _ Q z _ OV2_20.out.rdE EV2 (fun k _ => FQ.out k) (fun k _ => by have := QQ.out k; omega)).mono ?_
  rintro e w21 ⟨rfl, hd⟩
  have hb : Below w20.heap.size w20 w21 := hd.below _
  have hsz := hb.size
  have HB21 := Lib.hid (HB20.out.trans (hb.mono HB20.out.size))
  have OW1_21 := Lib.hid (OW1_20.out.below hb LW1_20.out)
  have LW1_21 := Lib.hid (Nat.le_trans LW1_20.out hsz)
  have OW2_21 := Lib.hid (OW2_20.out.below hb LW2_20.out)
  have LW2_21 := Lib.hid (Nat.le_trans LW2_20.out hsz)
  have OV1_21 := Lib.hid (OV1_20.out.below hb LV1_20.out)
  have LV1_21 := Lib.hid (Nat.le_trans LV1_20.out hsz)
  have OV2_21 := Lib.hid (OV2_20.out.below hb LV2_20.out)
  have LV2_21 := Lib.hid (Nat.le_trans LV2_20.out hsz)
  have OZ1_21 := Lib.hid (OZ1_20.out.below hb LZ1_20.out)
  have LZ1_21 := Lib.hid (Nat.le_trans LZ1_20.out hsz)
  have OZ2_21 := Lib.hid (OZ2_20.out.below hb LZ2_20.out)
  have LZ2_21 := Lib.hid (Nat.le_trans LZ2_20.out hsz)
  clear OW1_20 LW1_20 OW2_20 LW2_20 OV1_20 LV1_20 OV2_20 LV2_20 OZ1_20 LZ1_20 OZ2_20 LZ2_20 HB20 hb hsz hd
  rw [← HY.out]
  go_wp2
  go_ret
  exact ⟨rfl, HB21.out⟩

set_option maxRecDepth 100000 in
theorem lifted_RskOf (os : Os) (started : os.Started) (H : Type) (enc : TypeId × Value → H) :
    ReturnsInHanded {} Try.checked os 7 .any (Rows.fnExactRskOfSpec.pre6 enc Try.prog Try.f7 Rows.fnExactRskOfRow.domain false) (Rows.fnExactRskOfSpec.post enc Try.prog Try.f7 false true false false) := by
  refine returnsInHanded_of_change (C := Try.checked) own started (by kernel_rfl) Try.func7
    (ChangeSpec.witness6 (enc := enc) (C := Try.checked) false ⟨#[], #[.slice none 0 0], []⟩ 8 (by kernel_rfl) (by kernel_rfl) (by kernel_rfl) (by kernel_rfl)) ?_
  intro W base args ds gs before hval0 hW hcnd _
  have hval : ∀ (j : Nat) t v, Try.f7.params[j]? = some t → args[j]? = some v → Value.okWide Try.prog W .any base t v := hval0
  have hW' := hW
  obtain ⟨p, q, hA0, hV, rfl, hfz, hnd⟩ := hW
  have hA : DataW.TrodAll enc Try.prog W 0 (fun _ => true) true Try.f7.params.toList args.toList ds p := hA0
  rw [Try.params7] at hA hval
  obtain ⟨v0, vs0, d0, ds0, p0, q0, hargs, rfl, rfl, h0, r0⟩ := trodAll_cons hA
  obtain ⟨rfl, rfl, rfl⟩ := trodAll_nil r0
  obtain rfl : args = #[v0] := by cases args; simp_all
  obtain ⟨rfl, rfl⟩ := trodVars_none hV
  obtain ⟨b0, len0, cap0, rfl⟩ := okWide_slice Try.underlying22 (hval 0 22 v0 rfl rfl)
  have k0 := h0
  have lt0 : ∀ x ∈ p0, x.block < W.heap.size := by obtain ⟨m, hm⟩ := k0; exact DataW.trod_lt m _ _ _ hm
  obtain ⟨xs0, s0, fit0⟩ := SI.of_trod h0
  clear hA0 hval0
  refine (walk_RskOf b0 len0 cap0 xs0 W s0 fit0).mono fun e W' ⟨he, bel⟩ => ?_
  subst he
  exact ⟨_, rfl, _, _, _, [], _, [], hW', trodAll_mk1 (shut_bool Try.underlying4 _), (trodAll_cons_mk (Below.trod laidOut (by kernel_rfl) (of_decide_eq_true (by kernel_rfl)) k0 bel lt0) trodAll_mk0), rfl, bel.frame _, fun h => by cases h⟩

theorem fnExactRskOf_holds : Rows.FnExactRskOfSaid :=
  OpenClaim.holds_of_wide 7 Try.f7 rfl rfl rfl rfl rfl rfl rfl ⟨rfl, rfl, rfl, rfl, rfl⟩ rfl rfl rfl rfl rfl (by kernel_rfl) Try.func7 (by kernel_rfl)
    (of_decide_eq_true (by kernel_rfl)) (by unfold Func.isWrapper; first | (rw [if_pos (by decide +kernel)]; kernel_rfl) | (rw [if_neg (by decide +kernel)]; exact ⟨rfl, rfl⟩))
    (fun os started H enc _ => lifted_RskOf os started H enc)
end Go.Proofs.Ytfaegfhbbkicgaa
