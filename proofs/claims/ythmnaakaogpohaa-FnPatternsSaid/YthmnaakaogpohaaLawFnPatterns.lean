/-
  FnPatterns: for every input the law returns true: patterns go with inverses, permutations with one descent have no pattern that vexillary ones do not have, and texts are read back. No conditions.
-/
import Derived.Test.YthmnaakaogpohaaBent
import Derived.Test.YthmnaakaogpohaaPatF
import Derived.Test.YthmnaakaogpohaaPatI
import Derived.Test.YthmnaakaogpohaaImplC
import Derived.Test.YthmnaakaogpohaaInts
import Derived.Test.YthmnaakaogpohaaFrameB
namespace Go.Proofs.Ythmnaakaogpohaa
open Go.ChangeShapes Go.WideShapes Go.ChangeAt Go.RowKit

set_option maxRecDepth 100000 in
set_option maxHeartbeats 8000000 in
theorem walk_FnPatterns (A : Option Addr) (n c : Nat) (bs : List Int) (w : World) (hs : SB w w.heap.size A n bs) :
    Calls Try.prog 3 #[.slice A n c] w fun e w' => e = .returned (.bool true) ∧ Below w.heap.size w w' := by
  by_cases hbig : 1048576 < n
  · have hbI : decide (1048576 < (n : Int)) = true := by simp; omega
    go_enter Try.func3, Try.ntmps3
    go_wp2_with fail
    refine (big_any A n c w).mono ?_
    rintro e w1 ⟨rfl, rfl⟩
    rw [hbI]
    go_wp2
    go_ret
    exact ⟨rfl, Below.refl _ _⟩
  have hbI : decide (1048576 < (n : Int)) = false := by simp; omega
  have HbI := Lib.hid hbI
  clear hbI
  have HS0 := Lib.hid hs
  clear hs
  go_enter Try.func3, Try.ntmps3
  go_wp2_with fail
  refine (big_any A n c w).mono ?_
  rintro e w0 ⟨rfl, rfl⟩
  rw [HbI.out]
  go_wp2_with fail
  refine (drawHasPattern_any A n c bs w HS0.out (by omega)).mono ?_
  rintro e w1 ⟨us, ps, A1, A2, n1, c1, n2, c2, rfl, hou, hop, hn8, hn4, hpp, hb⟩
  have HB1 := Lib.hid hb
  have Ou_0 := Lib.hid hou
  have Lu_0 := Lib.hid (Nat.le_refl w1.heap.size)
  have Op_0 := Lib.hid hop
  have Lp_0 := Lib.hid (Nat.le_refl w1.heap.size)
  have HPP := Lib.hid hpp
  have HLU := Lib.hid hou.len
  have HLP := Lib.hid hop.len
  have hcapu := hou.cap
  clear hou hop hpp hb
  cases hu : isPermB us with
  | false =>
    go_wp2_with fail
    refine (specIsPerm_is _ hu Ou_0.out.si hcapu (by omega)).mono ?_
    rintro e w2 ⟨rfl, hd⟩
    have hb : Below w1.heap.size w1 w2 := hd.below _
    have hsz := hb.size
    have HB2 := Lib.hid (HB1.out.trans (hb.mono HB1.out.size))
    have Ou_1 := Lib.hid (Ou_0.out.below hb Lu_0.out)
    have Lu_1 := Lib.hid (Nat.le_trans Lu_0.out hsz)
    have Op_1 := Lib.hid (Op_0.out.below hb Lp_0.out)
    have Lp_1 := Lib.hid (Nat.le_trans Lp_0.out hsz)
    clear Ou_0 Lu_0 Op_0 Lp_0 HB1 hb hsz hd
    have HNO := Lib.hid hu
    clear hu
    go_wp2_with fail
    refine (implFormat_any _ _ _ us _ Ou_1.out.si (by omega)).mono ?_
    rintro e w3 ⟨rfl, hb⟩
    rw [fmtB_no HNO.out]
    have hsz := hb.size
    have HB3 := Lib.hid (HB2.out.trans (hb.mono HB2.out.size))
    have Ou_2 := Lib.hid (Ou_1.out.below hb Lu_1.out)
    have Lu_2 := Lib.hid (Nat.le_trans Lu_1.out hsz)
    have Op_2 := Lib.hid (Op_1.out.below hb Lp_1.out)
    have Lp_2 := Lib.hid (Nat.le_trans Lp_1.out hsz)
    clear Ou_1 Lu_1 Op_1 Lp_1 HB2 hb hsz
    go_wp2_with fail
    refine (implParse_any ByteArray.empty _ (by decide)).mono ?_
    rintro e w4 ⟨Av, nv, cv, rfl, ho, hb⟩
    rw [read_none]
    have hsz := hb.size
    have HB4 := Lib.hid (HB3.out.trans (hb.mono HB3.out.size))
    have Ou_3 := Lib.hid (Ou_2.out.below hb Lu_2.out)
    have Lu_3 := Lib.hid (Nat.le_trans Lu_2.out hsz)
    have Op_3 := Lib.hid (Op_2.out.below hb Lp_2.out)
    have Lp_3 := Lib.hid (Nat.le_trans Lp_2.out hsz)
    have Ov_0 := Lib.hid ho
    have Lv_0 := Lib.hid (Nat.le_refl w4.heap.size)
    have Nv := Lib.hid ho.len
    have Gv := Lib.hid HB3.out.size
    have Du_v : Hid (_ ≤ w3.heap.size) := Lu_2
    have Dp_v : Hid (_ ≤ w3.heap.size) := Lp_2
    clear Ou_2 Lu_2 Op_2 Lp_2 HB3 hb hsz ho
    go_wp2_with fail
    refine (implHasPattern_any _ _ _ _ _ _ us ps _ Ou_3.out.si Op_3.out.si (by omega) (by omega)).mono ?_
    rintro e w5 ⟨rfl, hb⟩
    rw [hasPB_1 HNO.out]
    have hsz := hb.size
    have HB5 := Lib.hid (HB4.out.trans (hb.mono HB4.out.size))
    have Ou_4 := Lib.hid (Ou_3.out.below hb Lu_3.out)
    have Lu_4 := Lib.hid (Nat.le_trans Lu_3.out hsz)
    have Op_4 := Lib.hid (Op_3.out.below hb Lp_3.out)
    have Lp_4 := Lib.hid (Nat.le_trans Lp_3.out hsz)
    have Ov_1 := Lib.hid (Ov_0.out.below hb Lv_0.out)
    have Lv_1 := Lib.hid (Nat.le_trans Lv_0.out hsz)
    clear Ou_3 Lu_3 Op_3 Lp_3 Ov_0 Lv_0 HB4 hb hsz
    go_wp2
    go_ret
    exact ⟨rfl, HB5.out⟩
  | true =>
    have HP := Lib.hid (isPermB_P hu)
    have hn7 : n1 ≤ 7 := by have := HP.out.2.1; have := HLU.out; omega
    go_wp2_with fail
    refine (specIsPerm_is _ hu Ou_0.out.si hcapu (by omega)).mono ?_
    rintro e w2 ⟨rfl, hd⟩
    have hb : Below w1.heap.size w1 w2 := hd.below _
    have hsz := hb.size
    have HB2 := Lib.hid (HB1.out.trans (hb.mono HB1.out.size))
    have Ou_1 := Lib.hid (Ou_0.out.below hb Lu_0.out)
    have Lu_1 := Lib.hid (Nat.le_trans Lu_0.out hsz)
    have Op_1 := Lib.hid (Op_0.out.below hb Lp_0.out)
    have Lp_1 := Lib.hid (Nat.le_trans Lp_0.out hsz)
    clear Ou_0 Lu_0 Op_0 Lp_0 HB1 hb hsz hd
    have HU := Lib.hid hu
    clear hu
    go_wp2_with fail
    refine (implHasPattern_any _ _ _ _ _ _ us ps _ Ou_1.out.si Op_1.out.si (by omega) (by omega)).mono ?_
    rintro e w3 ⟨rfl, hb⟩
    obtain ⟨is, his⟩ : ∃ b, b = hasPB us ps := ⟨_, rfl⟩
    rw [← his]
    have HIS := Lib.hid his
    clear his
    have hsz := hb.size
    have HB3 := Lib.hid (HB2.out.trans (hb.mono HB2.out.size))
    have Ou_2 := Lib.hid (Ou_1.out.below hb Lu_1.out)
    have Lu_2 := Lib.hid (Nat.le_trans Lu_1.out hsz)
    have Op_2 := Lib.hid (Op_1.out.below hb Lp_1.out)
    have Lp_2 := Lib.hid (Nat.le_trans Lp_1.out hsz)
    clear Ou_1 Lu_1 Op_1 Lp_1 HB2 hb hsz
    go_wp2_with fail
    refine (implInverse_any _ _ _ us _ Ou_2.out.si (by omega)).mono ?_
    rintro e w4 ⟨Ai, ni, ci, rfl, ho, hb⟩
    have hsz := hb.size
    have HB4 := Lib.hid (HB3.out.trans (hb.mono HB3.out.size))
    have Ou_3 := Lib.hid (Ou_2.out.below hb Lu_2.out)
    have Lu_3 := Lib.hid (Nat.le_trans Lu_2.out hsz)
    have Op_3 := Lib.hid (Op_2.out.below hb Lp_2.out)
    have Lp_3 := Lib.hid (Nat.le_trans Lp_2.out hsz)
    have Oi_0 := Lib.hid ho
    have Li_0 := Lib.hid (Nat.le_refl w4.heap.size)
    have Ni := Lib.hid ho.len
    have Gi := Lib.hid HB3.out.size
    have Du_i : Hid (_ ≤ w3.heap.size) := Lu_2
    have Dp_i : Hid (_ ≤ w3.heap.size) := Lp_2
    clear Ou_2 Lu_2 Op_2 Lp_2 HB3 hb hsz ho
    have ei : ni ≤ 7 := by have := Ni.out; have := inv_len HP.out; have := HLU.out; omega
    go_wp2_with fail
    refine (implInverse_any _ _ _ ps _ Op_3.out.si (by omega)).mono ?_
    rintro e w5 ⟨Aj, nj, cj, rfl, ho, hb⟩
    have hsz := hb.size
    have HB5 := Lib.hid (HB4.out.trans (hb.mono HB4.out.size))
    have Ou_4 := Lib.hid (Ou_3.out.below hb Lu_3.out)
    have Lu_4 := Lib.hid (Nat.le_trans Lu_3.out hsz)
    have Op_4 := Lib.hid (Op_3.out.below hb Lp_3.out)
    have Lp_4 := Lib.hid (Nat.le_trans Lp_3.out hsz)
    have Oi_1 := Lib.hid (Oi_0.out.below hb Li_0.out)
    have Li_1 := Lib.hid (Nat.le_trans Li_0.out hsz)
    have Oj_0 := Lib.hid ho
    have Lj_0 := Lib.hid (Nat.le_refl w5.heap.size)
    have Nj := Lib.hid ho.len
    have Gj := Lib.hid HB4.out.size
    have Du_j : Hid (_ ≤ w4.heap.size) := Lu_3
    have Dp_j : Hid (_ ≤ w4.heap.size) := Lp_3
    have Di_j : Hid (_ ≤ w4.heap.size) := Li_0
    clear Ou_3 Lu_3 Op_3 Lp_3 Oi_0 Li_0 HB4 hb hsz ho
    have ej : nj ≤ 7 := by have := Nj.out; have := inv_len HPP.out; have := HLP.out; omega
    go_wp2_with fail
    refine (implHasPattern_any _ _ _ _ _ _ (invPerm us) (invPerm ps) _ Oi_1.out.si Oj_0.out.si (by omega) (by omega)).mono ?_
    rintro e w6 ⟨rfl, hb⟩
    rw [has_inv HP.out HPP.out, ← HIS.out]
    have hsz := hb.size
    have HB6 := Lib.hid (HB5.out.trans (hb.mono HB5.out.size))
    have Ou_5 := Lib.hid (Ou_4.out.below hb Lu_4.out)
    have Lu_5 := Lib.hid (Nat.le_trans Lu_4.out hsz)
    have Op_5 := Lib.hid (Op_4.out.below hb Lp_4.out)
    have Lp_5 := Lib.hid (Nat.le_trans Lp_4.out hsz)
    have Oi_2 := Lib.hid (Oi_1.out.below hb Li_1.out)
    have Li_2 := Lib.hid (Nat.le_trans Li_1.out hsz)
    have Oj_1 := Lib.hid (Oj_0.out.below hb Lj_0.out)
    have Lj_1 := Lib.hid (Nat.le_trans Lj_0.out hsz)
    clear Ou_4 Lu_4 Op_4 Lp_4 Oi_1 Li_1 Oj_0 Lj_0 HB5 hb hsz
    have hne : (is != is) = false := by cases is <;> rfl
    go_wp2_with fail
    refine (implHasPattern_any _ _ _ _ _ _ us us _ Ou_5.out.si Ou_5.out.si (by omega) (by omega)).mono ?_
    rintro e w7 ⟨rfl, hb⟩
    rw [has_self HP.out]
    have hsz := hb.size
    have HB7 := Lib.hid (HB6.out.trans (hb.mono HB6.out.size))
    have Ou_6 := Lib.hid (Ou_5.out.below hb Lu_5.out)
    have Lu_6 := Lib.hid (Nat.le_trans Lu_5.out hsz)
    have Op_6 := Lib.hid (Op_5.out.below hb Lp_5.out)
    have Lp_6 := Lib.hid (Nat.le_trans Lp_5.out hsz)
    have Oi_3 := Lib.hid (Oi_2.out.below hb Li_2.out)
    have Li_3 := Lib.hid (Nat.le_trans Li_2.out hsz)
    have Oj_2 := Lib.hid (Oj_1.out.below hb Lj_1.out)
    have Lj_2 := Lib.hid (Nat.le_trans Lj_1.out hsz)
    clear Ou_5 Lu_5 Op_5 Lp_5 Oi_2 Li_2 Oj_1 Lj_1 HB6 hb hsz
    go_wp2_with fail
    refine (implVex_any _ _ _ us _ Ou_6.out.si (by omega)).mono ?_
    rintro e w8 ⟨rfl, hb⟩
    have hsz := hb.size
    have HB8 := Lib.hid (HB7.out.trans (hb.mono HB7.out.size))
    have Ou_7 := Lib.hid (Ou_6.out.below hb Lu_6.out)
    have Lu_7 := Lib.hid (Nat.le_trans Lu_6.out hsz)
    have Op_7 := Lib.hid (Op_6.out.below hb Lp_6.out)
    have Lp_7 := Lib.hid (Nat.le_trans Lp_6.out hsz)
    have Oi_4 := Lib.hid (Oi_3.out.below hb Li_3.out)
    have Li_4 := Lib.hid (Nat.le_trans Li_3.out hsz)
    have Oj_3 := Lib.hid (Oj_2.out.below hb Lj_2.out)
    have Lj_3 := Lib.hid (Nat.le_trans Lj_2.out hsz)
    clear Ou_6 Lu_6 Op_6 Lp_6 Oi_3 Li_3 Oj_2 Lj_2 HB7 hb hsz
    cases hv : vexB us with
    | false =>
      have HV := Lib.hid hv
      clear hv
      have HH : Hid (hasPB us [1, 0, 3, 2] = true) := Lib.hid (by have h := HV.out; rw [vexB_yes HU.out rfl] at h; simpa using h)
      go_wp2_with fail
      obtain ⟨w9, hwx⟩ : ∃ z, z = w8.alloc (.cells #[.int .i64 1, .int .i64 0, .int .i64 3, .int .i64 2] 3) := ⟨_, rfl⟩
      obtain ⟨gl, hgl⟩ : ∃ z, z = w8.heap.size := ⟨_, rfl⟩
      have HSL : Hid (SI w9 (some ⟨gl, 0, none⟩) 4 [1, 0, 3, 2]) := Lib.hid (by rw [hwx, hgl]; exact SI_lit4 _)
      have hb : Below w8.heap.size w8 w9 := by rw [hwx]; exact Below.alloc_self _ _
      rw [← hwx, ← hgl]
      clear hwx hgl
      have hsz := hb.size
      have HB9 := Lib.hid (HB8.out.trans (hb.mono HB8.out.size))
      have Ou_8 := Lib.hid (Ou_7.out.below hb Lu_7.out)
      have Lu_8 := Lib.hid (Nat.le_trans Lu_7.out hsz)
      have Op_8 := Lib.hid (Op_7.out.below hb Lp_7.out)
      have Lp_8 := Lib.hid (Nat.le_trans Lp_7.out hsz)
      have Oi_5 := Lib.hid (Oi_4.out.below hb Li_4.out)
      have Li_5 := Lib.hid (Nat.le_trans Li_4.out hsz)
      have Oj_4 := Lib.hid (Oj_3.out.below hb Lj_3.out)
      have Lj_4 := Lib.hid (Nat.le_trans Lj_3.out hsz)
      clear Ou_7 Lu_7 Op_7 Lp_7 Oi_4 Li_4 Oj_3 Lj_3 HB8 hb hsz
      go_wp2_with fail
      refine (implHasPattern_any _ _ _ _ _ _ us [1, 0, 3, 2] _ Ou_8.out.si HSL.out (by omega) (by omega)).mono ?_
      rintro e w10 ⟨rfl, hb⟩
      rw [HH.out]
      have hsz := hb.size
      have HB10 := Lib.hid (HB9.out.trans (hb.mono HB9.out.size))
      have Ou_9 := Lib.hid (Ou_8.out.below hb Lu_8.out)
      have Lu_9 := Lib.hid (Nat.le_trans Lu_8.out hsz)
      have Op_9 := Lib.hid (Op_8.out.below hb Lp_8.out)
      have Lp_9 := Lib.hid (Nat.le_trans Lp_8.out hsz)
      have Oi_6 := Lib.hid (Oi_5.out.below hb Li_5.out)
      have Li_6 := Lib.hid (Nat.le_trans Li_5.out hsz)
      have Oj_5 := Lib.hid (Oj_4.out.below hb Lj_4.out)
      have Lj_5 := Lib.hid (Nat.le_trans Lj_4.out hsz)
      clear Ou_8 Lu_8 Op_8 Lp_8 Oi_5 Li_5 Oj_4 Lj_4 HB9 hb hsz
      go_wp2_with fail
      refine (implIsGra_any _ _ _ us _ Ou_9.out.si (by omega)).mono ?_
      rintro e w11 ⟨rfl, hb⟩
      have hsz := hb.size
      have HB11 := Lib.hid (HB10.out.trans (hb.mono HB10.out.size))
      have Ou_10 := Lib.hid (Ou_9.out.below hb Lu_9.out)
      have Lu_10 := Lib.hid (Nat.le_trans Lu_9.out hsz)
      have Op_10 := Lib.hid (Op_9.out.below hb Lp_9.out)
      have Lp_10 := Lib.hid (Nat.le_trans Lp_9.out hsz)
      have Oi_7 := Lib.hid (Oi_6.out.below hb Li_6.out)
      have Li_7 := Lib.hid (Nat.le_trans Li_6.out hsz)
      have Oj_6 := Lib.hid (Oj_5.out.below hb Lj_5.out)
      have Lj_6 := Lib.hid (Nat.le_trans Lj_5.out hsz)
      clear Ou_9 Lu_9 Op_9 Lp_9 Oi_6 Li_6 Oj_5 Lj_5 HB10 hb hsz
      have HG : Hid (grassB us = false) := Lib.hid (by
        cases hg : grassB us with
        | false => rfl
        | true => have := gra_vex hg; rw [HV.out] at this; cases this)
      rw [HG.out]
      go_wp2_with fail
      refine (implFormat_any _ _ _ us _ Ou_10.out.si (by omega)).mono ?_
      rintro e w12 ⟨rfl, hb⟩
      have hsz := hb.size
      have HB12 := Lib.hid (HB11.out.trans (hb.mono HB11.out.size))
      have Ou_11 := Lib.hid (Ou_10.out.below hb Lu_10.out)
      have Lu_11 := Lib.hid (Nat.le_trans Lu_10.out hsz)
      have Op_11 := Lib.hid (Op_10.out.below hb Lp_10.out)
      have Lp_11 := Lib.hid (Nat.le_trans Lp_10.out hsz)
      have Oi_8 := Lib.hid (Oi_7.out.below hb Li_7.out)
      have Li_8 := Lib.hid (Nat.le_trans Li_7.out hsz)
      have Oj_7 := Lib.hid (Oj_6.out.below hb Lj_6.out)
      have Lj_7 := Lib.hid (Nat.le_trans Lj_6.out hsz)
      clear Ou_10 Lu_10 Op_10 Lp_10 Oi_7 Li_7 Oj_6 Lj_6 HB11 hb hsz
      have HRB := Lib.hid (read_back HP.out)
      go_wp2_with fail
      refine (implParse_any (fmtB us) _ size_small).mono ?_
      rintro e w13 ⟨Av, nv, cv, rfl, ho, hb⟩
      rw [HRB.out.2] at ho
      rw [HRB.out.1]
      have hsz := hb.size
      have HB13 := Lib.hid (HB12.out.trans (hb.mono HB12.out.size))
      have Ou_12 := Lib.hid (Ou_11.out.below hb Lu_11.out)
      have Lu_12 := Lib.hid (Nat.le_trans Lu_11.out hsz)
      have Op_12 := Lib.hid (Op_11.out.below hb Lp_11.out)
      have Lp_12 := Lib.hid (Nat.le_trans Lp_11.out hsz)
      have Oi_9 := Lib.hid (Oi_8.out.below hb Li_8.out)
      have Li_9 := Lib.hid (Nat.le_trans Li_8.out hsz)
      have Oj_8 := Lib.hid (Oj_7.out.below hb Lj_7.out)
      have Lj_8 := Lib.hid (Nat.le_trans Lj_7.out hsz)
      have Ov_0 := Lib.hid ho
      have Lv_0 := Lib.hid (Nat.le_refl w13.heap.size)
      have Nv := Lib.hid ho.len
      have Gv := Lib.hid HB12.out.size
      have Du_v : Hid (_ ≤ w12.heap.size) := Lu_11
      have Dp_v : Hid (_ ≤ w12.heap.size) := Lp_11
      have Di_v : Hid (_ ≤ w12.heap.size) := Li_8
      have Dj_v : Hid (_ ≤ w12.heap.size) := Lj_7
      clear Ou_11 Lu_11 Op_11 Lp_11 Oi_8 Li_8 Oj_7 Lj_7 HB12 hb hsz ho
      have ev : nv ≤ 7 := by have := Nv.out; have := HLU.out; omega
      go_wp2_with fail
      refine (ints_any _ _ _ _ _ _ us us _ Ov_0.out.si Ou_12.out.si (by omega) (by omega)).mono ?_
      rintro e w14 ⟨rfl, hd⟩
      rw [eqL_self]
      have hb : Below w13.heap.size w13 w14 := hd.below _
      have hsz := hb.size
      have HB14 := Lib.hid (HB13.out.trans (hb.mono HB13.out.size))
      have Ou_13 := Lib.hid (Ou_12.out.below hb Lu_12.out)
      have Lu_13 := Lib.hid (Nat.le_trans Lu_12.out hsz)
      have Op_13 := Lib.hid (Op_12.out.below hb Lp_12.out)
      have Lp_13 := Lib.hid (Nat.le_trans Lp_12.out hsz)
      have Oi_10 := Lib.hid (Oi_9.out.below hb Li_9.out)
      have Li_10 := Lib.hid (Nat.le_trans Li_9.out hsz)
      have Oj_9 := Lib.hid (Oj_8.out.below hb Lj_8.out)
      have Lj_9 := Lib.hid (Nat.le_trans Lj_8.out hsz)
      have Ov_1 := Lib.hid (Ov_0.out.below hb Lv_0.out)
      have Lv_1 := Lib.hid (Nat.le_trans Lv_0.out hsz)
      clear Ou_12 Lu_12 Op_12 Lp_12 Oi_9 Li_9 Oj_8 Lj_8 Ov_0 Lv_0 HB13 hb hsz hd
      go_wp2_with fail
      refine (implEmbed_any _ _ _ us 7 _ Ou_13.out.si (by omega)).mono ?_
      rintro e w15 ⟨Ae, ne, ce, rfl, ho, hb⟩
      have hsz := hb.size
      have HB15 := Lib.hid (HB14.out.trans (hb.mono HB14.out.size))
      have Ou_14 := Lib.hid (Ou_13.out.below hb Lu_13.out)
      have Lu_14 := Lib.hid (Nat.le_trans Lu_13.out hsz)
      have Op_14 := Lib.hid (Op_13.out.below hb Lp_13.out)
      have Lp_14 := Lib.hid (Nat.le_trans Lp_13.out hsz)
      have Oi_11 := Lib.hid (Oi_10.out.below hb Li_10.out)
      have Li_11 := Lib.hid (Nat.le_trans Li_10.out hsz)
      have Oj_10 := Lib.hid (Oj_9.out.below hb Lj_9.out)
      have Lj_10 := Lib.hid (Nat.le_trans Lj_9.out hsz)
      have Ov_2 := Lib.hid (Ov_1.out.below hb Lv_1.out)
      have Lv_2 := Lib.hid (Nat.le_trans Lv_1.out hsz)
      have Oe_0 := Lib.hid ho
      have Le_0 := Lib.hid (Nat.le_refl w15.heap.size)
      have Ne := Lib.hid ho.len
      have Ge := Lib.hid HB14.out.size
      have Du_e : Hid (_ ≤ w14.heap.size) := Lu_13
      have Dp_e : Hid (_ ≤ w14.heap.size) := Lp_13
      have Di_e : Hid (_ ≤ w14.heap.size) := Li_10
      have Dj_e : Hid (_ ≤ w14.heap.size) := Lj_9
      have Dv_e : Hid (_ ≤ w14.heap.size) := Lv_1
      clear Ou_13 Lu_13 Op_13 Lp_13 Oi_10 Li_10 Oj_9 Lj_9 Ov_1 Lv_1 HB14 hb hsz ho
      have ee : ne ≤ 7 := by have := Ne.out; rw [emb7 HP.out, fillA_len] at this; omega
      go_wp2_with fail
      refine (implTrim_any _ _ _ (embPerm us 7) _ Oe_0.out.si (by omega)).mono ?_
      rintro e w16 ⟨At, nt, ct, rfl, ho, hb⟩
      rw [trim_emb HP.out] at ho
      have hsz := hb.size
      have HB16 := Lib.hid (HB15.out.trans (hb.mono HB15.out.size))
      have Ou_15 := Lib.hid (Ou_14.out.below hb Lu_14.out)
      have Lu_15 := Lib.hid (Nat.le_trans Lu_14.out hsz)
      have Op_15 := Lib.hid (Op_14.out.below hb Lp_14.out)
      have Lp_15 := Lib.hid (Nat.le_trans Lp_14.out hsz)
      have Oi_12 := Lib.hid (Oi_11.out.below hb Li_11.out)
      have Li_12 := Lib.hid (Nat.le_trans Li_11.out hsz)
      have Oj_11 := Lib.hid (Oj_10.out.below hb Lj_10.out)
      have Lj_11 := Lib.hid (Nat.le_trans Lj_10.out hsz)
      have Ov_3 := Lib.hid (Ov_2.out.below hb Lv_2.out)
      have Lv_3 := Lib.hid (Nat.le_trans Lv_2.out hsz)
      have Oe_1 := Lib.hid (Oe_0.out.below hb Le_0.out)
      have Le_1 := Lib.hid (Nat.le_trans Le_0.out hsz)
      have Ot_0 := Lib.hid ho
      have Lt_0 := Lib.hid (Nat.le_refl w16.heap.size)
      have Nt := Lib.hid ho.len
      have Gt := Lib.hid HB15.out.size
      have Du_t : Hid (_ ≤ w15.heap.size) := Lu_14
      have Dp_t : Hid (_ ≤ w15.heap.size) := Lp_14
      have Di_t : Hid (_ ≤ w15.heap.size) := Li_11
      have Dj_t : Hid (_ ≤ w15.heap.size) := Lj_10
      have Dv_t : Hid (_ ≤ w15.heap.size) := Lv_2
      have De_t : Hid (_ ≤ w15.heap.size) := Le_0
      clear Ou_14 Lu_14 Op_14 Lp_14 Oi_11 Li_11 Oj_10 Lj_10 Ov_2 Lv_2 Oe_0 Le_0 HB15 hb hsz ho
      have et : nt ≤ 1099511627776 := by have h := Nt.out; rw [← h]; exact Nat.le_trans (trimPerm_small us) (by decide)
      go_wp2_with fail
      refine (implTrim_any _ _ _ us _ Ou_15.out.si (by omega)).mono ?_
      rintro e w17 ⟨Ar, nr, cr, rfl, ho, hb⟩
      have hsz := hb.size
      have HB17 := Lib.hid (HB16.out.trans (hb.mono HB16.out.size))
      have Ou_16 := Lib.hid (Ou_15.out.below hb Lu_15.out)
      have Lu_16 := Lib.hid (Nat.le_trans Lu_15.out hsz)
      have Op_16 := Lib.hid (Op_15.out.below hb Lp_15.out)
      have Lp_16 := Lib.hid (Nat.le_trans Lp_15.out hsz)
      have Oi_13 := Lib.hid (Oi_12.out.below hb Li_12.out)
      have Li_13 := Lib.hid (Nat.le_trans Li_12.out hsz)
      have Oj_12 := Lib.hid (Oj_11.out.below hb Lj_11.out)
      have Lj_12 := Lib.hid (Nat.le_trans Lj_11.out hsz)
      have Ov_4 := Lib.hid (Ov_3.out.below hb Lv_3.out)
      have Lv_4 := Lib.hid (Nat.le_trans Lv_3.out hsz)
      have Oe_2 := Lib.hid (Oe_1.out.below hb Le_1.out)
      have Le_2 := Lib.hid (Nat.le_trans Le_1.out hsz)
      have Ot_1 := Lib.hid (Ot_0.out.below hb Lt_0.out)
      have Lt_1 := Lib.hid (Nat.le_trans Lt_0.out hsz)
      have Or_0 := Lib.hid ho
      have Lr_0 := Lib.hid (Nat.le_refl w17.heap.size)
      have Nr := Lib.hid ho.len
      have Gr := Lib.hid HB16.out.size
      have Du_r : Hid (_ ≤ w16.heap.size) := Lu_15
      have Dp_r : Hid (_ ≤ w16.heap.size) := Lp_15
      have Di_r : Hid (_ ≤ w16.heap.size) := Li_12
      have Dj_r : Hid (_ ≤ w16.heap.size) := Lj_11
      have Dv_r : Hid (_ ≤ w16.heap.size) := Lv_3
      have De_r : Hid (_ ≤ w16.heap.size) := Le_1
      have Dt_r : Hid (_ ≤ w16.heap.size) := Lt_0
      clear Ou_15 Lu_15 Op_15 Lp_15 Oi_12 Li_12 Oj_11 Lj_11 Ov_3 Lv_3 Oe_1 Le_1 Ot_0 Lt_0 HB16 hb hsz ho
      have er : nr ≤ 1099511627776 := by have h := Nr.out; rw [← h]; exact Nat.le_trans (trimPerm_small us) (by decide)
      go_wp2_with fail
      refine (ints_any _ _ _ _ _ _ (trimPerm us) (trimPerm us) _ Ot_1.out.si Or_0.out.si et er).mono ?_
      rintro e w18 ⟨rfl, hd⟩
      rw [eqL_self]
      have hb : Below w17.heap.size w17 w18 := hd.below _
      have hsz := hb.size
      have HB18 := Lib.hid (HB17.out.trans (hb.mono HB17.out.size))
      have Ou_17 := Lib.hid (Ou_16.out.below hb Lu_16.out)
      have Lu_17 := Lib.hid (Nat.le_trans Lu_16.out hsz)
      have Op_17 := Lib.hid (Op_16.out.below hb Lp_16.out)
      have Lp_17 := Lib.hid (Nat.le_trans Lp_16.out hsz)
      have Oi_14 := Lib.hid (Oi_13.out.below hb Li_13.out)
      have Li_14 := Lib.hid (Nat.le_trans Li_13.out hsz)
      have Oj_13 := Lib.hid (Oj_12.out.below hb Lj_12.out)
      have Lj_13 := Lib.hid (Nat.le_trans Lj_12.out hsz)
      have Ov_5 := Lib.hid (Ov_4.out.below hb Lv_4.out)
      have Lv_5 := Lib.hid (Nat.le_trans Lv_4.out hsz)
      have Oe_3 := Lib.hid (Oe_2.out.below hb Le_2.out)
      have Le_3 := Lib.hid (Nat.le_trans Le_2.out hsz)
      have Ot_2 := Lib.hid (Ot_1.out.below hb Lt_1.out)
      have Lt_2 := Lib.hid (Nat.le_trans Lt_1.out hsz)
      have Or_1 := Lib.hid (Or_0.out.below hb Lr_0.out)
      have Lr_1 := Lib.hid (Nat.le_trans Lr_0.out hsz)
      clear Ou_16 Lu_16 Op_16 Lp_16 Oi_13 Li_13 Oj_12 Lj_12 Ov_4 Lv_4 Oe_2 Le_2 Ot_1 Lt_1 Or_0 Lr_0 HB17 hb hsz hd
      go_wp2
      go_ret
      exact ⟨rfl, HB18.out⟩
    | true =>
      have HV := Lib.hid hv
      clear hv
      have HH : Hid (hasPB us [1, 0, 3, 2] = false) := Lib.hid (by have h := HV.out; rw [vexB_yes HU.out rfl] at h; simpa using h)
      go_wp2_with fail
      obtain ⟨w9, hwx⟩ : ∃ z, z = w8.alloc (.cells #[.int .i64 1, .int .i64 0, .int .i64 3, .int .i64 2] 3) := ⟨_, rfl⟩
      obtain ⟨gl, hgl⟩ : ∃ z, z = w8.heap.size := ⟨_, rfl⟩
      have HSL : Hid (SI w9 (some ⟨gl, 0, none⟩) 4 [1, 0, 3, 2]) := Lib.hid (by rw [hwx, hgl]; exact SI_lit4 _)
      have hb : Below w8.heap.size w8 w9 := by rw [hwx]; exact Below.alloc_self _ _
      rw [← hwx, ← hgl]
      clear hwx hgl
      have hsz := hb.size
      have HB9 := Lib.hid (HB8.out.trans (hb.mono HB8.out.size))
      have Ou_8 := Lib.hid (Ou_7.out.below hb Lu_7.out)
      have Lu_8 := Lib.hid (Nat.le_trans Lu_7.out hsz)
      have Op_8 := Lib.hid (Op_7.out.below hb Lp_7.out)
      have Lp_8 := Lib.hid (Nat.le_trans Lp_7.out hsz)
      have Oi_5 := Lib.hid (Oi_4.out.below hb Li_4.out)
      have Li_5 := Lib.hid (Nat.le_trans Li_4.out hsz)
      have Oj_4 := Lib.hid (Oj_3.out.below hb Lj_3.out)
      have Lj_4 := Lib.hid (Nat.le_trans Lj_3.out hsz)
      clear Ou_7 Lu_7 Op_7 Lp_7 Oi_4 Li_4 Oj_3 Lj_3 HB8 hb hsz
      go_wp2_with fail
      refine (implHasPattern_any _ _ _ _ _ _ us [1, 0, 3, 2] _ Ou_8.out.si HSL.out (by omega) (by omega)).mono ?_
      rintro e w10 ⟨rfl, hb⟩
      rw [HH.out]
      have hsz := hb.size
      have HB10 := Lib.hid (HB9.out.trans (hb.mono HB9.out.size))
      have Ou_9 := Lib.hid (Ou_8.out.below hb Lu_8.out)
      have Lu_9 := Lib.hid (Nat.le_trans Lu_8.out hsz)
      have Op_9 := Lib.hid (Op_8.out.below hb Lp_8.out)
      have Lp_9 := Lib.hid (Nat.le_trans Lp_8.out hsz)
      have Oi_6 := Lib.hid (Oi_5.out.below hb Li_5.out)
      have Li_6 := Lib.hid (Nat.le_trans Li_5.out hsz)
      have Oj_5 := Lib.hid (Oj_4.out.below hb Lj_4.out)
      have Lj_5 := Lib.hid (Nat.le_trans Lj_4.out hsz)
      clear Ou_8 Lu_8 Op_8 Lp_8 Oi_5 Li_5 Oj_4 Lj_4 HB9 hb hsz
      go_wp2_with fail
      refine (implIsGra_any _ _ _ us _ Ou_9.out.si (by omega)).mono ?_
      rintro e w11 ⟨rfl, hb⟩
      have hsz := hb.size
      have HB11 := Lib.hid (HB10.out.trans (hb.mono HB10.out.size))
      have Ou_10 := Lib.hid (Ou_9.out.below hb Lu_9.out)
      have Lu_10 := Lib.hid (Nat.le_trans Lu_9.out hsz)
      have Op_10 := Lib.hid (Op_9.out.below hb Lp_9.out)
      have Lp_10 := Lib.hid (Nat.le_trans Lp_9.out hsz)
      have Oi_7 := Lib.hid (Oi_6.out.below hb Li_6.out)
      have Li_7 := Lib.hid (Nat.le_trans Li_6.out hsz)
      have Oj_6 := Lib.hid (Oj_5.out.below hb Lj_5.out)
      have Lj_6 := Lib.hid (Nat.le_trans Lj_5.out hsz)
      clear Ou_9 Lu_9 Op_9 Lp_9 Oi_6 Li_6 Oj_5 Lj_5 HB10 hb hsz
      cases hg : grassB us with
      | false =>
        clear hg
        go_wp2_with fail
        refine (implFormat_any _ _ _ us _ Ou_10.out.si (by omega)).mono ?_
        rintro e w12 ⟨rfl, hb⟩
        have hsz := hb.size
        have HB12 := Lib.hid (HB11.out.trans (hb.mono HB11.out.size))
        have Ou_11 := Lib.hid (Ou_10.out.below hb Lu_10.out)
        have Lu_11 := Lib.hid (Nat.le_trans Lu_10.out hsz)
        have Op_11 := Lib.hid (Op_10.out.below hb Lp_10.out)
        have Lp_11 := Lib.hid (Nat.le_trans Lp_10.out hsz)
        have Oi_8 := Lib.hid (Oi_7.out.below hb Li_7.out)
        have Li_8 := Lib.hid (Nat.le_trans Li_7.out hsz)
        have Oj_7 := Lib.hid (Oj_6.out.below hb Lj_6.out)
        have Lj_7 := Lib.hid (Nat.le_trans Lj_6.out hsz)
        clear Ou_10 Lu_10 Op_10 Lp_10 Oi_7 Li_7 Oj_6 Lj_6 HB11 hb hsz
        have HRB := Lib.hid (read_back HP.out)
        go_wp2_with fail
        refine (implParse_any (fmtB us) _ size_small).mono ?_
        rintro e w13 ⟨Av, nv, cv, rfl, ho, hb⟩
        rw [HRB.out.2] at ho
        rw [HRB.out.1]
        have hsz := hb.size
        have HB13 := Lib.hid (HB12.out.trans (hb.mono HB12.out.size))
        have Ou_12 := Lib.hid (Ou_11.out.below hb Lu_11.out)
        have Lu_12 := Lib.hid (Nat.le_trans Lu_11.out hsz)
        have Op_12 := Lib.hid (Op_11.out.below hb Lp_11.out)
        have Lp_12 := Lib.hid (Nat.le_trans Lp_11.out hsz)
        have Oi_9 := Lib.hid (Oi_8.out.below hb Li_8.out)
        have Li_9 := Lib.hid (Nat.le_trans Li_8.out hsz)
        have Oj_8 := Lib.hid (Oj_7.out.below hb Lj_7.out)
        have Lj_8 := Lib.hid (Nat.le_trans Lj_7.out hsz)
        have Ov_0 := Lib.hid ho
        have Lv_0 := Lib.hid (Nat.le_refl w13.heap.size)
        have Nv := Lib.hid ho.len
        have Gv := Lib.hid HB12.out.size
        have Du_v : Hid (_ ≤ w12.heap.size) := Lu_11
        have Dp_v : Hid (_ ≤ w12.heap.size) := Lp_11
        have Di_v : Hid (_ ≤ w12.heap.size) := Li_8
        have Dj_v : Hid (_ ≤ w12.heap.size) := Lj_7
        clear Ou_11 Lu_11 Op_11 Lp_11 Oi_8 Li_8 Oj_7 Lj_7 HB12 hb hsz ho
        have ev : nv ≤ 7 := by have := Nv.out; have := HLU.out; omega
        go_wp2_with fail
        refine (ints_any _ _ _ _ _ _ us us _ Ov_0.out.si Ou_12.out.si (by omega) (by omega)).mono ?_
        rintro e w14 ⟨rfl, hd⟩
        rw [eqL_self]
        have hb : Below w13.heap.size w13 w14 := hd.below _
        have hsz := hb.size
        have HB14 := Lib.hid (HB13.out.trans (hb.mono HB13.out.size))
        have Ou_13 := Lib.hid (Ou_12.out.below hb Lu_12.out)
        have Lu_13 := Lib.hid (Nat.le_trans Lu_12.out hsz)
        have Op_13 := Lib.hid (Op_12.out.below hb Lp_12.out)
        have Lp_13 := Lib.hid (Nat.le_trans Lp_12.out hsz)
        have Oi_10 := Lib.hid (Oi_9.out.below hb Li_9.out)
        have Li_10 := Lib.hid (Nat.le_trans Li_9.out hsz)
        have Oj_9 := Lib.hid (Oj_8.out.below hb Lj_8.out)
        have Lj_9 := Lib.hid (Nat.le_trans Lj_8.out hsz)
        have Ov_1 := Lib.hid (Ov_0.out.below hb Lv_0.out)
        have Lv_1 := Lib.hid (Nat.le_trans Lv_0.out hsz)
        clear Ou_12 Lu_12 Op_12 Lp_12 Oi_9 Li_9 Oj_8 Lj_8 Ov_0 Lv_0 HB13 hb hsz hd
        go_wp2_with fail
        refine (implEmbed_any _ _ _ us 7 _ Ou_13.out.si (by omega)).mono ?_
        rintro e w15 ⟨Ae, ne, ce, rfl, ho, hb⟩
        have hsz := hb.size
        have HB15 := Lib.hid (HB14.out.trans (hb.mono HB14.out.size))
        have Ou_14 := Lib.hid (Ou_13.out.below hb Lu_13.out)
        have Lu_14 := Lib.hid (Nat.le_trans Lu_13.out hsz)
        have Op_14 := Lib.hid (Op_13.out.below hb Lp_13.out)
        have Lp_14 := Lib.hid (Nat.le_trans Lp_13.out hsz)
        have Oi_11 := Lib.hid (Oi_10.out.below hb Li_10.out)
        have Li_11 := Lib.hid (Nat.le_trans Li_10.out hsz)
        have Oj_10 := Lib.hid (Oj_9.out.below hb Lj_9.out)
        have Lj_10 := Lib.hid (Nat.le_trans Lj_9.out hsz)
        have Ov_2 := Lib.hid (Ov_1.out.below hb Lv_1.out)
        have Lv_2 := Lib.hid (Nat.le_trans Lv_1.out hsz)
        have Oe_0 := Lib.hid ho
        have Le_0 := Lib.hid (Nat.le_refl w15.heap.size)
        have Ne := Lib.hid ho.len
        have Ge := Lib.hid HB14.out.size
        have Du_e : Hid (_ ≤ w14.heap.size) := Lu_13
        have Dp_e : Hid (_ ≤ w14.heap.size) := Lp_13
        have Di_e : Hid (_ ≤ w14.heap.size) := Li_10
        have Dj_e : Hid (_ ≤ w14.heap.size) := Lj_9
        have Dv_e : Hid (_ ≤ w14.heap.size) := Lv_1
        clear Ou_13 Lu_13 Op_13 Lp_13 Oi_10 Li_10 Oj_9 Lj_9 Ov_1 Lv_1 HB14 hb hsz ho
        have ee : ne ≤ 7 := by have := Ne.out; rw [emb7 HP.out, fillA_len] at this; omega
        go_wp2_with fail
        refine (implTrim_any _ _ _ (embPerm us 7) _ Oe_0.out.si (by omega)).mono ?_
        rintro e w16 ⟨At, nt, ct, rfl, ho, hb⟩
        rw [trim_emb HP.out] at ho
        have hsz := hb.size
        have HB16 := Lib.hid (HB15.out.trans (hb.mono HB15.out.size))
        have Ou_15 := Lib.hid (Ou_14.out.below hb Lu_14.out)
        have Lu_15 := Lib.hid (Nat.le_trans Lu_14.out hsz)
        have Op_15 := Lib.hid (Op_14.out.below hb Lp_14.out)
        have Lp_15 := Lib.hid (Nat.le_trans Lp_14.out hsz)
        have Oi_12 := Lib.hid (Oi_11.out.below hb Li_11.out)
        have Li_12 := Lib.hid (Nat.le_trans Li_11.out hsz)
        have Oj_11 := Lib.hid (Oj_10.out.below hb Lj_10.out)
        have Lj_11 := Lib.hid (Nat.le_trans Lj_10.out hsz)
        have Ov_3 := Lib.hid (Ov_2.out.below hb Lv_2.out)
        have Lv_3 := Lib.hid (Nat.le_trans Lv_2.out hsz)
        have Oe_1 := Lib.hid (Oe_0.out.below hb Le_0.out)
        have Le_1 := Lib.hid (Nat.le_trans Le_0.out hsz)
        have Ot_0 := Lib.hid ho
        have Lt_0 := Lib.hid (Nat.le_refl w16.heap.size)
        have Nt := Lib.hid ho.len
        have Gt := Lib.hid HB15.out.size
        have Du_t : Hid (_ ≤ w15.heap.size) := Lu_14
        have Dp_t : Hid (_ ≤ w15.heap.size) := Lp_14
        have Di_t : Hid (_ ≤ w15.heap.size) := Li_11
        have Dj_t : Hid (_ ≤ w15.heap.size) := Lj_10
        have Dv_t : Hid (_ ≤ w15.heap.size) := Lv_2
        have De_t : Hid (_ ≤ w15.heap.size) := Le_0
        clear Ou_14 Lu_14 Op_14 Lp_14 Oi_11 Li_11 Oj_10 Lj_10 Ov_2 Lv_2 Oe_0 Le_0 HB15 hb hsz ho
        have et : nt ≤ 1099511627776 := by have h := Nt.out; rw [← h]; exact Nat.le_trans (trimPerm_small us) (by decide)
        go_wp2_with fail
        refine (implTrim_any _ _ _ us _ Ou_15.out.si (by omega)).mono ?_
        rintro e w17 ⟨Ar, nr, cr, rfl, ho, hb⟩
        have hsz := hb.size
        have HB17 := Lib.hid (HB16.out.trans (hb.mono HB16.out.size))
        have Ou_16 := Lib.hid (Ou_15.out.below hb Lu_15.out)
        have Lu_16 := Lib.hid (Nat.le_trans Lu_15.out hsz)
        have Op_16 := Lib.hid (Op_15.out.below hb Lp_15.out)
        have Lp_16 := Lib.hid (Nat.le_trans Lp_15.out hsz)
        have Oi_13 := Lib.hid (Oi_12.out.below hb Li_12.out)
        have Li_13 := Lib.hid (Nat.le_trans Li_12.out hsz)
        have Oj_12 := Lib.hid (Oj_11.out.below hb Lj_11.out)
        have Lj_12 := Lib.hid (Nat.le_trans Lj_11.out hsz)
        have Ov_4 := Lib.hid (Ov_3.out.below hb Lv_3.out)
        have Lv_4 := Lib.hid (Nat.le_trans Lv_3.out hsz)
        have Oe_2 := Lib.hid (Oe_1.out.below hb Le_1.out)
        have Le_2 := Lib.hid (Nat.le_trans Le_1.out hsz)
        have Ot_1 := Lib.hid (Ot_0.out.below hb Lt_0.out)
        have Lt_1 := Lib.hid (Nat.le_trans Lt_0.out hsz)
        have Or_0 := Lib.hid ho
        have Lr_0 := Lib.hid (Nat.le_refl w17.heap.size)
        have Nr := Lib.hid ho.len
        have Gr := Lib.hid HB16.out.size
        have Du_r : Hid (_ ≤ w16.heap.size) := Lu_15
        have Dp_r : Hid (_ ≤ w16.heap.size) := Lp_15
        have Di_r : Hid (_ ≤ w16.heap.size) := Li_12
        have Dj_r : Hid (_ ≤ w16.heap.size) := Lj_11
        have Dv_r : Hid (_ ≤ w16.heap.size) := Lv_3
        have De_r : Hid (_ ≤ w16.heap.size) := Le_1
        have Dt_r : Hid (_ ≤ w16.heap.size) := Lt_0
        clear Ou_15 Lu_15 Op_15 Lp_15 Oi_12 Li_12 Oj_11 Lj_11 Ov_3 Lv_3 Oe_1 Le_1 Ot_0 Lt_0 HB16 hb hsz ho
        have er : nr ≤ 1099511627776 := by have h := Nr.out; rw [← h]; exact Nat.le_trans (trimPerm_small us) (by decide)
        go_wp2_with fail
        refine (ints_any _ _ _ _ _ _ (trimPerm us) (trimPerm us) _ Ot_1.out.si Or_0.out.si et er).mono ?_
        rintro e w18 ⟨rfl, hd⟩
        rw [eqL_self]
        have hb : Below w17.heap.size w17 w18 := hd.below _
        have hsz := hb.size
        have HB18 := Lib.hid (HB17.out.trans (hb.mono HB17.out.size))
        have Ou_17 := Lib.hid (Ou_16.out.below hb Lu_16.out)
        have Lu_17 := Lib.hid (Nat.le_trans Lu_16.out hsz)
        have Op_17 := Lib.hid (Op_16.out.below hb Lp_16.out)
        have Lp_17 := Lib.hid (Nat.le_trans Lp_16.out hsz)
        have Oi_14 := Lib.hid (Oi_13.out.below hb Li_13.out)
        have Li_14 := Lib.hid (Nat.le_trans Li_13.out hsz)
        have Oj_13 := Lib.hid (Oj_12.out.below hb Lj_12.out)
        have Lj_13 := Lib.hid (Nat.le_trans Lj_12.out hsz)
        have Ov_5 := Lib.hid (Ov_4.out.below hb Lv_4.out)
        have Lv_5 := Lib.hid (Nat.le_trans Lv_4.out hsz)
        have Oe_3 := Lib.hid (Oe_2.out.below hb Le_2.out)
        have Le_3 := Lib.hid (Nat.le_trans Le_2.out hsz)
        have Ot_2 := Lib.hid (Ot_1.out.below hb Lt_1.out)
        have Lt_2 := Lib.hid (Nat.le_trans Lt_1.out hsz)
        have Or_1 := Lib.hid (Or_0.out.below hb Lr_0.out)
        have Lr_1 := Lib.hid (Nat.le_trans Lr_0.out hsz)
        clear Ou_16 Lu_16 Op_16 Lp_16 Oi_13 Li_13 Oj_12 Lj_12 Ov_4 Lv_4 Oe_2 Le_2 Ot_1 Lt_1 Or_0 Lr_0 HB17 hb hsz hd
        go_wp2
        go_ret
        exact ⟨rfl, HB18.out⟩
      | true =>
        clear hg
        go_wp2_with fail
        refine (implVex_any _ _ _ us _ Ou_10.out.si (by omega)).mono ?_
        rintro e w12 ⟨rfl, hb⟩
        rw [HV.out]
        have hsz := hb.size
        have HB12 := Lib.hid (HB11.out.trans (hb.mono HB11.out.size))
        have Ou_11 := Lib.hid (Ou_10.out.below hb Lu_10.out)
        have Lu_11 := Lib.hid (Nat.le_trans Lu_10.out hsz)
        have Op_11 := Lib.hid (Op_10.out.below hb Lp_10.out)
        have Lp_11 := Lib.hid (Nat.le_trans Lp_10.out hsz)
        have Oi_8 := Lib.hid (Oi_7.out.below hb Li_7.out)
        have Li_8 := Lib.hid (Nat.le_trans Li_7.out hsz)
        have Oj_7 := Lib.hid (Oj_6.out.below hb Lj_6.out)
        have Lj_7 := Lib.hid (Nat.le_trans Lj_6.out hsz)
        clear Ou_10 Lu_10 Op_10 Lp_10 Oi_7 Li_7 Oj_6 Lj_6 HB11 hb hsz
        go_wp2_with fail
        refine (implFormat_any _ _ _ us _ Ou_11.out.si (by omega)).mono ?_
        rintro e w13 ⟨rfl, hb⟩
        have hsz := hb.size
        have HB13 := Lib.hid (HB12.out.trans (hb.mono HB12.out.size))
        have Ou_12 := Lib.hid (Ou_11.out.below hb Lu_11.out)
        have Lu_12 := Lib.hid (Nat.le_trans Lu_11.out hsz)
        have Op_12 := Lib.hid (Op_11.out.below hb Lp_11.out)
        have Lp_12 := Lib.hid (Nat.le_trans Lp_11.out hsz)
        have Oi_9 := Lib.hid (Oi_8.out.below hb Li_8.out)
        have Li_9 := Lib.hid (Nat.le_trans Li_8.out hsz)
        have Oj_8 := Lib.hid (Oj_7.out.below hb Lj_7.out)
        have Lj_8 := Lib.hid (Nat.le_trans Lj_7.out hsz)
        clear Ou_11 Lu_11 Op_11 Lp_11 Oi_8 Li_8 Oj_7 Lj_7 HB12 hb hsz
        have HRB := Lib.hid (read_back HP.out)
        go_wp2_with fail
        refine (implParse_any (fmtB us) _ size_small).mono ?_
        rintro e w14 ⟨Av, nv, cv, rfl, ho, hb⟩
        rw [HRB.out.2] at ho
        rw [HRB.out.1]
        have hsz := hb.size
        have HB14 := Lib.hid (HB13.out.trans (hb.mono HB13.out.size))
        have Ou_13 := Lib.hid (Ou_12.out.below hb Lu_12.out)
        have Lu_13 := Lib.hid (Nat.le_trans Lu_12.out hsz)
        have Op_13 := Lib.hid (Op_12.out.below hb Lp_12.out)
        have Lp_13 := Lib.hid (Nat.le_trans Lp_12.out hsz)
        have Oi_10 := Lib.hid (Oi_9.out.below hb Li_9.out)
        have Li_10 := Lib.hid (Nat.le_trans Li_9.out hsz)
        have Oj_9 := Lib.hid (Oj_8.out.below hb Lj_8.out)
        have Lj_9 := Lib.hid (Nat.le_trans Lj_8.out hsz)
        have Ov_0 := Lib.hid ho
        have Lv_0 := Lib.hid (Nat.le_refl w14.heap.size)
        have Nv := Lib.hid ho.len
        have Gv := Lib.hid HB13.out.size
        have Du_v : Hid (_ ≤ w13.heap.size) := Lu_12
        have Dp_v : Hid (_ ≤ w13.heap.size) := Lp_12
        have Di_v : Hid (_ ≤ w13.heap.size) := Li_9
        have Dj_v : Hid (_ ≤ w13.heap.size) := Lj_8
        clear Ou_12 Lu_12 Op_12 Lp_12 Oi_9 Li_9 Oj_8 Lj_8 HB13 hb hsz ho
        have ev : nv ≤ 7 := by have := Nv.out; have := HLU.out; omega
        go_wp2_with fail
        refine (ints_any _ _ _ _ _ _ us us _ Ov_0.out.si Ou_13.out.si (by omega) (by omega)).mono ?_
        rintro e w15 ⟨rfl, hd⟩
        rw [eqL_self]
        have hb : Below w14.heap.size w14 w15 := hd.below _
        have hsz := hb.size
        have HB15 := Lib.hid (HB14.out.trans (hb.mono HB14.out.size))
        have Ou_14 := Lib.hid (Ou_13.out.below hb Lu_13.out)
        have Lu_14 := Lib.hid (Nat.le_trans Lu_13.out hsz)
        have Op_14 := Lib.hid (Op_13.out.below hb Lp_13.out)
        have Lp_14 := Lib.hid (Nat.le_trans Lp_13.out hsz)
        have Oi_11 := Lib.hid (Oi_10.out.below hb Li_10.out)
        have Li_11 := Lib.hid (Nat.le_trans Li_10.out hsz)
        have Oj_10 := Lib.hid (Oj_9.out.below hb Lj_9.out)
        have Lj_10 := Lib.hid (Nat.le_trans Lj_9.out hsz)
        have Ov_1 := Lib.hid (Ov_0.out.below hb Lv_0.out)
        have Lv_1 := Lib.hid (Nat.le_trans Lv_0.out hsz)
        clear Ou_13 Lu_13 Op_13 Lp_13 Oi_10 Li_10 Oj_9 Lj_9 Ov_0 Lv_0 HB14 hb hsz hd
        go_wp2_with fail
        refine (implEmbed_any _ _ _ us 7 _ Ou_14.out.si (by omega)).mono ?_
        rintro e w16 ⟨Ae, ne, ce, rfl, ho, hb⟩
        have hsz := hb.size
        have HB16 := Lib.hid (HB15.out.trans (hb.mono HB15.out.size))
        have Ou_15 := Lib.hid (Ou_14.out.below hb Lu_14.out)
        have Lu_15 := Lib.hid (Nat.le_trans Lu_14.out hsz)
        have Op_15 := Lib.hid (Op_14.out.below hb Lp_14.out)
        have Lp_15 := Lib.hid (Nat.le_trans Lp_14.out hsz)
        have Oi_12 := Lib.hid (Oi_11.out.below hb Li_11.out)
        have Li_12 := Lib.hid (Nat.le_trans Li_11.out hsz)
        have Oj_11 := Lib.hid (Oj_10.out.below hb Lj_10.out)
        have Lj_11 := Lib.hid (Nat.le_trans Lj_10.out hsz)
        have Ov_2 := Lib.hid (Ov_1.out.below hb Lv_1.out)
        have Lv_2 := Lib.hid (Nat.le_trans Lv_1.out hsz)
        have Oe_0 := Lib.hid ho
        have Le_0 := Lib.hid (Nat.le_refl w16.heap.size)
        have Ne := Lib.hid ho.len
        have Ge := Lib.hid HB15.out.size
        have Du_e : Hid (_ ≤ w15.heap.size) := Lu_14
        have Dp_e : Hid (_ ≤ w15.heap.size) := Lp_14
        have Di_e : Hid (_ ≤ w15.heap.size) := Li_11
        have Dj_e : Hid (_ ≤ w15.heap.size) := Lj_10
        have Dv_e : Hid (_ ≤ w15.heap.size) := Lv_1
        clear Ou_14 Lu_14 Op_14 Lp_14 Oi_11 Li_11 Oj_10 Lj_10 Ov_1 Lv_1 HB15 hb hsz ho
        have ee : ne ≤ 7 := by have := Ne.out; rw [emb7 HP.out, fillA_len] at this; omega
        go_wp2_with fail
        refine (implTrim_any _ _ _ (embPerm us 7) _ Oe_0.out.si (by omega)).mono ?_
        rintro e w17 ⟨At, nt, ct, rfl, ho, hb⟩
        rw [trim_emb HP.out] at ho
        have hsz := hb.size
        have HB17 := Lib.hid (HB16.out.trans (hb.mono HB16.out.size))
        have Ou_16 := Lib.hid (Ou_15.out.below hb Lu_15.out)
        have Lu_16 := Lib.hid (Nat.le_trans Lu_15.out hsz)
        have Op_16 := Lib.hid (Op_15.out.below hb Lp_15.out)
        have Lp_16 := Lib.hid (Nat.le_trans Lp_15.out hsz)
        have Oi_13 := Lib.hid (Oi_12.out.below hb Li_12.out)
        have Li_13 := Lib.hid (Nat.le_trans Li_12.out hsz)
        have Oj_12 := Lib.hid (Oj_11.out.below hb Lj_11.out)
        have Lj_12 := Lib.hid (Nat.le_trans Lj_11.out hsz)
        have Ov_3 := Lib.hid (Ov_2.out.below hb Lv_2.out)
        have Lv_3 := Lib.hid (Nat.le_trans Lv_2.out hsz)
        have Oe_1 := Lib.hid (Oe_0.out.below hb Le_0.out)
        have Le_1 := Lib.hid (Nat.le_trans Le_0.out hsz)
        have Ot_0 := Lib.hid ho
        have Lt_0 := Lib.hid (Nat.le_refl w17.heap.size)
        have Nt := Lib.hid ho.len
        have Gt := Lib.hid HB16.out.size
        have Du_t : Hid (_ ≤ w16.heap.size) := Lu_15
        have Dp_t : Hid (_ ≤ w16.heap.size) := Lp_15
        have Di_t : Hid (_ ≤ w16.heap.size) := Li_12
        have Dj_t : Hid (_ ≤ w16.heap.size) := Lj_11
        have Dv_t : Hid (_ ≤ w16.heap.size) := Lv_2
        have De_t : Hid (_ ≤ w16.heap.size) := Le_0
        clear Ou_15 Lu_15 Op_15 Lp_15 Oi_12 Li_12 Oj_11 Lj_11 Ov_2 Lv_2 Oe_0 Le_0 HB16 hb hsz ho
        have et : nt ≤ 1099511627776 := by have h := Nt.out; rw [← h]; exact Nat.le_trans (trimPerm_small us) (by decide)
        go_wp2_with fail
        refine (implTrim_any _ _ _ us _ Ou_16.out.si (by omega)).mono ?_
        rintro e w18 ⟨Ar, nr, cr, rfl, ho, hb⟩
        have hsz := hb.size
        have HB18 := Lib.hid (HB17.out.trans (hb.mono HB17.out.size))
        have Ou_17 := Lib.hid (Ou_16.out.below hb Lu_16.out)
        have Lu_17 := Lib.hid (Nat.le_trans Lu_16.out hsz)
        have Op_17 := Lib.hid (Op_16.out.below hb Lp_16.out)
        have Lp_17 := Lib.hid (Nat.le_trans Lp_16.out hsz)
        have Oi_14 := Lib.hid (Oi_13.out.below hb Li_13.out)
        have Li_14 := Lib.hid (Nat.le_trans Li_13.out hsz)
        have Oj_13 := Lib.hid (Oj_12.out.below hb Lj_12.out)
        have Lj_13 := Lib.hid (Nat.le_trans Lj_12.out hsz)
        have Ov_4 := Lib.hid (Ov_3.out.below hb Lv_3.out)
        have Lv_4 := Lib.hid (Nat.le_trans Lv_3.out hsz)
        have Oe_2 := Lib.hid (Oe_1.out.below hb Le_1.out)
        have Le_2 := Lib.hid (Nat.le_trans Le_1.out hsz)
        have Ot_1 := Lib.hid (Ot_0.out.below hb Lt_0.out)
        have Lt_1 := Lib.hid (Nat.le_trans Lt_0.out hsz)
        have Or_0 := Lib.hid ho
        have Lr_0 := Lib.hid (Nat.le_refl w18.heap.size)
        have Nr := Lib.hid ho.len
        have Gr := Lib.hid HB17.out.size
        have Du_r : Hid (_ ≤ w17.heap.size) := Lu_16
        have Dp_r : Hid (_ ≤ w17.heap.size) := Lp_16
        have Di_r : Hid (_ ≤ w17.heap.size) := Li_13
        have Dj_r : Hid (_ ≤ w17.heap.size) := Lj_12
        have Dv_r : Hid (_ ≤ w17.heap.size) := Lv_3
        have De_r : Hid (_ ≤ w17.heap.size) := Le_1
        have Dt_r : Hid (_ ≤ w17.heap.size) := Lt_0
        clear Ou_16 Lu_16 Op_16 Lp_16 Oi_13 Li_13 Oj_12 Lj_12 Ov_3 Lv_3 Oe_1 Le_1 Ot_0 Lt_0 HB17 hb hsz ho
        have er : nr ≤ 1099511627776 := by have h := Nr.out; rw [← h]; exact Nat.le_trans (trimPerm_small us) (by decide)
        go_wp2_with fail
        refine (ints_any _ _ _ _ _ _ (trimPerm us) (trimPerm us) _ Ot_1.out.si Or_0.out.si et er).mono ?_
        rintro e w19 ⟨rfl, hd⟩
        rw [eqL_self]
        have hb : Below w18.heap.size w18 w19 := hd.below _
        have hsz := hb.size
        have HB19 := Lib.hid (HB18.out.trans (hb.mono HB18.out.size))
        have Ou_18 := Lib.hid (Ou_17.out.below hb Lu_17.out)
        have Lu_18 := Lib.hid (Nat.le_trans Lu_17.out hsz)
        have Op_18 := Lib.hid (Op_17.out.below hb Lp_17.out)
        have Lp_18 := Lib.hid (Nat.le_trans Lp_17.out hsz)
        have Oi_15 := Lib.hid (Oi_14.out.below hb Li_14.out)
        have Li_15 := Lib.hid (Nat.le_trans Li_14.out hsz)
        have Oj_14 := Lib.hid (Oj_13.out.below hb Lj_13.out)
        have Lj_14 := Lib.hid (Nat.le_trans Lj_13.out hsz)
        have Ov_5 := Lib.hid (Ov_4.out.below hb Lv_4.out)
        have Lv_5 := Lib.hid (Nat.le_trans Lv_4.out hsz)
        have Oe_3 := Lib.hid (Oe_2.out.below hb Le_2.out)
        have Le_3 := Lib.hid (Nat.le_trans Le_2.out hsz)
        have Ot_2 := Lib.hid (Ot_1.out.below hb Lt_1.out)
        have Lt_2 := Lib.hid (Nat.le_trans Lt_1.out hsz)
        have Or_1 := Lib.hid (Or_0.out.below hb Lr_0.out)
        have Lr_1 := Lib.hid (Nat.le_trans Lr_0.out hsz)
        clear Ou_17 Lu_17 Op_17 Lp_17 Oi_14 Li_14 Oj_13 Lj_13 Ov_4 Lv_4 Oe_2 Le_2 Ot_1 Lt_1 Or_0 Lr_0 HB18 hb hsz hd
        go_wp2
        go_ret
        exact ⟨rfl, HB19.out⟩

set_option maxRecDepth 100000 in
theorem lifted_FnPatterns (os : Os) (started : os.Started) (H : Type) (enc : TypeId × Value → H) :
    ReturnsInHanded {} Try.checked os 3 .any (Rows.fnPatternsSpec.pre6 enc Try.prog Try.f3 Rows.fnPatternsRow.domain false) (Rows.fnPatternsSpec.post enc Try.prog Try.f3 false true false false) := by
  refine returnsInHanded_of_change (C := Try.checked) own started (by kernel_rfl) Try.func3
    (ChangeSpec.witness6 (enc := enc) (C := Try.checked) false ⟨#[], #[.slice none 0 0], []⟩ 8 (by kernel_rfl) (by kernel_rfl) (by kernel_rfl) (by kernel_rfl)) ?_
  intro W base args ds gs before hval0 hW hcnd _
  have hval : ∀ (j : Nat) t v, Try.f3.params[j]? = some t → args[j]? = some v → Value.okWide Try.prog W .any base t v := hval0
  have hW' := hW
  obtain ⟨p, q, hA0, hV, rfl, hfz, hnd⟩ := hW
  have hA : DataW.TrodAll enc Try.prog W 0 (fun _ => true) true Try.f3.params.toList args.toList ds p := hA0
  rw [Try.params3] at hA hval
  obtain ⟨v0, vs0, d0, ds0, p0, q0, hargs, rfl, rfl, h0, r0⟩ := trodAll_cons hA
  obtain ⟨rfl, rfl, rfl⟩ := trodAll_nil r0
  obtain rfl : args = #[v0] := by cases args; simp_all
  obtain ⟨rfl, rfl⟩ := trodVars_none hV
  obtain ⟨b0, len0, cap0, rfl⟩ := okWide_slice Try.underlying22 (hval 0 22 v0 rfl rfl)
  have k0 := h0
  have lt0 : ∀ x ∈ p0, x.block < W.heap.size := by obtain ⟨m, hm⟩ := k0; exact DataW.trod_lt m _ _ _ hm
  obtain ⟨bs, s0⟩ := SB.of_trod h0
  clear hA0 hval0
  refine (walk_FnPatterns b0 len0 cap0 bs W s0).mono fun e W' ⟨he, bel⟩ => ?_
  subst he
  exact ⟨_, rfl, _, _, _, [], _, [], hW', trodAll_mk1 (shut_bool Try.underlying4 _), (trodAll_cons_mk (Below.trod laidOut (by kernel_rfl) (of_decide_eq_true (by kernel_rfl)) k0 bel lt0) trodAll_mk0), rfl, bel.frame _, fun h => by cases h⟩

theorem fnPatterns_holds : Rows.FnPatternsSaid :=
  OpenClaim.holds_of_wide 3 Try.f3 rfl rfl rfl rfl rfl rfl rfl ⟨rfl, rfl, rfl, rfl, rfl⟩ rfl rfl rfl rfl rfl (by kernel_rfl) Try.func3 (by kernel_rfl)
    (of_decide_eq_true (by kernel_rfl)) (by unfold Func.isWrapper; first | (rw [if_pos (by decide +kernel)]; kernel_rfl) | (rw [if_neg (by decide +kernel)]; exact ⟨rfl, rfl⟩))
    (fun os started H enc _ => lifted_FnPatterns os started H enc)

end Go.Proofs.Ythmnaakaogpohaa
