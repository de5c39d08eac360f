/-
  FnBoxed: for every input the law returns true: a drawn shape in a box is a permutation with one descent, and a string, and is found again from both; turned twice it is as it was. No conditions.
-/
import Derived.Test.YtbjnjccolapehaaBoxD
import Derived.Test.YtbjnjccolapehaaLSum
import Derived.Test.YtbjnjccolapehaaInts
import Derived.Test.YtbjnjccolapehaaImplD
import Derived.Test.YtbjnjccolapehaaDeg
import Derived.Test.YtbjnjccolapehaaGrass
import Derived.Test.YtbjnjccolapehaaFrameB
namespace Go.Proofs.Ytbjnjccolapehaa
open Go.ChangeShapes Go.WideShapes Go.ChangeAt Go.RowKit

set_option maxRecDepth 100000 in
set_option maxHeartbeats 8000000 in
theorem walk_FnBoxed (A : Option Addr) (n c : Nat) (bs : List Int) (w : World) (hs : SB w w.heap.size A n bs) :
    Calls Try.prog 4 #[.slice A n c] w fun e w' => e = .returned (.bool true) ∧ Below w.heap.size w w' := by
  by_cases hbig : 1048576 < n
  · have hbI : decide (1048576 < (n : Int)) = true := by simp; omega
    go_enter Try.func4, Try.ntmps4
    go_wp2_with fail
    refine (big_any A n c w).mono ?_
    rintro e w1 ⟨rfl, rfl⟩
    rw [hbI]
    go_wp2
    go_ret
    exact ⟨rfl, Below.refl _ _⟩
  have hbI : decide (1048576 < (n : Int)) = false := by simp; omega
  have HbI := Lib.hid hbI
  clear hbI
  have HS0 := Lib.hid hs
  clear hs
  go_enter Try.func4, Try.ntmps4
  go_wp2_with fail
  refine (big_any A n c w).mono ?_
  rintro e w0 ⟨rfl, rfl⟩
  rw [HbI.out]
  go_wp2_with fail
  refine (drawBoxes_any A n c bs w HS0.out (by omega)).mono ?_
  rintro e w1 ⟨us, ys, zs, A1, A2, A3, n1, c1, n2, c2, n3, c3, k, m, rfl, hou, -, -, hpx, -, -, hm2, hm6, hb⟩
  have HB1 := Lib.hid hb
  have Ou_0 := Lib.hid hou
  have Lu_0 := Lib.hid (Nat.le_refl w1.heap.size)
  have hlu : us.length = n1 := hou.len
  have HF := Lib.hid (boxed_facts hpx hm2 hm6)
  have hn7 : n1 ≤ 7 := by have := hpx.2.2.2.2.2.1; have := hpx.2.2.2.1; omega
  have HSM : Hid (∀ k, k ≤ n1 → -1099511627776 ≤ sumN us k ∧ sumN us k ≤ 1099511627776) := Lib.hid (fun j hj => by have := sum_bnd hpx.2.2.2.2.1 j (by omega); omega)
  have HBX : Hid (boxB us (k : Int) (m : Int) = true) := Lib.hid (boxB_true hpx)
  have HLU := Lib.hid hlu
  clear hou hpx hb hlu
  go_wp2_with fail
  refine (implGrass_any _ _ _ us _ _ _ Ou_0.out.si (by omega)).mono ?_
  rintro e w2 ⟨Ap, np, cp, rfl, ho, hb⟩
  have hsz := hb.size
  have HB2 := Lib.hid (HB1.out.trans (hb.mono HB1.out.size))
  have Ou_1 := Lib.hid (Ou_0.out.below hb Lu_0.out)
  have Lu_1 := Lib.hid (Nat.le_trans Lu_0.out hsz)
  have Op_0 := Lib.hid ho
  have Lp_0 := Lib.hid (Nat.le_refl w2.heap.size)
  have Np := Lib.hid ho.len
  have Gp := Lib.hid HB1.out.size
  have Du_p : Hid (_ ≤ w1.heap.size) := Lu_0
  clear Ou_0 Lu_0 HB1 hb hsz ho
  have ep : np ≤ 14 := by have := Np.out; have := HF.out.short; omega
  go_wp2_with fail
  refine (implStrOf_any _ _ _ us _ _ _ Ou_1.out.si (by omega)).mono ?_
  rintro e w3 ⟨As, ns, cs, rfl, ho, hb⟩
  have hsz := hb.size
  have HB3 := Lib.hid (HB2.out.trans (hb.mono HB2.out.size))
  have Ou_2 := Lib.hid (Ou_1.out.below hb Lu_1.out)
  have Lu_2 := Lib.hid (Nat.le_trans Lu_1.out hsz)
  have Op_1 := Lib.hid (Op_0.out.below hb Lp_0.out)
  have Lp_1 := Lib.hid (Nat.le_trans Lp_0.out hsz)
  have Os_0 := Lib.hid ho
  have Ls_0 := Lib.hid (Nat.le_refl w3.heap.size)
  have Ns := Lib.hid ho.len
  have Gs := Lib.hid HB2.out.size
  have Du_s : Hid (_ ≤ w2.heap.size) := Lu_1
  have Dp_s : Hid (_ ≤ w2.heap.size) := Lp_0
  clear Ou_1 Lu_1 Op_0 Lp_0 HB2 hb hsz ho
  have es : ns ≤ 1099511627776 := by have h := Ns.out; rw [← h]; exact Nat.le_trans (strOf_small us _ _) (by decide)
  go_wp2_with fail
  refine (implSos_any _ _ _ (strOf us k m) _ Os_0.out.si es).mono ?_
  rintro e w4 ⟨Ax, nx, cx, rfl, ho, hb⟩
  rw [HF.out.shp] at ho
  rw [HF.out.ones, HF.out.str]
  have hsz := hb.size
  have HB4 := Lib.hid (HB3.out.trans (hb.mono HB3.out.size))
  have Ou_3 := Lib.hid (Ou_2.out.below hb Lu_2.out)
  have Lu_3 := Lib.hid (Nat.le_trans Lu_2.out hsz)
  have Op_2 := Lib.hid (Op_1.out.below hb Lp_1.out)
  have Lp_2 := Lib.hid (Nat.le_trans Lp_1.out hsz)
  have Os_1 := Lib.hid (Os_0.out.below hb Ls_0.out)
  have Ls_1 := Lib.hid (Nat.le_trans Ls_0.out hsz)
  have Ox_0 := Lib.hid ho
  have Lx_0 := Lib.hid (Nat.le_refl w4.heap.size)
  have Nx := Lib.hid ho.len
  have Gx := Lib.hid HB3.out.size
  have Du_x : Hid (_ ≤ w3.heap.size) := Lu_2
  have Dp_x : Hid (_ ≤ w3.heap.size) := Lp_1
  have Ds_x : Hid (_ ≤ w3.heap.size) := Ls_0
  clear Ou_2 Lu_2 Op_1 Lp_1 Os_0 Ls_0 HB3 hb hsz ho
  have ex : nx ≤ 7 := by have := Nx.out; have := HLU.out; omega
  go_wp2_with fail
  refine (implIsGra_any _ _ _ (graPerm us k m) _ Op_2.out.si (by omega)).mono ?_
  rintro e w5 ⟨rfl, hb⟩
  rw [HF.out.gra]
  have hsz := hb.size
  have HB5 := Lib.hid (HB4.out.trans (hb.mono HB4.out.size))
  have Ou_4 := Lib.hid (Ou_3.out.below hb Lu_3.out)
  have Lu_4 := Lib.hid (Nat.le_trans Lu_3.out hsz)
  have Op_3 := Lib.hid (Op_2.out.below hb Lp_2.out)
  have Lp_3 := Lib.hid (Nat.le_trans Lp_2.out hsz)
  have Os_2 := Lib.hid (Os_1.out.below hb Ls_1.out)
  have Ls_2 := Lib.hid (Nat.le_trans Ls_1.out hsz)
  have Ox_1 := Lib.hid (Ox_0.out.below hb Lx_0.out)
  have Lx_1 := Lib.hid (Nat.le_trans Lx_0.out hsz)
  clear Ou_3 Lu_3 Op_2 Lp_2 Os_1 Ls_1 Ox_0 Lx_0 HB4 hb hsz
  go_wp2_with fail
  refine (implLength_any _ _ _ (graPerm us k m) _ Op_3.out.si (by omega)).mono ?_
  rintro e w6 ⟨rfl, hb⟩
  rw [HF.out.len, HLU.out]
  have hsz := hb.size
  have HB6 := Lib.hid (HB5.out.trans (hb.mono HB5.out.size))
  have Ou_5 := Lib.hid (Ou_4.out.below hb Lu_4.out)
  have Lu_5 := Lib.hid (Nat.le_trans Lu_4.out hsz)
  have Op_4 := Lib.hid (Op_3.out.below hb Lp_3.out)
  have Lp_4 := Lib.hid (Nat.le_trans Lp_3.out hsz)
  have Os_3 := Lib.hid (Os_2.out.below hb Ls_2.out)
  have Ls_3 := Lib.hid (Nat.le_trans Ls_2.out hsz)
  have Ox_2 := Lib.hid (Ox_1.out.below hb Lx_1.out)
  have Lx_2 := Lib.hid (Nat.le_trans Lx_1.out hsz)
  clear Ou_4 Lu_4 Op_3 Lp_3 Os_2 Ls_2 Ox_1 Lx_1 HB5 hb hsz
  go_wp2_with fail
  refine (lsumB_any _ _ _ us _ Ou_5.out.si (by omega) HSM.out).mono ?_
  rintro e w7 ⟨rfl, hd⟩
  have hb : Below w6.heap.size w6 w7 := hd.below _
  have hsz := hb.size
  have HB7 := Lib.hid (HB6.out.trans (hb.mono HB6.out.size))
  have Ou_6 := Lib.hid (Ou_5.out.below hb Lu_5.out)
  have Lu_6 := Lib.hid (Nat.le_trans Lu_5.out hsz)
  have Op_5 := Lib.hid (Op_4.out.below hb Lp_4.out)
  have Lp_5 := Lib.hid (Nat.le_trans Lp_4.out hsz)
  have Os_4 := Lib.hid (Os_3.out.below hb Ls_3.out)
  have Ls_4 := Lib.hid (Nat.le_trans Ls_3.out hsz)
  have Ox_3 := Lib.hid (Ox_2.out.below hb Lx_2.out)
  have Lx_3 := Lib.hid (Nat.le_trans Lx_2.out hsz)
  clear Ou_5 Lu_5 Op_4 Lp_4 Os_3 Ls_3 Ox_2 Lx_2 HB6 hb hsz hd
  go_wp2_with fail
  refine (ints_any _ _ _ _ _ _ us us _ Ox_3.out.si Ou_6.out.si (by omega) (by omega)).mono ?_
  rintro e w8 ⟨rfl, hd⟩
  rw [eqL_self]
  have hb : Below w7.heap.size w7 w8 := hd.below _
  have hsz := hb.size
  have HB8 := Lib.hid (HB7.out.trans (hb.mono HB7.out.size))
  have Ou_7 := Lib.hid (Ou_6.out.below hb Lu_6.out)
  have Lu_7 := Lib.hid (Nat.le_trans Lu_6.out hsz)
  have Op_6 := Lib.hid (Op_5.out.below hb Lp_5.out)
  have Lp_6 := Lib.hid (Nat.le_trans Lp_5.out hsz)
  have Os_5 := Lib.hid (Os_4.out.below hb Ls_4.out)
  have Ls_5 := Lib.hid (Nat.le_trans Ls_4.out hsz)
  have Ox_4 := Lib.hid (Ox_3.out.below hb Lx_3.out)
  have Lx_4 := Lib.hid (Nat.le_trans Lx_3.out hsz)
  clear Ou_6 Lu_6 Op_5 Lp_5 Os_4 Ls_4 Ox_3 Lx_3 HB7 hb hsz hd
  go_wp2_with fail
  refine (implConj_any _ _ _ us _ Ou_7.out.si (by omega)).mono ?_
  rintro e w9 ⟨Ac, nc, cc, rfl, ho, hb⟩
  have hsz := hb.size
  have HB9 := Lib.hid (HB8.out.trans (hb.mono HB8.out.size))
  have Ou_8 := Lib.hid (Ou_7.out.below hb Lu_7.out)
  have Lu_8 := Lib.hid (Nat.le_trans Lu_7.out hsz)
  have Op_7 := Lib.hid (Op_6.out.below hb Lp_6.out)
  have Lp_7 := Lib.hid (Nat.le_trans Lp_6.out hsz)
  have Os_6 := Lib.hid (Os_5.out.below hb Ls_5.out)
  have Ls_6 := Lib.hid (Nat.le_trans Ls_5.out hsz)
  have Ox_5 := Lib.hid (Ox_4.out.below hb Lx_4.out)
  have Lx_5 := Lib.hid (Nat.le_trans Lx_4.out hsz)
  have Oc_0 := Lib.hid ho
  have Lc_0 := Lib.hid (Nat.le_refl w9.heap.size)
  have Nc := Lib.hid ho.len
  have Gc := Lib.hid HB8.out.size
  have Du_c : Hid (_ ≤ w8.heap.size) := Lu_7
  have Dp_c : Hid (_ ≤ w8.heap.size) := Lp_6
  have Ds_c : Hid (_ ≤ w8.heap.size) := Ls_5
  have Dx_c : Hid (_ ≤ w8.heap.size) := Lx_4
  clear Ou_7 Lu_7 Op_6 Lp_6 Os_5 Ls_5 Ox_4 Lx_4 HB8 hb hsz ho
  have ec : nc ≤ 16 := by have := Nc.out; have := HF.out.cols; omega
  go_wp2_with fail
  refine (implConj_any _ _ _ (conjShape us) _ Oc_0.out.si (by omega)).mono ?_
  rintro e w10 ⟨Ad, nd, cd, rfl, ho, hb⟩
  rw [HF.out.twice] at ho
  have hsz := hb.size
  have HB10 := Lib.hid (HB9.out.trans (hb.mono HB9.out.size))
  have Ou_9 := Lib.hid (Ou_8.out.below hb Lu_8.out)
  have Lu_9 := Lib.hid (Nat.le_trans Lu_8.out hsz)
  have Op_8 := Lib.hid (Op_7.out.below hb Lp_7.out)
  have Lp_8 := Lib.hid (Nat.le_trans Lp_7.out hsz)
  have Os_7 := Lib.hid (Os_6.out.below hb Ls_6.out)
  have Ls_7 := Lib.hid (Nat.le_trans Ls_6.out hsz)
  have Ox_6 := Lib.hid (Ox_5.out.below hb Lx_5.out)
  have Lx_6 := Lib.hid (Nat.le_trans Lx_5.out hsz)
  have Oc_1 := Lib.hid (Oc_0.out.below hb Lc_0.out)
  have Lc_1 := Lib.hid (Nat.le_trans Lc_0.out hsz)
  have Od_0 := Lib.hid ho
  have Ld_0 := Lib.hid (Nat.le_refl w10.heap.size)
  have Nd := Lib.hid ho.len
  have Gd := Lib.hid HB9.out.size
  have Du_d : Hid (_ ≤ w9.heap.size) := Lu_8
  have Dp_d : Hid (_ ≤ w9.heap.size) := Lp_7
  have Ds_d : Hid (_ ≤ w9.heap.size) := Ls_6
  have Dx_d : Hid (_ ≤ w9.heap.size) := Lx_5
  have Dc_d : Hid (_ ≤ w9.heap.size) := Lc_0
  clear Ou_8 Lu_8 Op_7 Lp_7 Os_6 Ls_6 Ox_5 Lx_5 Oc_0 Lc_0 HB9 hb hsz ho
  have ed : nd ≤ 7 := by have := Nd.out; have := HLU.out; omega
  go_wp2_with fail
  refine (ints_any _ _ _ _ _ _ us us _ Od_0.out.si Ou_9.out.si (by omega) (by omega)).mono ?_
  rintro e w11 ⟨rfl, hd⟩
  rw [eqL_self]
  have hb : Below w10.heap.size w10 w11 := hd.below _
  have hsz := hb.size
  have HB11 := Lib.hid (HB10.out.trans (hb.mono HB10.out.size))
  have Ou_10 := Lib.hid (Ou_9.out.below hb Lu_9.out)
  have Lu_10 := Lib.hid (Nat.le_trans Lu_9.out hsz)
  have Op_9 := Lib.hid (Op_8.out.below hb Lp_8.out)
  have Lp_9 := Lib.hid (Nat.le_trans Lp_8.out hsz)
  have Os_8 := Lib.hid (Os_7.out.below hb Ls_7.out)
  have Ls_8 := Lib.hid (Nat.le_trans Ls_7.out hsz)
  have Ox_7 := Lib.hid (Ox_6.out.below hb Lx_6.out)
  have Lx_7 := Lib.hid (Nat.le_trans Lx_6.out hsz)
  have Oc_2 := Lib.hid (Oc_1.out.below hb Lc_1.out)
  have Lc_2 := Lib.hid (Nat.le_trans Lc_1.out hsz)
  have Od_1 := Lib.hid (Od_0.out.below hb Ld_0.out)
  have Ld_1 := Lib.hid (Nat.le_trans Ld_0.out hsz)
  clear Ou_9 Lu_9 Op_8 Lp_8 Os_7 Ls_7 Ox_6 Lx_6 Oc_1 Lc_1 Od_0 Ld_0 HB10 hb hsz hd
  go_wp2_with fail
  refine (implInBox_any _ _ _ us _ _ _ Ou_10.out.si (by omega)).mono ?_
  rintro e w12 ⟨rfl, hd⟩
  rw [HBX.out]
  have hb : Below w11.heap.size w11 w12 := hd.below _
  have hsz := hb.size
  have HB12 := Lib.hid (HB11.out.trans (hb.mono HB11.out.size))
  have Ou_11 := Lib.hid (Ou_10.out.below hb Lu_10.out)
  have Lu_11 := Lib.hid (Nat.le_trans Lu_10.out hsz)
  have Op_10 := Lib.hid (Op_9.out.below hb Lp_9.out)
  have Lp_10 := Lib.hid (Nat.le_trans Lp_9.out hsz)
  have Os_9 := Lib.hid (Os_8.out.below hb Ls_8.out)
  have Ls_9 := Lib.hid (Nat.le_trans Ls_8.out hsz)
  have Ox_8 := Lib.hid (Ox_7.out.below hb Lx_7.out)
  have Lx_8 := Lib.hid (Nat.le_trans Lx_7.out hsz)
  have Oc_3 := Lib.hid (Oc_2.out.below hb Lc_2.out)
  have Lc_3 := Lib.hid (Nat.le_trans Lc_2.out hsz)
  have Od_2 := Lib.hid (Od_1.out.below hb Ld_1.out)
  have Ld_2 := Lib.hid (Nat.le_trans Ld_1.out hsz)
  clear Ou_10 Lu_10 Op_9 Lp_9 Os_8 Ls_8 Ox_7 Lx_7 Oc_2 Lc_2 Od_1 Ld_1 HB11 hb hsz hd
  go_wp2_with fail
  refine (implSop_any _ _ _ (graPerm us k m) _ Op_10.out.si Op_10.out.cap (by omega)).mono ?_
  rintro e w13 ⟨Ay, ny, cy, rfl, ho, hb⟩
  rw [HF.out.ok, HLU.out]
  have hsz := hb.size
  have HB13 := Lib.hid (HB12.out.trans (hb.mono HB12.out.size))
  have Ou_12 := Lib.hid (Ou_11.out.below hb Lu_11.out)
  have Lu_12 := Lib.hid (Nat.le_trans Lu_11.out hsz)
  have Op_11 := Lib.hid (Op_10.out.below hb Lp_10.out)
  have Lp_11 := Lib.hid (Nat.le_trans Lp_10.out hsz)
  have Os_10 := Lib.hid (Os_9.out.below hb Ls_9.out)
  have Ls_10 := Lib.hid (Nat.le_trans Ls_9.out hsz)
  have Ox_9 := Lib.hid (Ox_8.out.below hb Lx_8.out)
  have Lx_9 := Lib.hid (Nat.le_trans Lx_8.out hsz)
  have Oc_4 := Lib.hid (Oc_3.out.below hb Lc_3.out)
  have Lc_4 := Lib.hid (Nat.le_trans Lc_3.out hsz)
  have Od_3 := Lib.hid (Od_2.out.below hb Ld_2.out)
  have Ld_3 := Lib.hid (Nat.le_trans Ld_2.out hsz)
  have Oy_0 := Lib.hid ho
  have Ly_0 := Lib.hid (Nat.le_refl w13.heap.size)
  have Ny := Lib.hid ho.len
  have Gy := Lib.hid HB12.out.size
  have Du_y : Hid (_ ≤ w12.heap.size) := Lu_11
  have Dp_y : Hid (_ ≤ w12.heap.size) := Lp_10
  have Ds_y : Hid (_ ≤ w12.heap.size) := Ls_9
  have Dx_y : Hid (_ ≤ w12.heap.size) := Lx_8
  have Dc_y : Hid (_ ≤ w12.heap.size) := Lc_3
  have Dd_y : Hid (_ ≤ w12.heap.size) := Ld_2
  clear Ou_11 Lu_11 Op_10 Lp_10 Os_9 Ls_9 Ox_8 Lx_8 Oc_3 Lc_3 Od_2 Ld_2 HB12 hb hsz ho
  by_cases h0 : 0 < n1
  · have hr := HF.out.rest.resolve_left (by have := HLU.out; omega)
    have HK := Lib.hid hr.1
    have HY : Hid (Own w13 w12.heap.size w13.heap.size Ay ny cy us) := Lib.hid (by have := Oy_0.out; rw [hr.2] at this; exact this)
    have ey : ny ≤ 7 := by have := Ny.out; rw [hr.2] at this; have := HLU.out; omega
    have h0I : (0 : Int) < (n1 : Int) := by omega
    rw [HK.out, decide_eq_true h0]
    clear hr
    go_wp2_with fail
    refine (ints_any _ _ _ _ _ _ us us _ HY.out.si Ou_12.out.si (by omega) (by omega)).mono ?_
    rintro e wz ⟨rfl, hd⟩
    rw [eqL_self]
    have HZ := Lib.hid (HB13.out.trans (hd.below _))
    clear hd
    go_wp2
    go_ret
    exact ⟨rfl, HZ.out⟩
  · obtain rfl : n1 = 0 := by omega
    rw [decide_eq_false h0]
    go_wp2
    go_ret
    exact ⟨rfl, HB13.out⟩

set_option maxRecDepth 100000 in
theorem lifted_FnBoxed (os : Os) (started : os.Started) (H : Type) (enc : TypeId × Value → H) :
    ReturnsInHanded {} Try.checked os 4 .any (Rows.fnBoxedSpec.pre6 enc Try.prog Try.f4 Rows.fnBoxedRow.domain false) (Rows.fnBoxedSpec.post enc Try.prog Try.f4 false true false false) := by
  refine returnsInHanded_of_change (C := Try.checked) own started (by kernel_rfl) Try.func4
    (ChangeSpec.witness6 (enc := enc) (C := Try.checked) false ⟨#[], #[.slice none 0 0], []⟩ 8 (by kernel_rfl) (by kernel_rfl) (by kernel_rfl) (by kernel_rfl)) ?_
  intro W base args ds gs before hval0 hW hcnd _
  have hval : ∀ (j : Nat) t v, Try.f4.params[j]? = some t → args[j]? = some v → Value.okWide Try.prog W .any base t v := hval0
  have hW' := hW
  obtain ⟨p, q, hA0, hV, rfl, hfz, hnd⟩ := hW
  have hA : DataW.TrodAll enc Try.prog W 0 (fun _ => true) true Try.f4.params.toList args.toList ds p := hA0
  rw [Try.params4] at hA hval
  obtain ⟨v0, vs0, d0, ds0, p0, q0, hargs, rfl, rfl, h0, r0⟩ := trodAll_cons hA
  obtain ⟨rfl, rfl, rfl⟩ := trodAll_nil r0
  obtain rfl : args = #[v0] := by cases args; simp_all
  obtain ⟨rfl, rfl⟩ := trodVars_none hV
  obtain ⟨b0, len0, cap0, rfl⟩ := okWide_slice Try.underlying29 (hval 0 29 v0 rfl rfl)
  have k0 := h0
  have lt0 : ∀ x ∈ p0, x.block < W.heap.size := by obtain ⟨m, hm⟩ := k0; exact DataW.trod_lt m _ _ _ hm
  obtain ⟨bs, s0⟩ := SB.of_trod h0
  clear hA0 hval0
  refine (walk_FnBoxed b0 len0 cap0 bs W s0).mono fun e W' ⟨he, bel⟩ => ?_
  subst he
  exact ⟨_, rfl, _, _, _, [], _, [], hW', trodAll_mk1 (shut_bool Try.underlying4 _), (trodAll_cons_mk (Below.trod laidOut (by kernel_rfl) (of_decide_eq_true (by kernel_rfl)) k0 bel lt0) trodAll_mk0), rfl, bel.frame _, fun h => by cases h⟩

theorem fnBoxed_holds : Rows.FnBoxedSaid :=
  OpenClaim.holds_of_wide 4 Try.f4 rfl rfl rfl rfl rfl rfl rfl ⟨rfl, rfl, rfl, rfl, rfl⟩ rfl rfl rfl rfl rfl (by kernel_rfl) Try.func4 (by kernel_rfl)
    (of_decide_eq_true (by kernel_rfl)) (by unfold Func.isWrapper; first | (rw [if_pos (by decide +kernel)]; kernel_rfl) | (rw [if_neg (by decide +kernel)]; exact ⟨rfl, rfl⟩))
    (fun os started H enc _ => lifted_FnBoxed os started H enc)

end Go.Proofs.Ytbjnjccolapehaa
