/-
  FnPermGroup: for every input the law returns true: products, inverses and lengths of the drawn permutations are a group's. No conditions.
-/
import Derived.Test.YtjegngkemdibcacDrawTwo
import Derived.Test.YtjegngkemdibcacFacts5
import Derived.Test.YtjegngkemdibcacInts
import Derived.Test.YtjegngkemdibcacImplE
import Derived.Test.YtjegngkemdibcacFrameB
namespace Go.Proofs.Ytjegngkemdibcac
open Go.ChangeShapes Go.WideShapes Go.ChangeAt Go.RowKit

set_option maxRecDepth 100000 in
set_option maxHeartbeats 2000000 in
theorem walk_FnPermGroup (A : Option Addr) (n c : Nat) (bs : List Int) (w : World) (hs : SB w w.heap.size A n bs) :
    Calls Try.prog 7 #[.slice A n c] w fun e w' => e = .returned (.bool true) ∧ Below w.heap.size w w' := by
  by_cases hbig : 1048576 < n
  · have hbI : decide (1048576 < (n : Int)) = true := by simp; omega
    go_enter Try.func7, Try.ntmps7
    go_wp2_with fail
    refine (big_any A n c w).mono ?_
    rintro e w1 ⟨rfl, rfl⟩
    rw [hbI]
    go_wp2
    go_ret
    exact ⟨rfl, Below.refl _ _⟩
  have hbI : decide (1048576 < (n : Int)) = false := by simp; omega
  have HbI := Lib.hid hbI
  clear hbI
  have HS0 := Lib.hid hs
  clear hs
  go_enter Try.func7, Try.ntmps7
  go_wp2_with fail
  refine (big_any A n c w).mono ?_
  rintro e w0 ⟨rfl, rfl⟩
  rw [HbI.out]
  go_wp2_with fail
  refine (drawTwoPerms_any A n c bs w HS0.out (by omega)).mono ?_
  rintro e w1 ⟨us, vs, A1, A2, m, c1, c2, rfl, hou, hov, hpu, hpv, hm5, hb⟩
  have HB1 := Lib.hid hb
  have Ou_0 := Lib.hid hou
  have Lu_0 := Lib.hid (Nat.le_refl w1.heap.size)
  have Ov_0 := Lib.hid hov
  have Lv_0 := Lib.hid (Nat.le_refl w1.heap.size)
  have hlu : us.length = m := hou.len
  have hlv : vs.length = m := hov.len
  have hpu5 : us.length ≤ 5 := by omega
  obtain ⟨f1, f2, f3, f4, f5, f6, f7⟩ := one_facts hpu hpu5
  obtain ⟨g1, g2, g3, g4, g5⟩ := group_facts hpu hpv (by omega) hpu5
  have K := Lib.hid (And.intro hlu (And.intro hlv (And.intro hpu hpv)))
  have Kf := Lib.hid (And.intro f1 (And.intro f2 (And.intro f3 (And.intro f4 (And.intro f5 (And.intro f6 f7))))))
  have Kg := Lib.hid (And.intro g1 (And.intro g2 (And.intro g3 (And.intro g4 g5))))
  have hm1 : 1 ≤ m := by have := hpu.1; omega
  clear hou hov hpu hpv hb hlu hlv hpu5 f1 f2 f3 f4 f5 f6 f7 g1 g2 g3 g4 g5
  go_wp2_with fail
  refine (implCompose_any _ _ _ _ _ _ us vs _ Ou_0.out.si Ov_0.out.si (by omega) (by omega)).mono ?_
  rintro e w2 ⟨Ax, nx, cx, rfl, ho, hb⟩
  have hsz := hb.size
  have HB2 := Lib.hid (HB1.out.trans (hb.mono HB1.out.size))
  have Ou_1 := Lib.hid (Ou_0.out.below hb Lu_0.out)
  have Lu_1 := Lib.hid (Nat.le_trans Lu_0.out hsz)
  have Ov_1 := Lib.hid (Ov_0.out.below hb Lv_0.out)
  have Lv_1 := Lib.hid (Nat.le_trans Lv_0.out hsz)
  have Ox_0 := Lib.hid ho
  have Lx_0 := Lib.hid (Nat.le_refl w2.heap.size)
  have Nx := Lib.hid ho.len
  have Gx := Lib.hid HB1.out.size
  have Du_x : Hid (_ ≤ w1.heap.size) := Lu_0
  have Dv_x : Hid (_ ≤ w1.heap.size) := Lv_0
  clear Ou_0 Lu_0 Ov_0 Lv_0 HB1 hb hsz ho
  obtain rfl : m = nx := by have := Nx.out; have := Kg.out.2.1; have := K.out; omega
  go_wp2_with fail
  refine (implInverse_any _ _ _ us _ Ou_1.out.si (by omega)).mono ?_
  rintro e w3 ⟨Ay, ny, cy, rfl, ho, hb⟩
  have hsz := hb.size
  have HB3 := Lib.hid (HB2.out.trans (hb.mono HB2.out.size))
  have Ou_2 := Lib.hid (Ou_1.out.below hb Lu_1.out)
  have Lu_2 := Lib.hid (Nat.le_trans Lu_1.out hsz)
  have Ov_2 := Lib.hid (Ov_1.out.below hb Lv_1.out)
  have Lv_2 := Lib.hid (Nat.le_trans Lv_1.out hsz)
  have Ox_1 := Lib.hid (Ox_0.out.below hb Lx_0.out)
  have Lx_1 := Lib.hid (Nat.le_trans Lx_0.out hsz)
  have Oy_0 := Lib.hid ho
  have Ly_0 := Lib.hid (Nat.le_refl w3.heap.size)
  have Ny := Lib.hid ho.len
  have Gy := Lib.hid HB2.out.size
  have Du_y : Hid (_ ≤ w2.heap.size) := Lu_1
  have Dv_y : Hid (_ ≤ w2.heap.size) := Lv_1
  have Dx_y : Hid (_ ≤ w2.heap.size) := Lx_0
  clear Ou_1 Lu_1 Ov_1 Lv_1 Ox_0 Lx_0 HB2 hb hsz ho
  obtain rfl : m = ny := by have := Ny.out; have := Kf.out.2.1; have := K.out; omega
  go_wp2_with fail
  refine (implIsPerm_any _ _ _ (compPerm us vs) _ Ox_1.out.si (by omega)).mono ?_
  rintro e w4 ⟨rfl, hb⟩
  rw [Kg.out.1]
  have hsz := hb.size
  have HB4 := Lib.hid (HB3.out.trans (hb.mono HB3.out.size))
  have Ou_3 := Lib.hid (Ou_2.out.below hb Lu_2.out)
  have Lu_3 := Lib.hid (Nat.le_trans Lu_2.out hsz)
  have Ov_3 := Lib.hid (Ov_2.out.below hb Lv_2.out)
  have Lv_3 := Lib.hid (Nat.le_trans Lv_2.out hsz)
  have Ox_2 := Lib.hid (Ox_1.out.below hb Lx_1.out)
  have Lx_2 := Lib.hid (Nat.le_trans Lx_1.out hsz)
  have Oy_1 := Lib.hid (Oy_0.out.below hb Ly_0.out)
  have Ly_1 := Lib.hid (Nat.le_trans Ly_0.out hsz)
  clear Ou_2 Lu_2 Ov_2 Lv_2 Ox_1 Lx_1 Oy_0 Ly_0 HB3 hb hsz
  go_wp2_with fail
  refine (implCompose_any _ _ _ _ _ _ (invPerm us) us _ Oy_1.out.si Ou_3.out.si (by omega) (by omega)).mono ?_
  rintro e w5 ⟨Ap, np, cp, rfl, ho, hb⟩
  have hsz := hb.size
  have HB5 := Lib.hid (HB4.out.trans (hb.mono HB4.out.size))
  have Ou_4 := Lib.hid (Ou_3.out.below hb Lu_3.out)
  have Lu_4 := Lib.hid (Nat.le_trans Lu_3.out hsz)
  have Ov_4 := Lib.hid (Ov_3.out.below hb Lv_3.out)
  have Lv_4 := Lib.hid (Nat.le_trans Lv_3.out hsz)
  have Ox_3 := Lib.hid (Ox_2.out.below hb Lx_2.out)
  have Lx_3 := Lib.hid (Nat.le_trans Lx_2.out hsz)
  have Oy_2 := Lib.hid (Oy_1.out.below hb Ly_1.out)
  have Ly_2 := Lib.hid (Nat.le_trans Ly_1.out hsz)
  have Op_0 := Lib.hid ho
  have Lp_0 := Lib.hid (Nat.le_refl w5.heap.size)
  have Np := Lib.hid ho.len
  have Gp := Lib.hid HB4.out.size
  have Du_p : Hid (_ ≤ w4.heap.size) := Lu_3
  have Dv_p : Hid (_ ≤ w4.heap.size) := Lv_3
  have Dx_p : Hid (_ ≤ w4.heap.size) := Lx_2
  have Dy_p : Hid (_ ≤ w4.heap.size) := Ly_1
  clear Ou_3 Lu_3 Ov_3 Lv_3 Ox_2 Lx_2 Oy_1 Ly_1 HB4 hb hsz ho
  obtain rfl : m = np := by have := Np.out; rw [Kf.out.2.2.1, idL_len] at this; have := K.out; omega
  go_wp2_with fail
  refine (implIdentity_in m _ hm1 (by omega)).mono ?_
  rintro e w6 ⟨Aq, nq, cq, rfl, ho, hb⟩
  have hsz := hb.size
  have HB6 := Lib.hid (HB5.out.trans (hb.mono HB5.out.size))
  have Ou_5 := Lib.hid (Ou_4.out.below hb Lu_4.out)
  have Lu_5 := Lib.hid (Nat.le_trans Lu_4.out hsz)
  have Ov_5 := Lib.hid (Ov_4.out.below hb Lv_4.out)
  have Lv_5 := Lib.hid (Nat.le_trans Lv_4.out hsz)
  have Ox_4 := Lib.hid (Ox_3.out.below hb Lx_3.out)
  have Lx_4 := Lib.hid (Nat.le_trans Lx_3.out hsz)
  have Oy_3 := Lib.hid (Oy_2.out.below hb Ly_2.out)
  have Ly_3 := Lib.hid (Nat.le_trans Ly_2.out hsz)
  have Op_1 := Lib.hid (Op_0.out.below hb Lp_0.out)
  have Lp_1 := Lib.hid (Nat.le_trans Lp_0.out hsz)
  have Oq_0 := Lib.hid ho
  have Lq_0 := Lib.hid (Nat.le_refl w6.heap.size)
  have Nq := Lib.hid ho.len
  have Gq := Lib.hid HB5.out.size
  have Du_q : Hid (_ ≤ w5.heap.size) := Lu_4
  have Dv_q : Hid (_ ≤ w5.heap.size) := Lv_4
  have Dx_q : Hid (_ ≤ w5.heap.size) := Lx_3
  have Dy_q : Hid (_ ≤ w5.heap.size) := Ly_2
  have Dp_q : Hid (_ ≤ w5.heap.size) := Lp_0
  clear Ou_4 Lu_4 Ov_4 Lv_4 Ox_3 Lx_3 Oy_2 Ly_2 Op_0 Lp_0 HB5 hb hsz ho
  obtain rfl : m = nq := by have := Nq.out; rw [idL_len] at this; omega
  go_wp2_with fail
  refine (ints_any _ _ _ _ _ _ (compPerm (invPerm us) us) (idL m) _ Op_1.out.si Oq_0.out.si (by omega) (by omega)).mono ?_
  rintro e w7 ⟨rfl, hd⟩
  rw [Kf.out.2.2.1, K.out.1, eqL_self]
  have hb : Below w6.heap.size w6 w7 := hd.below _
  have hsz := hb.size
  have HB7 := Lib.hid (HB6.out.trans (hb.mono HB6.out.size))
  have Ou_6 := Lib.hid (Ou_5.out.below hb Lu_5.out)
  have Lu_6 := Lib.hid (Nat.le_trans Lu_5.out hsz)
  have Ov_6 := Lib.hid (Ov_5.out.below hb Lv_5.out)
  have Lv_6 := Lib.hid (Nat.le_trans Lv_5.out hsz)
  have Ox_5 := Lib.hid (Ox_4.out.below hb Lx_4.out)
  have Lx_5 := Lib.hid (Nat.le_trans Lx_4.out hsz)
  have Oy_4 := Lib.hid (Oy_3.out.below hb Ly_3.out)
  have Ly_4 := Lib.hid (Nat.le_trans Ly_3.out hsz)
  have Op_2 := Lib.hid (Op_1.out.below hb Lp_1.out)
  have Lp_2 := Lib.hid (Nat.le_trans Lp_1.out hsz)
  have Oq_1 := Lib.hid (Oq_0.out.below hb Lq_0.out)
  have Lq_1 := Lib.hid (Nat.le_trans Lq_0.out hsz)
  clear Ou_5 Lu_5 Ov_5 Lv_5 Ox_4 Lx_4 Oy_3 Ly_3 Op_1 Lp_1 Oq_0 Lq_0 HB6 hb hsz hd
  go_wp2_with fail
  refine (implCompose_any _ _ _ _ _ _ (invPerm us) (compPerm us vs) _ Oy_4.out.si Ox_5.out.si (by omega) (by omega)).mono ?_
  rintro e w8 ⟨Ar, nr, cr, rfl, ho, hb⟩
  have hsz := hb.size
  have HB8 := Lib.hid (HB7.out.trans (hb.mono HB7.out.size))
  have Ou_7 := Lib.hid (Ou_6.out.below hb Lu_6.out)
  have Lu_7 := Lib.hid (Nat.le_trans Lu_6.out hsz)
  have Ov_7 := Lib.hid (Ov_6.out.below hb Lv_6.out)
  have Lv_7 := Lib.hid (Nat.le_trans Lv_6.out hsz)
  have Ox_6 := Lib.hid (Ox_5.out.below hb Lx_5.out)
  have Lx_6 := Lib.hid (Nat.le_trans Lx_5.out hsz)
  have Oy_5 := Lib.hid (Oy_4.out.below hb Ly_4.out)
  have Ly_5 := Lib.hid (Nat.le_trans Ly_4.out hsz)
  have Op_3 := Lib.hid (Op_2.out.below hb Lp_2.out)
  have Lp_3 := Lib.hid (Nat.le_trans Lp_2.out hsz)
  have Oq_2 := Lib.hid (Oq_1.out.below hb Lq_1.out)
  have Lq_2 := Lib.hid (Nat.le_trans Lq_1.out hsz)
  have Or_0 := Lib.hid ho
  have Lr_0 := Lib.hid (Nat.le_refl w8.heap.size)
  have Nr := Lib.hid ho.len
  have Gr := Lib.hid HB7.out.size
  have Du_r : Hid (_ ≤ w7.heap.size) := Lu_6
  have Dv_r : Hid (_ ≤ w7.heap.size) := Lv_6
  have Dx_r : Hid (_ ≤ w7.heap.size) := Lx_5
  have Dy_r : Hid (_ ≤ w7.heap.size) := Ly_4
  have Dp_r : Hid (_ ≤ w7.heap.size) := Lp_2
  have Dq_r : Hid (_ ≤ w7.heap.size) := Lq_1
  clear Ou_6 Lu_6 Ov_6 Lv_6 Ox_5 Lx_5 Oy_4 Ly_4 Op_2 Lp_2 Oq_1 Lq_1 HB7 hb hsz ho
  obtain rfl : m = nr := by have := Nr.out; rw [Kg.out.2.2.2.2] at this; have := K.out; omega
  go_wp2_with fail
  refine (ints_any _ _ _ _ _ _ (compPerm (invPerm us) (compPerm us vs)) vs _ Or_0.out.si Ov_7.out.si (by omega) (by omega)).mono ?_
  rintro e w9 ⟨rfl, hd⟩
  rw [Kg.out.2.2.2.2, eqL_self]
  have hb : Below w8.heap.size w8 w9 := hd.below _
  have hsz := hb.size
  have HB9 := Lib.hid (HB8.out.trans (hb.mono HB8.out.size))
  have Ou_8 := Lib.hid (Ou_7.out.below hb Lu_7.out)
  have Lu_8 := Lib.hid (Nat.le_trans Lu_7.out hsz)
  have Ov_8 := Lib.hid (Ov_7.out.below hb Lv_7.out)
  have Lv_8 := Lib.hid (Nat.le_trans Lv_7.out hsz)
  have Ox_7 := Lib.hid (Ox_6.out.below hb Lx_6.out)
  have Lx_7 := Lib.hid (Nat.le_trans Lx_6.out hsz)
  have Oy_6 := Lib.hid (Oy_5.out.below hb Ly_5.out)
  have Ly_6 := Lib.hid (Nat.le_trans Ly_5.out hsz)
  have Op_4 := Lib.hid (Op_3.out.below hb Lp_3.out)
  have Lp_4 := Lib.hid (Nat.le_trans Lp_3.out hsz)
  have Oq_3 := Lib.hid (Oq_2.out.below hb Lq_2.out)
  have Lq_3 := Lib.hid (Nat.le_trans Lq_2.out hsz)
  have Or_1 := Lib.hid (Or_0.out.below hb Lr_0.out)
  have Lr_1 := Lib.hid (Nat.le_trans Lr_0.out hsz)
  clear Ou_7 Lu_7 Ov_7 Lv_7 Ox_6 Lx_6 Oy_5 Ly_5 Op_3 Lp_3 Oq_2 Lq_2 Or_0 Lr_0 HB8 hb hsz hd
  go_wp2_with fail
  refine (implLength_any _ _ _ us _ Ou_8.out.si (by omega)).mono ?_
  rintro e w10 ⟨rfl, hb⟩
  have hsz := hb.size
  have HB10 := Lib.hid (HB9.out.trans (hb.mono HB9.out.size))
  have Ou_9 := Lib.hid (Ou_8.out.below hb Lu_8.out)
  have Lu_9 := Lib.hid (Nat.le_trans Lu_8.out hsz)
  have Ov_9 := Lib.hid (Ov_8.out.below hb Lv_8.out)
  have Lv_9 := Lib.hid (Nat.le_trans Lv_8.out hsz)
  have Ox_8 := Lib.hid (Ox_7.out.below hb Lx_7.out)
  have Lx_8 := Lib.hid (Nat.le_trans Lx_7.out hsz)
  have Oy_7 := Lib.hid (Oy_6.out.below hb Ly_6.out)
  have Ly_7 := Lib.hid (Nat.le_trans Ly_6.out hsz)
  have Op_5 := Lib.hid (Op_4.out.below hb Lp_4.out)
  have Lp_5 := Lib.hid (Nat.le_trans Lp_4.out hsz)
  have Oq_4 := Lib.hid (Oq_3.out.below hb Lq_3.out)
  have Lq_4 := Lib.hid (Nat.le_trans Lq_3.out hsz)
  have Or_2 := Lib.hid (Or_1.out.below hb Lr_1.out)
  have Lr_2 := Lib.hid (Nat.le_trans Lr_1.out hsz)
  clear Ou_8 Lu_8 Ov_8 Lv_8 Ox_7 Lx_7 Oy_6 Ly_6 Op_4 Lp_4 Oq_3 Lq_3 Or_1 Lr_1 HB9 hb hsz
  go_wp2_with fail
  refine (implLength_any _ _ _ vs _ Ov_9.out.si (by omega)).mono ?_
  rintro e w11 ⟨rfl, hb⟩
  have hsz := hb.size
  have HB11 := Lib.hid (HB10.out.trans (hb.mono HB10.out.size))
  have Ou_10 := Lib.hid (Ou_9.out.below hb Lu_9.out)
  have Lu_10 := Lib.hid (Nat.le_trans Lu_9.out hsz)
  have Ov_10 := Lib.hid (Ov_9.out.below hb Lv_9.out)
  have Lv_10 := Lib.hid (Nat.le_trans Lv_9.out hsz)
  have Ox_9 := Lib.hid (Ox_8.out.below hb Lx_8.out)
  have Lx_9 := Lib.hid (Nat.le_trans Lx_8.out hsz)
  have Oy_8 := Lib.hid (Oy_7.out.below hb Ly_7.out)
  have Ly_8 := Lib.hid (Nat.le_trans Ly_7.out hsz)
  have Op_6 := Lib.hid (Op_5.out.below hb Lp_5.out)
  have Lp_6 := Lib.hid (Nat.le_trans Lp_5.out hsz)
  have Oq_5 := Lib.hid (Oq_4.out.below hb Lq_4.out)
  have Lq_5 := Lib.hid (Nat.le_trans Lq_4.out hsz)
  have Or_3 := Lib.hid (Or_2.out.below hb Lr_2.out)
  have Lr_3 := Lib.hid (Nat.le_trans Lr_2.out hsz)
  clear Ou_9 Lu_9 Ov_9 Lv_9 Ox_8 Lx_8 Oy_7 Ly_7 Op_5 Lp_5 Oq_4 Lq_4 Or_2 Lr_2 HB10 hb hsz
  go_wp2_with fail
  refine (implLength_any _ _ _ (compPerm us vs) _ Ox_9.out.si (by omega)).mono ?_
  rintro e w12 ⟨rfl, hb⟩
  have hsz := hb.size
  have HB12 := Lib.hid (HB11.out.trans (hb.mono HB11.out.size))
  have Ou_11 := Lib.hid (Ou_10.out.below hb Lu_10.out)
  have Lu_11 := Lib.hid (Nat.le_trans Lu_10.out hsz)
  have Ov_11 := Lib.hid (Ov_10.out.below hb Lv_10.out)
  have Lv_11 := Lib.hid (Nat.le_trans Lv_10.out hsz)
  have Ox_10 := Lib.hid (Ox_9.out.below hb Lx_9.out)
  have Lx_10 := Lib.hid (Nat.le_trans Lx_9.out hsz)
  have Oy_9 := Lib.hid (Oy_8.out.below hb Ly_8.out)
  have Ly_9 := Lib.hid (Nat.le_trans Ly_8.out hsz)
  have Op_7 := Lib.hid (Op_6.out.below hb Lp_6.out)
  have Lp_7 := Lib.hid (Nat.le_trans Lp_6.out hsz)
  have Oq_6 := Lib.hid (Oq_5.out.below hb Lq_5.out)
  have Lq_6 := Lib.hid (Nat.le_trans Lq_5.out hsz)
  have Or_4 := Lib.hid (Or_3.out.below hb Lr_3.out)
  have Lr_4 := Lib.hid (Nat.le_trans Lr_3.out hsz)
  clear Ou_10 Lu_10 Ov_10 Lv_10 Ox_9 Lx_9 Oy_8 Ly_8 Op_6 Lp_6 Oq_5 Lq_5 Or_3 Lr_3 HB11 hb hsz
  obtain ⟨a, ha⟩ : ∃ a, a = lenPerm us := ⟨_, rfl⟩
  obtain ⟨b, hb0⟩ : ∃ b, b = lenPerm vs := ⟨_, rfl⟩
  obtain ⟨d, hd0⟩ : ∃ d, d = lenPerm (compPerm us vs) := ⟨_, rfl⟩
  rw [← ha, ← hb0, ← hd0]
  have q1 : d ≤ a + b := by rw [ha, hb0, hd0]; exact Kg.out.2.2.1
  have q2 : (a + b - d) % 2 = 0 := by rw [ha, hb0, hd0]; exact Kg.out.2.2.2.1
  have q3 : 0 ≤ a ∧ a ≤ 10 := by rw [ha]; exact ⟨Kf.out.2.2.2.2.2.1, Kf.out.2.2.2.2.1⟩
  have q4 : 0 ≤ b ∧ b ≤ 10 := by
    have h := one_facts K.out.2.2.2 (by have := K.out; omega)
    rw [hb0]; exact ⟨h.2.2.2.2.2.1, h.2.2.2.2.1⟩
  have q5 : 0 ≤ d := by
    have h := one_facts (isPermB_P Kg.out.1) (by have := K.out; have := Kg.out.2.1; omega)
    rw [hd0]; exact h.2.2.2.2.2.1
  obtain ⟨q31, q32⟩ := q3
  obtain ⟨q41, q42⟩ := q4
  have Q2 := Lib.hid q2
  have HAa := Lib.hid ha
  clear q2 ha hb0 hd0
  have hq2 : ((a + b - d) % 2 == 0) = true := by have := Q2.out; simp; omega
  go_wp2_with fail
  refine (implLength_any _ _ _ (invPerm us) _ Oy_9.out.si (by omega)).mono ?_
  rintro e w13 ⟨rfl, hb⟩
  rw [Kf.out.2.2.2.1, ← HAa.out]
  have hsz := hb.size
  have HB13 := Lib.hid (HB12.out.trans (hb.mono HB12.out.size))
  have Ou_12 := Lib.hid (Ou_11.out.below hb Lu_11.out)
  have Lu_12 := Lib.hid (Nat.le_trans Lu_11.out hsz)
  have Ov_12 := Lib.hid (Ov_11.out.below hb Lv_11.out)
  have Lv_12 := Lib.hid (Nat.le_trans Lv_11.out hsz)
  have Ox_11 := Lib.hid (Ox_10.out.below hb Lx_10.out)
  have Lx_11 := Lib.hid (Nat.le_trans Lx_10.out hsz)
  have Oy_10 := Lib.hid (Oy_9.out.below hb Ly_9.out)
  have Ly_10 := Lib.hid (Nat.le_trans Ly_9.out hsz)
  have Op_8 := Lib.hid (Op_7.out.below hb Lp_7.out)
  have Lp_8 := Lib.hid (Nat.le_trans Lp_7.out hsz)
  have Oq_7 := Lib.hid (Oq_6.out.below hb Lq_6.out)
  have Lq_7 := Lib.hid (Nat.le_trans Lq_6.out hsz)
  have Or_5 := Lib.hid (Or_4.out.below hb Lr_4.out)
  have Lr_5 := Lib.hid (Nat.le_trans Lr_4.out hsz)
  clear Ou_11 Lu_11 Ov_11 Lv_11 Ox_10 Lx_10 Oy_9 Ly_9 Op_7 Lp_7 Oq_6 Lq_6 Or_4 Lr_4 HB12 hb hsz
  go_wp2_with fail
  refine (implLongest_in m _ hm1 (by omega)).mono ?_
  rintro e w14 ⟨Al, nl, cl, rfl, ho, hb⟩
  have hsz := hb.size
  have HB14 := Lib.hid (HB13.out.trans (hb.mono HB13.out.size))
  have Ou_13 := Lib.hid (Ou_12.out.below hb Lu_12.out)
  have Lu_13 := Lib.hid (Nat.le_trans Lu_12.out hsz)
  have Ov_13 := Lib.hid (Ov_12.out.below hb Lv_12.out)
  have Lv_13 := Lib.hid (Nat.le_trans Lv_12.out hsz)
  have Ox_12 := Lib.hid (Ox_11.out.below hb Lx_11.out)
  have Lx_12 := Lib.hid (Nat.le_trans Lx_11.out hsz)
  have Oy_11 := Lib.hid (Oy_10.out.below hb Ly_10.out)
  have Ly_11 := Lib.hid (Nat.le_trans Ly_10.out hsz)
  have Op_9 := Lib.hid (Op_8.out.below hb Lp_8.out)
  have Lp_9 := Lib.hid (Nat.le_trans Lp_8.out hsz)
  have Oq_8 := Lib.hid (Oq_7.out.below hb Lq_7.out)
  have Lq_8 := Lib.hid (Nat.le_trans Lq_7.out hsz)
  have Or_6 := Lib.hid (Or_5.out.below hb Lr_5.out)
  have Lr_6 := Lib.hid (Nat.le_trans Lr_5.out hsz)
  have Ol_0 := Lib.hid ho
  have Ll_0 := Lib.hid (Nat.le_refl w14.heap.size)
  have Nl := Lib.hid ho.len
  have Gl := Lib.hid HB13.out.size
  have Du_l : Hid (_ ≤ w13.heap.size) := Lu_12
  have Dv_l : Hid (_ ≤ w13.heap.size) := Lv_12
  have Dx_l : Hid (_ ≤ w13.heap.size) := Lx_11
  have Dy_l : Hid (_ ≤ w13.heap.size) := Ly_10
  have Dp_l : Hid (_ ≤ w13.heap.size) := Lp_8
  have Dq_l : Hid (_ ≤ w13.heap.size) := Lq_7
  have Dr_l : Hid (_ ≤ w13.heap.size) := Lr_5
  clear Ou_12 Lu_12 Ov_12 Lv_12 Ox_11 Lx_11 Oy_10 Ly_10 Op_8 Lp_8 Oq_7 Lq_7 Or_5 Lr_5 HB13 hb hsz ho
  obtain rfl : m = nl := by have := Nl.out; rw [downL_len] at this; omega
  go_wp2_with fail
  refine (implCompose_any _ _ _ _ _ _ (downL m m) us _ Ol_0.out.si Ou_13.out.si (by omega) (by omega)).mono ?_
  rintro e w15 ⟨Ak, nk, ck, rfl, ho, hb⟩
  have hsz := hb.size
  have HB15 := Lib.hid (HB14.out.trans (hb.mono HB14.out.size))
  have Ou_14 := Lib.hid (Ou_13.out.below hb Lu_13.out)
  have Lu_14 := Lib.hid (Nat.le_trans Lu_13.out hsz)
  have Ov_14 := Lib.hid (Ov_13.out.below hb Lv_13.out)
  have Lv_14 := Lib.hid (Nat.le_trans Lv_13.out hsz)
  have Ox_13 := Lib.hid (Ox_12.out.below hb Lx_12.out)
  have Lx_13 := Lib.hid (Nat.le_trans Lx_12.out hsz)
  have Oy_12 := Lib.hid (Oy_11.out.below hb Ly_11.out)
  have Ly_12 := Lib.hid (Nat.le_trans Ly_11.out hsz)
  have Op_10 := Lib.hid (Op_9.out.below hb Lp_9.out)
  have Lp_10 := Lib.hid (Nat.le_trans Lp_9.out hsz)
  have Oq_9 := Lib.hid (Oq_8.out.below hb Lq_8.out)
  have Lq_9 := Lib.hid (Nat.le_trans Lq_8.out hsz)
  have Or_7 := Lib.hid (Or_6.out.below hb Lr_6.out)
  have Lr_7 := Lib.hid (Nat.le_trans Lr_6.out hsz)
  have Ol_1 := Lib.hid (Ol_0.out.below hb Ll_0.out)
  have Ll_1 := Lib.hid (Nat.le_trans Ll_0.out hsz)
  have Ok_0 := Lib.hid ho
  have Lk_0 := Lib.hid (Nat.le_refl w15.heap.size)
  have Nk := Lib.hid ho.len
  have Gk := Lib.hid HB14.out.size
  have Du_k : Hid (_ ≤ w14.heap.size) := Lu_13
  have Dv_k : Hid (_ ≤ w14.heap.size) := Lv_13
  have Dx_k : Hid (_ ≤ w14.heap.size) := Lx_12
  have Dy_k : Hid (_ ≤ w14.heap.size) := Ly_11
  have Dp_k : Hid (_ ≤ w14.heap.size) := Lp_9
  have Dq_k : Hid (_ ≤ w14.heap.size) := Lq_8
  have Dr_k : Hid (_ ≤ w14.heap.size) := Lr_6
  have Dl_k : Hid (_ ≤ w14.heap.size) := Ll_0
  clear Ou_13 Lu_13 Ov_13 Lv_13 Ox_12 Lx_12 Oy_11 Ly_11 Op_9 Lp_9 Oq_8 Lq_8 Or_6 Lr_6 Ol_0 Ll_0 HB14 hb hsz ho
  have hnk : nk ≤ 10 := by
    have h1 := Nk.out
    have h2 : (compPerm (downL m m) us).length ≤ us.length := by unfold compPerm; split <;> simp [compL_len]
    have := K.out; omega
  go_wp2_with fail
  refine (implLength_any _ _ _ (compPerm (downL m m) us) _ Ok_0.out.si (by omega)).mono ?_
  rintro e w16 ⟨rfl, hb⟩
  have e7 := Kf.out.2.2.2.2.2.2
  rw [K.out.1, ← HAa.out] at e7
  obtain ⟨t, ht⟩ : ∃ t : Nat, t = m * (m - 1) := ⟨_, rfl⟩
  rw [← ht] at e7
  have ht20 : t ≤ 20 := by
    have : m = 1 ∨ m = 2 ∨ m = 3 ∨ m = 4 ∨ m = 5 := by omega
    rcases this with h | h | h | h | h <;> subst h <;> simp at ht <;> omega
  have hprod : (m : Int) * ((m : Int) - 1) = (t : Int) := by
    have : m = 1 ∨ m = 2 ∨ m = 3 ∨ m = 4 ∨ m = 5 := by omega
    rcases this with h | h | h | h | h <;> subst h <;> simp at ht <;> subst ht <;> rfl
  rw [e7]
  have hdiv : ((t / 2 : Nat) : Int) - a = (t : Int) / 2 - a := by omega
  rw [hdiv]
  have hsz := hb.size
  have HB16 := Lib.hid (HB15.out.trans (hb.mono HB15.out.size))
  have Ou_15 := Lib.hid (Ou_14.out.below hb Lu_14.out)
  have Lu_15 := Lib.hid (Nat.le_trans Lu_14.out hsz)
  have Ov_15 := Lib.hid (Ov_14.out.below hb Lv_14.out)
  have Lv_15 := Lib.hid (Nat.le_trans Lv_14.out hsz)
  have Ox_14 := Lib.hid (Ox_13.out.below hb Lx_13.out)
  have Lx_14 := Lib.hid (Nat.le_trans Lx_13.out hsz)
  have Oy_13 := Lib.hid (Oy_12.out.below hb Ly_12.out)
  have Ly_13 := Lib.hid (Nat.le_trans Ly_12.out hsz)
  have Op_11 := Lib.hid (Op_10.out.below hb Lp_10.out)
  have Lp_11 := Lib.hid (Nat.le_trans Lp_10.out hsz)
  have Oq_10 := Lib.hid (Oq_9.out.below hb Lq_9.out)
  have Lq_10 := Lib.hid (Nat.le_trans Lq_9.out hsz)
  have Or_8 := Lib.hid (Or_7.out.below hb Lr_7.out)
  have Lr_8 := Lib.hid (Nat.le_trans Lr_7.out hsz)
  have Ol_2 := Lib.hid (Ol_1.out.below hb Ll_1.out)
  have Ll_2 := Lib.hid (Nat.le_trans Ll_1.out hsz)
  have Ok_1 := Lib.hid (Ok_0.out.below hb Lk_0.out)
  have Lk_1 := Lib.hid (Nat.le_trans Lk_0.out hsz)
  clear Ou_14 Lu_14 Ov_14 Lv_14 Ox_13 Lx_13 Oy_12 Ly_12 Op_10 Lp_10 Oq_9 Lq_9 Or_7 Lr_7 Ol_1 Ll_1 Ok_0 Lk_0 HB15 hb hsz
  clear e7 ht hdiv
  go_wp2
  go_ret
  exact ⟨rfl, HB16.out⟩

set_option maxRecDepth 100000 in
theorem lifted_FnPermGroup (os : Os) (started : os.Started) (H : Type) (enc : TypeId × Value → H) :
    ReturnsInHanded {} Try.checked os 7 .any (Rows.fnPermGroupSpec.pre6 enc Try.prog Try.f7 Rows.fnPermGroupRow.domain false) (Rows.fnPermGroupSpec.post enc Try.prog Try.f7 false true false false) := by
  refine returnsInHanded_of_change (C := Try.checked) own started (by kernel_rfl) Try.func7
    (ChangeSpec.witness6 (enc := enc) (C := Try.checked) false ⟨#[], #[.slice none 0 0], []⟩ 8 (by kernel_rfl) (by kernel_rfl) (by kernel_rfl) (by kernel_rfl)) ?_
  intro W base args ds gs before hval0 hW hcnd _
  have hval : ∀ (j : Nat) t v, Try.f7.params[j]? = some t → args[j]? = some v → Value.okWide Try.prog W .any base t v := hval0
  have hW' := hW
  obtain ⟨p, q, hA0, hV, rfl, hfz, hnd⟩ := hW
  have hA : DataW.TrodAll enc Try.prog W 0 (fun _ => true) true Try.f7.params.toList args.toList ds p := hA0
  rw [Try.params7] at hA hval
  obtain ⟨v0, vs0, d0, ds0, p0, q0, hargs, rfl, rfl, h0, r0⟩ := trodAll_cons hA
  obtain ⟨rfl, rfl, rfl⟩ := trodAll_nil r0
  obtain rfl : args = #[v0] := by cases args; simp_all
  obtain ⟨rfl, rfl⟩ := trodVars_none hV
  obtain ⟨b0, len0, cap0, rfl⟩ := okWide_slice Try.underlying31 (hval 0 31 v0 rfl rfl)
  have k0 := h0
  have lt0 : ∀ x ∈ p0, x.block < W.heap.size := by obtain ⟨m, hm⟩ := k0; exact DataW.trod_lt m _ _ _ hm
  obtain ⟨bs, s0⟩ := SB.of_trod h0
  clear hA0 hval0
  refine (walk_FnPermGroup b0 len0 cap0 bs W s0).mono fun e W' ⟨he, bel⟩ => ?_
  subst he
  exact ⟨_, rfl, _, _, _, [], _, [], hW', trodAll_mk1 (shut_bool Try.underlying4 _), (trodAll_cons_mk (Below.trod laidOut (by kernel_rfl) (of_decide_eq_true (by kernel_rfl)) k0 bel lt0) trodAll_mk0), rfl, bel.frame _, fun h => by cases h⟩

theorem fnPermGroup_holds : Rows.FnPermGroupSaid :=
  OpenClaim.holds_of_wide 7 Try.f7 rfl rfl rfl rfl rfl rfl rfl ⟨rfl, rfl, rfl, rfl, rfl⟩ rfl rfl rfl rfl rfl (by kernel_rfl) Try.func7 (by kernel_rfl)
    (of_decide_eq_true (by kernel_rfl)) (by unfold Func.isWrapper; first | (rw [if_pos (by decide +kernel)]; kernel_rfl) | (rw [if_neg (by decide +kernel)]; exact ⟨rfl, rfl⟩))
    (fun os started H enc _ => lifted_FnPermGroup os started H enc)

end Go.Proofs.Ytjegngkemdibcac
