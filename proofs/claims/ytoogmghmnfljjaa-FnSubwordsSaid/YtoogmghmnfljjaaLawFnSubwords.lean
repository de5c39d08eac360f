/-
  FnSubwords: for every input the law returns true: what comes of a part of a reduced word is below what comes of the whole. No conditions.
-/
import Derived.Test.YtoogmghmnfljjaaSubF
import Derived.Test.YtoogmghmnfljjaaInts
import Derived.Test.YtoogmghmnfljjaaImplH
import Derived.Test.YtoogmghmnfljjaaFrameB
namespace Go.Proofs.Ytoogmghmnfljjaa
open Go.ChangeShapes Go.WideShapes Go.ChangeAt Go.RowKit

set_option maxRecDepth 100000 in
set_option maxHeartbeats 8000000 in
theorem walk_FnSubwords (A : Option Addr) (n c : Nat) (bs : List Int) (w : World) (hs : SB w w.heap.size A n bs) :
    Calls Try.prog 14 #[.slice A n c] w fun e w' => e = .returned (.bool true) ∧ Below w.heap.size w w' := by
  by_cases hbig : 1048576 < n
  · have hbI : decide (1048576 < (n : Int)) = true := by simp; omega
    go_enter Try.func14, Try.ntmps14
    go_wp2_with fail
    refine (big_any A n c w).mono ?_
    rintro e w1 ⟨rfl, rfl⟩
    rw [hbI]
    go_wp2
    go_ret
    exact ⟨rfl, Below.refl _ _⟩
  have hbI : decide (1048576 < (n : Int)) = false := by simp; omega
  have HbI := Lib.hid hbI
  clear hbI
  have HS0 := Lib.hid hs
  clear hs
  go_enter Try.func14, Try.ntmps14
  go_wp2_with fail
  refine (big_any A n c w).mono ?_
  rintro e w0 ⟨rfl, rfl⟩
  rw [HbI.out]
  go_wp2_with fail
  refine (drawWordOf_any A n c bs w HS0.out (by omega)).mono ?_
  rintro e w1 ⟨us, ws, ms, A1, A2, A3, m, c1, n2, c2, n3, c3, rfl, hou, how, hpu, hm2, hm5, hwp, hup, h10, hb⟩
  have HB1 := Lib.hid hb
  have Ou_0 := Lib.hid hou
  have Lu_0 := Lib.hid (Nat.le_refl w1.heap.size)
  have Od_0 := Lib.hid how
  have Ld_0 := Lib.hid (Nat.le_refl w1.heap.size)
  have hl1 : us.length = m := hou.len
  have hl2 : ws.length = n2 := how.len
  have hn10 : n2 ≤ 10 := by omega
  have K := Lib.hid (And.intro hl1 (And.intro hl2 (And.intro hpu (And.intro hwp hup))))
  have HSB : Hid (SB w1 w.heap.size A n bs) := Lib.hid (HS0.out.below HB1.out (Nat.le_refl _))
  have hE0 := Own.empty w1
  have hb0 : Below w1.heap.size w1 (w1.alloc (.cells #[] 3)) := Below.alloc_self _ _
  have hsz : (w1.alloc (.cells #[] 3)).heap.size = w1.heap.size + 1 := by simp
  rw [← hsz] at hE0
  clear hou how hpu hwp hup hb hl1 hl2 h10
  go_wp2_with fail
  generalize (w1.alloc (.cells #[] 3)) = x0 at *
  have HE0 := Lib.hid hE0
  have HX0 := Lib.hid hb0
  clear hE0 hb0 hsz
  go_loopw [7, 8] (fun v i wr => ∃ (k p : Nat) (A' : Option Addr) (c' : Nat) (part : List Int), k ≤ n2 ∧ i = .int .i64 k ∧ v = .slice A' p c' ∧ Own wr w1.heap.size wr.heap.size A' p c' part ∧ PartP m ws part k ∧ Below w1.heap.size w1 wr)
    (fun _ i _ => n2 - (intOf i).toNat)
  case atStart => exact ⟨0, 0, _, _, [], Nat.zero_le _, rfl, rfl, HE0.out, PartP.zero _ _, HX0.out⟩
  case round =>
    obtain ⟨k, p, A', c', part, hk, rfl, rfl, hop, hP, hbel⟩ := hrel
    have HOP := Lib.hid hop
    have HPP := Lib.hid hP
    have HBE := Lib.hid hbel
    have hpl : p ≤ 10 := by have h1 := hop.len; have h2 := hP.1; omega
    clear HE0 HX0
    by_cases hlt : k < n2
    · have hlI : (k : Int) < (n2 : Int) := by omega
      have hsb := HSB.out.below hbel HB1.out.size
      have C := at0_any A n c k w.heap.size bs wr hsb (by omega) (by omega)
      have HC := Lib.hid C
      obtain ⟨b, o, eA, hb, hcw⟩ := (Od_0.out.si.below hbel (Nat.le_refl _)).at_ (by omega)
      have hc1 := hcw k hlt
      obtain ⟨y, hy⟩ : ∃ y, y = nth ws k := ⟨_, rfl⟩
      rw [← hy] at hc1
      have HY := Lib.hid hy
      subst eA
      clear hop hP hbel hsb C hcw hy
      go_wp2_with fail
      refine HC.out.mono ?_
      rintro e wb ⟨⟨x, rfl⟩, rfl⟩
      by_cases h3 : 0 < x.tmod 3
      · have hPT := PartP.take (by omega) HPP.out K.out.2.2.2.2 (by rw [K.out.2.1]; exact hlt)
        rw [← HY.out] at hPT
        have HPT := Lib.hid hPT
        clear hPT
        go_wp2_with (at_builtin; refine wpList_append1 rfl (.tmp 33) (.tmp 38) rfl w1.heap.size A' p c' part y rfl rfl HOP.out HBE.out.size (by omega) ?_; intro A3' c3' w3 ho3 hg3 hb3)
        go_roundw
        case rel => exact ⟨k + 1, p + 1, A3', c3', part ++ [y], by omega, by go_num, rfl, ho3, HPT.out, HBE.out.trans hb3⟩
        case measure => simp [intOf]; omega
      · have hPS := PartP.skip (by omega) HPP.out K.out.2.2.2.2 (by rw [K.out.2.1]; exact hlt)
        have HPS := Lib.hid hPS
        clear hPS
        go_wp2
        go_roundw
        case rel => exact ⟨k + 1, p, A', c', part, by omega, by go_num, rfl, HOP.out, HPS.out, HBE.out⟩
        case measure => simp [intOf]; omega
    · have hkn : k = n2 := by omega
      subst hkn
      obtain ⟨w2, rfl⟩ : ∃ wz : World, wz = wr := ⟨_, rfl⟩
      have hF := sub_facts K.out.2.2.2.1 K.out.2.2.2.2 (by rw [K.out.2.1]; exact hn10) hm5 (by rw [K.out.2.1]; exact HPP.out) K.out.2.2.1 K.out.1
      have HF := Lib.hid hF
      have hb : Below w1.heap.size w1 w2 := HBE.out
      have Op_0 : Hid (Own w2 w1.heap.size w2.heap.size A' p c' part) := HOP
      clear hop hP hbel hF
      have hsz := hb.size
      have HB2 := Lib.hid (HB1.out.trans (hb.mono HB1.out.size))
      have Ou_1 := Lib.hid (Ou_0.out.below hb Lu_0.out)
      have Lu_1 := Lib.hid (Nat.le_trans Lu_0.out hsz)
      have Od_1 := Lib.hid (Od_0.out.below hb Ld_0.out)
      have Ld_1 := Lib.hid (Nat.le_trans Ld_0.out hsz)
      clear Ou_0 Lu_0 Od_0 Ld_0 HB1 hb hsz
      have Lp_0 := Lib.hid (Nat.le_refl w2.heap.size)
      go_wp2_with fail
      refine (implWord_any (m : Int) _ _ _ part _ Op_0.out.si (by omega)).mono ?_
      rintro e w3 ⟨Aa, na, ca, rfl, ho, hb⟩
      have hsz := hb.size
      have HB3 := Lib.hid (HB2.out.trans (hb.mono HB2.out.size))
      have Ou_2 := Lib.hid (Ou_1.out.below hb Lu_1.out)
      have Lu_2 := Lib.hid (Nat.le_trans Lu_1.out hsz)
      have Od_2 := Lib.hid (Od_1.out.below hb Ld_1.out)
      have Ld_2 := Lib.hid (Nat.le_trans Ld_1.out hsz)
      have Op_1 := Lib.hid (Op_0.out.below hb Lp_0.out)
      have Lp_1 := Lib.hid (Nat.le_trans Lp_0.out hsz)
      have Oa_0 := Lib.hid ho
      have La_0 := Lib.hid (Nat.le_refl w3.heap.size)
      have Na := Lib.hid ho.len
      have Ga := Lib.hid HB2.out.size
      have Du_a : Hid (_ ≤ w2.heap.size) := Lu_1
      have Dd_a : Hid (_ ≤ w2.heap.size) := Ld_1
      have Dp_a : Hid (_ ≤ w2.heap.size) := Lp_0
      clear Ou_1 Lu_1 Od_1 Ld_1 Op_0 Lp_0 HB2 hb hsz ho
      obtain rfl : m = na := by have := Na.out; have := HF.out.2.2.1; omega
      go_wp2_with fail
      refine (implDemazure_any (m : Int) _ _ _ part _ Op_1.out.si (by omega)).mono ?_
      rintro e w4 ⟨Ab, nb, cb, rfl, ho, hb⟩
      have hsz := hb.size
      have HB4 := Lib.hid (HB3.out.trans (hb.mono HB3.out.size))
      have Ou_3 := Lib.hid (Ou_2.out.below hb Lu_2.out)
      have Lu_3 := Lib.hid (Nat.le_trans Lu_2.out hsz)
      have Od_3 := Lib.hid (Od_2.out.below hb Ld_2.out)
      have Ld_3 := Lib.hid (Nat.le_trans Ld_2.out hsz)
      have Op_2 := Lib.hid (Op_1.out.below hb Lp_1.out)
      have Lp_2 := Lib.hid (Nat.le_trans Lp_1.out hsz)
      have Oa_1 := Lib.hid (Oa_0.out.below hb La_0.out)
      have La_1 := Lib.hid (Nat.le_trans La_0.out hsz)
      have Ob_0 := Lib.hid ho
      have Lb_0 := Lib.hid (Nat.le_refl w4.heap.size)
      have Nb := Lib.hid ho.len
      have Gb := Lib.hid HB3.out.size
      have Du_b : Hid (_ ≤ w3.heap.size) := Lu_2
      have Dd_b : Hid (_ ≤ w3.heap.size) := Ld_2
      have Dp_b : Hid (_ ≤ w3.heap.size) := Lp_1
      have Da_b : Hid (_ ≤ w3.heap.size) := La_0
      clear Ou_2 Lu_2 Od_2 Ld_2 Op_1 Lp_1 Oa_0 La_0 HB3 hb hsz ho
      obtain rfl : m = nb := by have := Nb.out; have := HF.out.2.2.2.1; omega
      go_wp2_with fail
      refine (implWord_any (m : Int) _ _ _ ws _ Od_3.out.si (by omega)).mono ?_
      rintro e w5 ⟨Ax, nx, cx, rfl, ho, hb⟩
      rw [HF.out.1] at ho
      have hsz := hb.size
      have HB5 := Lib.hid (HB4.out.trans (hb.mono HB4.out.size))
      have Ou_4 := Lib.hid (Ou_3.out.below hb Lu_3.out)
      have Lu_4 := Lib.hid (Nat.le_trans Lu_3.out hsz)
      have Od_4 := Lib.hid (Od_3.out.below hb Ld_3.out)
      have Ld_4 := Lib.hid (Nat.le_trans Ld_3.out hsz)
      have Op_3 := Lib.hid (Op_2.out.below hb Lp_2.out)
      have Lp_3 := Lib.hid (Nat.le_trans Lp_2.out hsz)
      have Oa_2 := Lib.hid (Oa_1.out.below hb La_1.out)
      have La_2 := Lib.hid (Nat.le_trans La_1.out hsz)
      have Ob_1 := Lib.hid (Ob_0.out.below hb Lb_0.out)
      have Lb_1 := Lib.hid (Nat.le_trans Lb_0.out hsz)
      have Ox_0 := Lib.hid ho
      have Lx_0 := Lib.hid (Nat.le_refl w5.heap.size)
      have Nx := Lib.hid ho.len
      have Gx := Lib.hid HB4.out.size
      have Du_x : Hid (_ ≤ w4.heap.size) := Lu_3
      have Dd_x : Hid (_ ≤ w4.heap.size) := Ld_3
      have Dp_x : Hid (_ ≤ w4.heap.size) := Lp_2
      have Da_x : Hid (_ ≤ w4.heap.size) := La_1
      have Db_x : Hid (_ ≤ w4.heap.size) := Lb_0
      clear Ou_3 Lu_3 Od_3 Ld_3 Op_2 Lp_2 Oa_1 La_1 Ob_0 Lb_0 HB4 hb hsz ho
      obtain rfl : m = nx := by have := Nx.out; have := K.out.1; omega
      go_wp2_with fail
      refine (ints_any _ _ _ _ _ _ us us _ Ox_0.out.si Ou_4.out.si (by omega) (by omega)).mono ?_
      rintro e w6 ⟨rfl, hd⟩
      rw [eqL_self]
      have hb : Below w5.heap.size w5 w6 := hd.below _
      have hsz := hb.size
      have HB6 := Lib.hid (HB5.out.trans (hb.mono HB5.out.size))
      have Ou_5 := Lib.hid (Ou_4.out.below hb Lu_4.out)
      have Lu_5 := Lib.hid (Nat.le_trans Lu_4.out hsz)
      have Od_5 := Lib.hid (Od_4.out.below hb Ld_4.out)
      have Ld_5 := Lib.hid (Nat.le_trans Ld_4.out hsz)
      have Op_4 := Lib.hid (Op_3.out.below hb Lp_3.out)
      have Lp_4 := Lib.hid (Nat.le_trans Lp_3.out hsz)
      have Oa_3 := Lib.hid (Oa_2.out.below hb La_2.out)
      have La_3 := Lib.hid (Nat.le_trans La_2.out hsz)
      have Ob_2 := Lib.hid (Ob_1.out.below hb Lb_1.out)
      have Lb_2 := Lib.hid (Nat.le_trans Lb_1.out hsz)
      have Ox_1 := Lib.hid (Ox_0.out.below hb Lx_0.out)
      have Lx_1 := Lib.hid (Nat.le_trans Lx_0.out hsz)
      clear Ou_4 Lu_4 Od_4 Ld_4 Op_3 Lp_3 Oa_2 La_2 Ob_1 Lb_1 Ox_0 Lx_0 HB5 hb hsz hd
      go_wp2_with fail
      refine (implDemazure_any (m : Int) _ _ _ ws _ Od_5.out.si (by omega)).mono ?_
      rintro e w7 ⟨Ay, ny, cy, rfl, ho, hb⟩
      rw [HF.out.2.1] at ho
      have hsz := hb.size
      have HB7 := Lib.hid (HB6.out.trans (hb.mono HB6.out.size))
      have Ou_6 := Lib.hid (Ou_5.out.below hb Lu_5.out)
      have Lu_6 := Lib.hid (Nat.le_trans Lu_5.out hsz)
      have Od_6 := Lib.hid (Od_5.out.below hb Ld_5.out)
      have Ld_6 := Lib.hid (Nat.le_trans Ld_5.out hsz)
      have Op_5 := Lib.hid (Op_4.out.below hb Lp_4.out)
      have Lp_5 := Lib.hid (Nat.le_trans Lp_4.out hsz)
      have Oa_4 := Lib.hid (Oa_3.out.below hb La_3.out)
      have La_4 := Lib.hid (Nat.le_trans La_3.out hsz)
      have Ob_3 := Lib.hid (Ob_2.out.below hb Lb_2.out)
      have Lb_3 := Lib.hid (Nat.le_trans Lb_2.out hsz)
      have Ox_2 := Lib.hid (Ox_1.out.below hb Lx_1.out)
      have Lx_2 := Lib.hid (Nat.le_trans Lx_1.out hsz)
      have Oy_0 := Lib.hid ho
      have Ly_0 := Lib.hid (Nat.le_refl w7.heap.size)
      have Ny := Lib.hid ho.len
      have Gy := Lib.hid HB6.out.size
      have Du_y : Hid (_ ≤ w6.heap.size) := Lu_5
      have Dd_y : Hid (_ ≤ w6.heap.size) := Ld_5
      have Dp_y : Hid (_ ≤ w6.heap.size) := Lp_4
      have Da_y : Hid (_ ≤ w6.heap.size) := La_3
      have Db_y : Hid (_ ≤ w6.heap.size) := Lb_2
      have Dx_y : Hid (_ ≤ w6.heap.size) := Lx_1
      clear Ou_5 Lu_5 Od_5 Ld_5 Op_4 Lp_4 Oa_3 La_3 Ob_2 Lb_2 Ox_1 Lx_1 HB6 hb hsz ho
      obtain rfl : m = ny := by have := Ny.out; have := K.out.1; omega
      go_wp2_with fail
      refine (ints_any _ _ _ _ _ _ us us _ Oy_0.out.si Ou_6.out.si (by omega) (by omega)).mono ?_
      rintro e w8 ⟨rfl, hd⟩
      rw [eqL_self]
      have hb : Below w7.heap.size w7 w8 := hd.below _
      have hsz := hb.size
      have HB8 := Lib.hid (HB7.out.trans (hb.mono HB7.out.size))
      have Ou_7 := Lib.hid (Ou_6.out.below hb Lu_6.out)
      have Lu_7 := Lib.hid (Nat.le_trans Lu_6.out hsz)
      have Od_7 := Lib.hid (Od_6.out.below hb Ld_6.out)
      have Ld_7 := Lib.hid (Nat.le_trans Ld_6.out hsz)
      have Op_6 := Lib.hid (Op_5.out.below hb Lp_5.out)
      have Lp_6 := Lib.hid (Nat.le_trans Lp_5.out hsz)
      have Oa_5 := Lib.hid (Oa_4.out.below hb La_4.out)
      have La_5 := Lib.hid (Nat.le_trans La_4.out hsz)
      have Ob_4 := Lib.hid (Ob_3.out.below hb Lb_3.out)
      have Lb_4 := Lib.hid (Nat.le_trans Lb_3.out hsz)
      have Ox_3 := Lib.hid (Ox_2.out.below hb Lx_2.out)
      have Lx_3 := Lib.hid (Nat.le_trans Lx_2.out hsz)
      have Oy_1 := Lib.hid (Oy_0.out.below hb Ly_0.out)
      have Ly_1 := Lib.hid (Nat.le_trans Ly_0.out hsz)
      clear Ou_6 Lu_6 Od_6 Ld_6 Op_5 Lp_5 Oa_4 La_4 Ob_3 Lb_3 Ox_2 Lx_2 Oy_0 Ly_0 HB7 hb hsz hd
      go_wp2_with fail
      refine (implBelow_any _ _ _ _ _ _ (playPerm true (m : Int) part) us _ Oa_5.out.si Ou_7.out.si (by omega) (by omega)).mono ?_
      rintro e w9 ⟨rfl, hb⟩
      rw [HF.out.2.2.2.2.1]
      have hsz := hb.size
      have HB9 := Lib.hid (HB8.out.trans (hb.mono HB8.out.size))
      have Ou_8 := Lib.hid (Ou_7.out.below hb Lu_7.out)
      have Lu_8 := Lib.hid (Nat.le_trans Lu_7.out hsz)
      have Od_8 := Lib.hid (Od_7.out.below hb Ld_7.out)
      have Ld_8 := Lib.hid (Nat.le_trans Ld_7.out hsz)
      have Op_7 := Lib.hid (Op_6.out.below hb Lp_6.out)
      have Lp_7 := Lib.hid (Nat.le_trans Lp_6.out hsz)
      have Oa_6 := Lib.hid (Oa_5.out.below hb La_5.out)
      have La_6 := Lib.hid (Nat.le_trans La_5.out hsz)
      have Ob_5 := Lib.hid (Ob_4.out.below hb Lb_4.out)
      have Lb_5 := Lib.hid (Nat.le_trans Lb_4.out hsz)
      have Ox_4 := Lib.hid (Ox_3.out.below hb Lx_3.out)
      have Lx_4 := Lib.hid (Nat.le_trans Lx_3.out hsz)
      have Oy_2 := Lib.hid (Oy_1.out.below hb Ly_1.out)
      have Ly_2 := Lib.hid (Nat.le_trans Ly_1.out hsz)
      clear Ou_7 Lu_7 Od_7 Ld_7 Op_6 Lp_6 Oa_5 La_5 Ob_4 Lb_4 Ox_3 Lx_3 Oy_1 Ly_1 HB8 hb hsz
      go_wp2_with fail
      refine (implBelow_any _ _ _ _ _ _ (playPerm false (m : Int) part) us _ Ob_5.out.si Ou_8.out.si (by omega) (by omega)).mono ?_
      rintro e w10 ⟨rfl, hb⟩
      rw [HF.out.2.2.2.2.2.1]
      have hsz := hb.size
      have HB10 := Lib.hid (HB9.out.trans (hb.mono HB9.out.size))
      have Ou_9 := Lib.hid (Ou_8.out.below hb Lu_8.out)
      have Lu_9 := Lib.hid (Nat.le_trans Lu_8.out hsz)
      have Od_9 := Lib.hid (Od_8.out.below hb Ld_8.out)
      have Ld_9 := Lib.hid (Nat.le_trans Ld_8.out hsz)
      have Op_8 := Lib.hid (Op_7.out.below hb Lp_7.out)
      have Lp_8 := Lib.hid (Nat.le_trans Lp_7.out hsz)
      have Oa_7 := Lib.hid (Oa_6.out.below hb La_6.out)
      have La_7 := Lib.hid (Nat.le_trans La_6.out hsz)
      have Ob_6 := Lib.hid (Ob_5.out.below hb Lb_5.out)
      have Lb_6 := Lib.hid (Nat.le_trans Lb_5.out hsz)
      have Ox_5 := Lib.hid (Ox_4.out.below hb Lx_4.out)
      have Lx_5 := Lib.hid (Nat.le_trans Lx_4.out hsz)
      have Oy_3 := Lib.hid (Oy_2.out.below hb Ly_2.out)
      have Ly_3 := Lib.hid (Nat.le_trans Ly_2.out hsz)
      clear Ou_8 Lu_8 Od_8 Ld_8 Op_7 Lp_7 Oa_6 La_6 Ob_5 Lb_5 Ox_4 Lx_4 Oy_2 Ly_2 HB9 hb hsz
      go_wp2_with fail
      refine (implBelow_any _ _ _ _ _ _ (playPerm true (m : Int) part) (playPerm false (m : Int) part) _ Oa_7.out.si Ob_6.out.si (by omega) (by omega)).mono ?_
      rintro e w11 ⟨rfl, hb⟩
      rw [HF.out.2.2.2.2.2.2]
      have hsz := hb.size
      have HB11 := Lib.hid (HB10.out.trans (hb.mono HB10.out.size))
      have Ou_10 := Lib.hid (Ou_9.out.below hb Lu_9.out)
      have Lu_10 := Lib.hid (Nat.le_trans Lu_9.out hsz)
      have Od_10 := Lib.hid (Od_9.out.below hb Ld_9.out)
      have Ld_10 := Lib.hid (Nat.le_trans Ld_9.out hsz)
      have Op_9 := Lib.hid (Op_8.out.below hb Lp_8.out)
      have Lp_9 := Lib.hid (Nat.le_trans Lp_8.out hsz)
      have Oa_8 := Lib.hid (Oa_7.out.below hb La_7.out)
      have La_8 := Lib.hid (Nat.le_trans La_7.out hsz)
      have Ob_7 := Lib.hid (Ob_6.out.below hb Lb_6.out)
      have Lb_7 := Lib.hid (Nat.le_trans Lb_6.out hsz)
      have Ox_6 := Lib.hid (Ox_5.out.below hb Lx_5.out)
      have Lx_6 := Lib.hid (Nat.le_trans Lx_5.out hsz)
      have Oy_4 := Lib.hid (Oy_3.out.below hb Ly_3.out)
      have Ly_4 := Lib.hid (Nat.le_trans Ly_3.out hsz)
      clear Ou_9 Lu_9 Od_9 Ld_9 Op_8 Lp_8 Oa_7 La_7 Ob_6 Lb_6 Ox_5 Lx_5 Oy_3 Ly_3 HB10 hb hsz
      go_wp2
      go_ret
      exact ⟨rfl, HB11.out⟩

set_option maxRecDepth 100000 in
theorem lifted_FnSubwords (os : Os) (started : os.Started) (H : Type) (enc : TypeId × Value → H) :
    ReturnsInHanded {} Try.checked os 14 .any (Rows.fnSubwordsSpec.pre6 enc Try.prog Try.f14 Rows.fnSubwordsRow.domain false) (Rows.fnSubwordsSpec.post enc Try.prog Try.f14 false true false false) := by
  refine returnsInHanded_of_change (C := Try.checked) own started (by kernel_rfl) Try.func14
    (ChangeSpec.witness6 (enc := enc) (C := Try.checked) false ⟨#[], #[.slice none 0 0], []⟩ 8 (by kernel_rfl) (by kernel_rfl) (by kernel_rfl) (by kernel_rfl)) ?_
  intro W base args ds gs before hval0 hW hcnd _
  have hval : ∀ (j : Nat) t v, Try.f14.params[j]? = some t → args[j]? = some v → Value.okWide Try.prog W .any base t v := hval0
  have hW' := hW
  obtain ⟨p, q, hA0, hV, rfl, hfz, hnd⟩ := hW
  have hA : DataW.TrodAll enc Try.prog W 0 (fun _ => true) true Try.f14.params.toList args.toList ds p := hA0
  rw [Try.params14] at hA hval
  obtain ⟨v0, vs0, d0, ds0, p0, q0, hargs, rfl, rfl, h0, r0⟩ := trodAll_cons hA
  obtain ⟨rfl, rfl, rfl⟩ := trodAll_nil r0
  obtain rfl : args = #[v0] := by cases args; simp_all
  obtain ⟨rfl, rfl⟩ := trodVars_none hV
  obtain ⟨b0, len0, cap0, rfl⟩ := okWide_slice Try.underlying47 (hval 0 47 v0 rfl rfl)
  have k0 := h0
  have lt0 : ∀ x ∈ p0, x.block < W.heap.size := by obtain ⟨m, hm⟩ := k0; exact DataW.trod_lt m _ _ _ hm
  obtain ⟨bs, s0⟩ := SB.of_trod h0
  clear hA0 hval0
  refine (walk_FnSubwords b0 len0 cap0 bs W s0).mono fun e W' ⟨he, bel⟩ => ?_
  subst he
  exact ⟨_, rfl, _, _, _, [], _, [], hW', trodAll_mk1 (shut_bool Try.underlying4 _), (trodAll_cons_mk (Below.trod laidOut (by kernel_rfl) (of_decide_eq_true (by kernel_rfl)) k0 bel lt0) trodAll_mk0), rfl, bel.frame _, fun h => by cases h⟩

theorem fnSubwords_holds : Rows.FnSubwordsSaid :=
  OpenClaim.holds_of_wide 14 Try.f14 rfl rfl rfl rfl rfl rfl rfl ⟨rfl, rfl, rfl, rfl, rfl⟩ rfl rfl rfl rfl rfl (by kernel_rfl) Try.func14 (by kernel_rfl)
    (of_decide_eq_true (by kernel_rfl)) (by unfold Func.isWrapper; first | (rw [if_pos (by decide +kernel)]; kernel_rfl) | (rw [if_neg (by decide +kernel)]; exact ⟨rfl, rfl⟩))
    (fun os started H enc _ => lifted_FnSubwords os started H enc)

end Go.Proofs.Ytoogmghmnfljjaa
