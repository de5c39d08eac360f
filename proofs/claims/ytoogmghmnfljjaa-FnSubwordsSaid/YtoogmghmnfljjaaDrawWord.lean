/-
  A permutation with a reduced word of it and any word: the draws. Conditions: at most 2^20 bytes.
-/
import Derived.Test.YtoogmghmnfljjaaDrawTwo
import Derived.Test.YtoogmghmnfljjaaSub5
namespace Go.Proofs.Ytoogmghmnfljjaa
open Go.RowKit

set_option maxRecDepth 100000 in
set_option maxHeartbeats 4000000 in
theorem dReducedR_any (g n c : Nat) (A : Option Addr) (xs : List Int) (w : World) (hc : Cu w g) (hs : SI w A n xs) (hp : isPermP xs) (h5 : n ≤ 5) (hnc : n ≤ c) :
    Calls Try.prog 90 #[.pointer (some ⟨g, 0, none⟩), .slice A n c] w fun e w' => ∃ ys, FreshG g w w' e ys ∧ wordP (n : Int) ys ∧ upTo (idL n) ys xs ∧ ys.length ≤ 10 := by
  have hgl := hc.lt
  have HL0 := Lib.hid hs.1
  have h10 : lenL xs ≤ 10 := len_small hp (by have := hs.1; omega)
  have H10 := Lib.hid h10
  have HP0 := Lib.hid hp
  clear h10 hp
  go_enter Try.func90, Try.ntmps90
  go_wp2_with fail
  refine (l1Ints_any A n c xs _ (hs.alloc _) (by omega)).mono ?_
  rintro e w1 ⟨A1, n1, c1, rfl, ho1, hb1⟩
  have en : n1 = n := by have := ho1.len; have := HL0.out; omega
  subst en
  have HE1 := Lib.hid (((Own.empty w).below hb1 (by simp)).wide (Nat.le_refl _) (Nat.le_trans (by simp) hb1.size))
  have HO1 : Hid (Own w1 w.heap.size w1.heap.size A1 n1 c1 xs) := Lib.hid (ho1.wide (by simp) (Nat.le_refl _))
  have HG1 : Hid (w.grownBy w1 (some g)) := Lib.hid (grown_below (World.grownBy_alloc w _ _) (hb1.mono (by simp)))
  have HC1 : Hid (Cu w1 g) := Lib.hid ((hc.below (Below.alloc_self w _) hgl).below hb1 (by simp; omega))
  clear ho1 hb1 hc hs
  go_wp2
  go_loopw [5, 6] (fun o5 v wr => ∃ (m : Nat) (A c : _) (out : List Int) (A' : Option Addr) (c' : Nat) (vs : List Int), o5 = .slice A m c ∧ v = .slice A' n1 c' ∧ Own wr w.heap.size wr.heap.size A m c out ∧ Own wr w.heap.size wr.heap.size A' n1 c' vs ∧
      isPermP vs ∧ lenL vs + m = lenL xs ∧ (∀ j, j < m → 0 ≤ nth out j ∧ nth out j ≤ (n1 : Int) - 2) ∧ upTo vs out xs ∧ Cu wr g ∧ w.grownBy wr (some g))
    (fun o5 _ _ => match o5 with | .slice _ m _ => 20 - m | _ => 0)
  case atStart => exact ⟨0, _, _, [], _, _, xs, rfl, rfl, HE1.out, HO1.out, HP0.out, by simp, fun j hj => absurd hj (by omega), rfl, HC1.out, HG1.out⟩
  case round =>
    obtain ⟨m, A2, c2, out, A3, c3, vs, rfl, rfl, ho2, ho3, hpv, hlen, hent, hup, hcu, hg⟩ := hrel
    have HUP := Lib.hid hup
    clear hup
    have hlb := lenL_bounds (xs := vs) (by have := ho3.len; omega)
    have hm10 : m ≤ 10 := by have := H10.out; omega
    have hcap := ho3.cap
    have HO2 := Lib.hid ho2
    have HO3 := Lib.hid ho3
    have HPV := Lib.hid hpv
    have HLen := Lib.hid hlen
    have HEnt := Lib.hid hent
    have HC := Lib.hid hcu
    have HG := Lib.hid hg
    obtain ⟨hl0, hl49⟩ := hlb
    clear ho2 ho3 hpv hlen hent hcu hg HE1 HO1 HG1 HC1
    go_wp2_with fail
    refine (l1Length_any A3 n1 c3 vs wr HO3.out.si (by omega)).mono ?_
    rintro e w2 ⟨rfl, hb2⟩
    obtain ⟨q, hq⟩ : ∃ q, q = lenL vs := ⟨_, rfl⟩
    rw [← hq] at hl0 hl49 ⊢
    have HQ := Lib.hid hq
    clear hq
    have HO2b := Lib.hid ((HO2.out.below hb2 (Nat.le_refl _)).wide (Nat.le_refl _) hb2.size)
    have HO3b := Lib.hid ((HO3.out.below hb2 (Nat.le_refl _)).wide (Nat.le_refl _) hb2.size)
    have HCb := Lib.hid (HC.out.below hb2 HC.out.lt)
    have HGb := Lib.hid (grown_below HG.out (hb2.mono HG.out.size))
    clear hb2 HO2 HO3 HC HG
    by_cases hpos : 0 < q
    · have hpB := isPermB_true HPV.out
      have HPB := Lib.hid hpB
      clear hpB
      go_wp2_with fail
      refine (specDescents_any A3 n1 c3 vs w2 HO3b.out.si hcap (by omega)).mono ?_
      rintro e w3 ⟨A4, n4, c4, rfl, ho4, hb4⟩
      rw [descPerm_yes HPB.out] at ho4
      have hn4 : 1 ≤ n4 := by
        have := has_descent HPV.out (by have := HO3b.out.len; omega) (by have := HQ.out; omega)
        have := ho4.len
        omega
      have hn4' : n4 ≤ 5 := by
        have h1 := ho4.len
        have h2 := descL_len vs (vs.length - 1)
        have := HO3b.out.len
        omega
      have HO2c := Lib.hid ((HO2b.out.below hb4 (Nat.le_refl _)).wide (Nat.le_refl _) hb4.size)
      have HO3c := Lib.hid ((HO3b.out.below hb4 (Nat.le_refl _)).wide (Nat.le_refl _) hb4.size)
      have HCc := Lib.hid (HCb.out.below hb4 HCb.out.lt)
      have HGc := Lib.hid (grown_below HGb.out (hb4.mono HGb.out.size))
      have HO4 : Hid (Own w3 w.heap.size w3.heap.size A4 n4 c4 (descL vs (vs.length - 1))) := Lib.hid (ho4.wide HGb.out.size (Nat.le_refl _))
      clear ho4 hb4 HO2b HO3b HCb HGb
      go_wp2_with fail
      refine (l1Below_any g (n4 : Int) w3 HCc.out (by omega)).mono ?_
      rintro e w4 ⟨x, hx0, hx1, -, rfl, hc4, hg4⟩
      have hx2 := hx1 (by omega)
      obtain ⟨j, rfl⟩ : ∃ j : Nat, x = (j : Int) := ⟨x.toNat, by omega⟩
      have hj : j < n4 := by omega
      have HO2d : Hid (Own w4 w.heap.size w4.heap.size A2 m c2 out) := Lib.hid ((HO2c.out.grown hg4 (by rintro k0 ⟨⟩; exact .inl hgl)).wide (Nat.le_refl _) hg4.size)
      have HO3d : Hid (Own w4 w.heap.size w4.heap.size A3 n1 c3 vs) := Lib.hid ((HO3c.out.grown hg4 (by rintro k0 ⟨⟩; exact .inl hgl)).wide (Nat.le_refl _) hg4.size)
      have ho4d : Own w4 w.heap.size w4.heap.size A4 n4 c4 (descL vs (vs.length - 1)) := (HO4.out.grown hg4 (by rintro k0 ⟨⟩; exact .inl hgl)).wide (Nat.le_refl _) hg4.size
      have HCd := Lib.hid hc4
      have HGd := Lib.hid (grown_trans HGc.out hg4)
      obtain ⟨g4, rfl, _, _⟩ := ho4d.place (by omega)
      have hcell := ho4d.cellAt hj
      obtain ⟨k, hk1, hk2, hk3⟩ := descL_mem vs (vs.length - 1) j (by have := ho4d.len; omega)
      rw [hk2] at hcell
      have hkn : k + 1 < n1 := by have := HO3d.out.len; omega
      have HK3 := Lib.hid hk3
      have hjI : (j : Int) < (n4 : Int) := by omega
      clear hx1 hx2 hx0 hc4 hg4 ho4d hk1 hk2 hk3 HO2c HO3c HCc HGc HO4
      have hsw : Calls Try.prog 109 #[.slice A3 n1 c3, .int .i64 k, .int .i64 ((k : Int) + 1)] w4 (fun e w' => Fresh w4 w' e (swapL vs k (k + 1))) :=
        l1Swap_any A3 n1 c3 k (k + 1) vs w4 HO3d.out.si (by omega) (by omega) (by omega) (by omega)
      have HSW := Lib.hid hsw
      clear hsw
      go_wp2_with fail
      refine HSW.out.mono ?_
      rintro e w5 ⟨A5, n5, c5, rfl, ho5, hb5⟩
      have en5 : n5 = n1 := by have := ho5.len; rw [swapL_len] at this; have := HO3d.out.len; omega
      subst en5
      have ho2e := (HO2d.out.below hb5 (Nat.le_refl _)).wide (Nat.le_refl _) hb5.size
      have HO5 : Hid (Own w5 w.heap.size w5.heap.size A5 n5 c5 (swapL vs k (k + 1))) := Lib.hid (ho5.wide HGd.out.size (Nat.le_refl _))
      have HCe := Lib.hid (HCd.out.below hb5 HCd.out.lt)
      have HGe := Lib.hid (grown_below HGd.out (hb5.mono HGd.out.size))
      have HSI2 : Hid (SI (w5.alloc (.cells #[.int .i64 k] 3)) A2 m out) := Lib.hid ((ho2e.below (Below.alloc_self w5 _) (Nat.le_refl _)).si)
      have hol := ho2e.len
      clear ho2e ho5 hb5
      go_wp2_with (at_builtin; refine wpList_append_all rfl (.tmp 30) (.tmp 31) rfl w5.heap.size (some ⟨w5.heap.size, 0, none⟩) 1 1 [(k : Int)] A2 m c2 out rfl rfl ((Own.single w5 k).wide (Nat.le_refl _) (by simp)) HSI2.out (by simp) (by omega) (by omega) ?_; intro A' c' w6 ho6 hg6 hb6)
      have hb6' : Below w5.heap.size w5 w6 := (Below.alloc_self w5 _).trans hb6
      go_roundw
      case rel =>
        have e1 := HPV.out
        have e2 := HK3.out
        have e3 := HLen.out
        have hvl : vs.length = n5 := by have := HO3d.out.len; omega
        have hsd := swap_down e1 (by omega) (i := k) (by omega) e2
        refine ⟨1 + m, A', c', [(k : Int)] ++ out, A5, c5, swapL vs k (k + 1), rfl, rfl, ho6.wide HGe.out.size (Nat.le_refl _), (HO5.out.below hb6' (Nat.le_refl _)).wide (Nat.le_refl _) hb6'.size, swap_perm e1 (by omega) (by omega), by omega, fun t ht => ?_, ⟨k, rfl, by rw [swapL_len]; omega, by rw [swapL_nth (by omega) (by omega) (by omega), swapL_nth (by omega) (by omega) (by omega), if_neg (by omega), if_pos rfl, if_pos rfl]; exact e2, by rw [swapL_swapL (by omega) (by omega) (by omega)]; exact HUP.out⟩, HCe.out.below hb6' HCe.out.lt, grown_below HGe.out (hb6'.mono HGe.out.size)⟩
        rw [List.singleton_append]
        cases t with
        | zero => rw [nth_cons_zero]; omega
        | succ t => rw [nth_cons_succ]; exact HEnt.out t (by omega)
      case measure => simp; omega
    · go_wp2
      go_ret
      refine ⟨out, ⟨A2, m, c2, rfl, HO2b.out, HCb.out, HGb.out⟩, ?_⟩
      have hol := HO2b.out.len
      have hp1 := HP0.out.1
      have hL := HL0.out
      have hv0 : vs = idL n1 := by
        have := len0_id HPV.out (by have := HO3b.out.len; omega) (by have := HQ.out; omega)
        rw [HO3b.out.len] at this; exact this
      have hup := HUP.out
      rw [hv0] at hup
      exact ⟨⟨by omega, by omega, by omega, by rw [hol]; exact HEnt.out⟩, hup, by omega⟩


set_option maxHeartbeats 1000000 in
theorem dWord_any (g m : Nat) (w : World) (hc : Cu w g) (h2 : 2 ≤ m) (h7 : m ≤ 7) :
    Calls Try.prog 95 #[.pointer (some ⟨g, 0, none⟩), .int .i64 m, .int .i64 8] w fun e w' => ∃ ys, FreshG g w w' e ys := by
  have hgl := hc.lt
  have hc0 := hc.below (Below.alloc_self w (.cells #[] 3)) hgl
  have hO0 := (Own.empty w).wide (lo' := w.heap.size) (hi' := (w.alloc (.cells #[] 3)).heap.size) (Nat.le_refl _) (by simp)
  have hG0 := World.grownBy_alloc w (.cells #[] 3) (some g)
  have hm1 : (1 : Int) < (m : Int) := by omega
  go_enter Try.func95, Try.ntmps95
  go_wp2_with fail
  generalize w.alloc (.cells #[] 3) = w0 at *
  refine (l1Below_any g 9 w0 hc0 (by omega)).mono ?_
  rintro e w1 ⟨x, hx0, hx1, -, rfl, hc1, hg1⟩
  have hx2 := hx1 (by omega)
  obtain ⟨q, rfl⟩ : ∃ j : Nat, x = (j : Int) := ⟨x.toNat, by omega⟩
  have hq9 : q < 9 := by omega
  have HO1 : Hid (Own w1 w.heap.size w1.heap.size (some ⟨w.heap.size, 0, none⟩) 0 0 []) := Lib.hid ((hO0.grown hg1 (by rintro k0 ⟨⟩; exact .inl hgl)).wide (Nat.le_refl _) hg1.size)
  have HC1 := Lib.hid hc1
  have HG1 : Hid (w.grownBy w1 (some g)) := Lib.hid (grown_trans hG0 hg1)
  clear hx0 hx1 hx2 hc1 hg1 hO0 hG0 hc0 hc
  go_wp2
  go_loopw [7, 9] (fun v i wr => ∃ (k : Nat) (A : Option Addr) (c : Nat) (cs : List Int), k ≤ q ∧ i = .int .i64 k ∧ v = .slice A k c ∧ Own wr w.heap.size wr.heap.size A k c cs ∧ Cu wr g ∧ w.grownBy wr (some g))
    (fun _ i _ => q - (intOf i).toNat)
  case atStart => exact ⟨0, _, _, [], Nat.zero_le _, rfl, rfl, HO1.out, HC1.out, HG1.out⟩
  case round =>
    obtain ⟨k, A0, c0, cs, hk, rfl, rfl, hown, hcu, hg⟩ := hrel
    have HO := Lib.hid hown
    have HC := Lib.hid hcu
    have HG := Lib.hid hg
    clear hown hcu hg HO1 HC1 HG1
    by_cases hlt : k < q
    · have hlI : (k : Int) < (q : Int) := by omega
      go_wp2_with fail
      refine (l1Below_any g ((m : Int) - 1) wr HC.out (by omega)).mono ?_
      rintro e w2 ⟨x, hx0, hx1, -, rfl, hc1, hg1⟩
      have HO1 : Hid (Own w2 w.heap.size w2.heap.size A0 k c0 cs) := Lib.hid ((HO.out.grown hg1 (by rintro k0 ⟨⟩; exact .inl hgl)).wide (Nat.le_refl _) hg1.size)
      have HC1 := Lib.hid hc1
      have HG1 := Lib.hid (grown_trans HG.out hg1)
      clear hx1 hc1 hg1
      go_wp2_with (at_builtin; refine wpList_append1 rfl (.tmp 24) (.tmp 29) rfl w.heap.size A0 k c0 cs x rfl rfl HO1.out HG1.out.size (by omega) ?_; intro A' c' w3 ho3 hg3 hb3)
      go_roundw
      case rel => exact ⟨k + 1, _, _, cs ++ [x], by omega, by go_num, rfl, ho3, HC1.out.below hb3 hgl, grown_below HG1.out hb3⟩
      case measure => simp [intOf]; omega
    · have hkm : k = q := by omega
      subst hkm
      go_wp2
      go_ret
      exact ⟨cs, A0, k, c0, rfl, HO.out, HC.out, HG.out⟩

set_option maxRecDepth 100000 in
set_option maxHeartbeats 2000000 in
theorem drawWordOf_any (A : Option Addr) (n c : Nat) (bs : List Int) (w : World) (hs : SB w w.heap.size A n bs) (hn : n ≤ 1048576) :
    Calls Try.prog 54 #[.slice A n c] w fun e w' => ∃ (us ws ms : List Int) (A1 A2 A3 : Option Addr) (m c1 n2 c2 n3 c3 : Nat), e = .returned (.tuple #[.slice A1 m c1, .slice A2 n2 c2, .slice A3 n3 c3]) ∧
      Own w' w.heap.size w'.heap.size A1 m c1 us ∧ Own w' w.heap.size w'.heap.size A2 n2 c2 ws ∧ isPermP us ∧ 2 ≤ m ∧ m ≤ 5 ∧ wordP (m : Int) ws ∧ upTo (idL m) ws us ∧ ws.length ≤ 10 ∧ Below w.heap.size w w' := by
  go_enter Try.func54, Try.ntmps54
  go_wp2_with fail
  refine (l1New_any A n c bs w hs hn).mono ?_
  rintro e w1 ⟨rfl, hc1, hb1⟩
  obtain ⟨g, hg⟩ : ∃ g, g = w.heap.size := ⟨_, rfl⟩
  rw [← hg] at hc1 ⊢
  have hgle : w.heap.size ≤ g := by omega
  have HGl := Lib.hid hg
  have HB1 := Lib.hid hb1
  have hgl := hc1.lt
  clear hg hb1 hs
  go_wp2_with fail
  refine (l1Below_any g 4 w1 hc1 (by omega)).mono ?_
  rintro e w2 ⟨x, hx0, hx1, -, rfl, hc2, hg2⟩
  have hx2 := hx1 (by omega)
  obtain ⟨x', rfl⟩ : ∃ j : Nat, x = (j : Int) := ⟨x.toNat, by omega⟩
  obtain ⟨m, hm⟩ : ∃ m : Nat, m = x' + 2 := ⟨_, rfl⟩
  have hm1 : 2 ≤ m := by omega
  have hm5 : m ≤ 5 := by omega
  have hmI : (2 : Int) + (x' : Int) = (m : Int) := by omega
  have hmI2 : (x' : Int) + 2 = (m : Int) := by omega
  have HB2 := Lib.hid (belowG HB1.out hg2 hgle HB1.out.size)
  have hs2 := hg2.size
  clear hx1 hx2 hx0 hc1 hm
  go_wp2_with fail
  refine (dPerm_any g m w2 hc2 (by omega) (by omega)).mono ?_
  rintro e w3 ⟨us, ⟨A3, n3, c3, rfl, ho3, hc3, hg3⟩, hpu, hlu⟩
  have en3 : n3 = m := by have := ho3.len; omega
  subst en3
  have HU3 : Hid (Own w3 w1.heap.size w3.heap.size A3 n3 c3 us) := Lib.hid (ho3.wide hs2 (Nat.le_refl _))
  have HB3 := Lib.hid (belowG HB2.out hg3 hgle HB2.out.size)
  have HPU := Lib.hid hpu
  have hcap3 := ho3.cap
  have HZ3 := Lib.hid (Nat.le_trans hs2 hg3.size)
  have HHG := Lib.hid hmI
  clear ho3 hg3 hg2 hs2 hc2 hpu hlu hmI2
  go_wp2_with fail
  refine (dReducedR_any g n3 c3 A3 us w3 hc3 HU3.out.si HPU.out hm5 hcap3).mono ?_
  rintro e w4 ⟨ws, ⟨A4, n4, c4, rfl, ho4, hc4, hg4⟩, hwp, hup, h10⟩
  have HU4 := Lib.hid (HU3.out.gk hg4 hgl)
  have HB4 := Lib.hid (belowG HB3.out hg4 hgle HB3.out.size)
  have HZ4 := Lib.hid (Nat.le_trans HZ3.out hg4.size)
  have HW4 : Hid (Own w4 w1.heap.size w4.heap.size A4 n4 c4 ws) := Lib.hid (ho4.wide HZ3.out (Nat.le_refl _))
  have HX := Lib.hid (And.intro hwp (And.intro hup h10))
  clear ho4 hg4 hc3 HU3 HZ3 hwp hup h10
  go_wp2_with fail
  refine (dWord_any g n3 w4 hc4 hm1 (by omega)).mono ?_
  rintro e w5 ⟨ms, A5, n5, c5, rfl, ho5, hc5, hg5⟩
  have HU5 := Lib.hid (HU4.out.gk hg5 hgl)
  have HW5 := Lib.hid (HW4.out.gk hg5 hgl)
  have HB5 := Lib.hid (belowG HB4.out hg5 hgle HB4.out.size)
  have HZ1 := Lib.hid HB1.out.size
  clear ho5 hg5 hc4 hc5 HU4 HW4
  go_wp2
  go_ret3
  exact ⟨us, ws, ms, A3, A4, A5, n3, c3, n4, c4, n5, c5, rfl, HU5.out.wide HZ1.out (Nat.le_refl _), HW5.out.wide HZ1.out (Nat.le_refl _), HPU.out, hm1, hm5, HX.out.1, HX.out.2.1, HX.out.2.2, HB5.out⟩
end Go.Proofs.Ytoogmghmnfljjaa
