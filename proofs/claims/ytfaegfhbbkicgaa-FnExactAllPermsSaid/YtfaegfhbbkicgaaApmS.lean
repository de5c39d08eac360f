/-
  The document's AllPerms. No conditions.
-/
import Derived.Test.YtfaegfhbbkicgaaApm
import Derived.Test.YtfaegfhbbkicgaaDecode
import Derived.Test.YtfaegfhbbkicgaaSpecA
namespace Go.Proofs.Ytfaegfhbbkicgaa
open Go.RowKit

set_option maxHeartbeats 2000000 in
theorem l8Perms_any (n : Nat) (w : World) (h1 : 1 ≤ n) (h5 : n ≤ 5) :
    Calls Try.prog 120 #[.int .i64 n] w fun e w' => FreshL w w' e (permL n (factN n)) := by
  have HN := Lib.hid (And.intro h1 h5)
  have HCT := Lib.hid (fun w => l1Factorial_any n w (by omega))
  have HF5 := Lib.hid (fact120 h5)
  have hwn : IntKind.i64.wrap ((n : Int) - 1) = (n : Int) - 1 := IntWalk.i64_in _ (by omega)
  obtain ⟨F, hF⟩ : ∃ F, F = factN n := ⟨_, rfl⟩
  rw [← hF] at HCT HF5 ⊢
  clear hF
  go_enter Try.func120, Try.ntmps120
  go_upto_region 2 with fail
  obtain ⟨w1, hw1⟩ : ∃ w1, w1 = w.alloc (.cells #[] 22) := ⟨_, rfl⟩
  have HE1 : Hid (OwnLE (fun _ => (none, 0, 0)) w1 w.heap.size w1.heap.size (some ⟨w.heap.size, 0, none⟩) 0 0 []) := Lib.hid (by rw [hw1]; exact OwnLE.empty _ w (Nat.le_refl _))
  have HB1 : Hid (Below w.heap.size w w1) := Lib.hid (by rw [hw1]; exact Below.alloc_self _ _)
  rw [← hw1]
  clear hw1
  go_wp2_with fail
  go_loopw [3, 4] (fun sv iv wr => ∃ (i : Nat) (A : Option Addr) (c : Nat) (E : Nat → Sv), i ≤ F ∧ iv = .int .i64 i ∧ sv = .slice A i c ∧ OwnLE E wr w.heap.size wr.heap.size A i c (permL n i) ∧ Below w.heap.size w wr)
    (fun _ iv _ => F - (intOf iv).toNat)
  case atStart => exact ⟨0, _, 0, _, Nat.zero_le _, rfl, rfl, HE1.out, HB1.out⟩
  case round =>
    obtain ⟨i, A, c, E, hi, rfl, rfl, hE, hbw⟩ := hrel
    have HE := Lib.hid hE
    have HB := Lib.hid hbw
    clear hE hbw HE1 HB1
    by_cases hlt : i < F
    · have hiI : (i : Int) < (F : Int) := by omega
      have hi120 : i ≤ 120 := by have := HF5.out; omega
      go_wp2_with (first
        | (go_at_call 177; (with_reducible refine (HCT.out _).mono ?_); rintro e w1 ⟨rfl, rfl⟩)
        | (at_make; refine wpList_make_zero rfl (.tmp 15) (.tmp 15) rfl n rfl rfl (by omega) ?_; intro w2 ho2 hb2; have HO2 := Lib.hid ho2; have HB2 := Lib.hid hb2; clear ho2 hb2))
      obtain ⟨wo, hwo⟩ : ∃ wo : World, wo = wr := ⟨_, rfl⟩
      obtain ⟨B, hB⟩ : ∃ B, B = wr.heap.size := ⟨_, rfl⟩
      rw [← hB] at HO2 HB2 HE ⊢
      have HBZ := Lib.hid hB
      have HO3 : Hid (Own w2 B (B + 1) (some ⟨B, 0, none⟩) n n (List.replicate n 0)) := Lib.hid ⟨HO2.out.1, fun k hk => by simp [Value.ownBlock] at hk; omega⟩
      have HZ3 : Hid (B + 1 ≤ w2.heap.size) := Lib.hid (by have := (HO2.out.lt B rfl).2; omega)
      have HD : Hid (dgt n n i (List.replicate n 0) = codeAt n i) := Lib.hid rfl
      rw [← hwo] at HE HB2 HB HBZ
      clear hB HO2 hwo
      go_loopw [6, 7] (fun rv jv wx => ∃ (k r : Nat) (j x : Int) (l : List Int), k ≤ n ∧ j = (k : Int) - 1 ∧ jv = .int .i64 j ∧ rv = .int .i64 x ∧ x = (r : Int) ∧ r ≤ 120 ∧ l.length = n ∧ dgt n k r l = codeAt n i ∧ Own wx B (B + 1) (some ⟨B, 0, none⟩) n n l ∧ Below B wo wx ∧ B + 1 ≤ wx.heap.size)
        (fun _ jv _ => (intOf jv + 1).toNat)
      case atStart => exact ⟨n, i, _, _, _, Nat.le_refl _, rfl, rfl, rfl, rfl, hi120, by simp, HD.out, HO3.out, HB2.out, HZ3.out⟩
      case round =>
        obtain ⟨k, r, j, x, l, hk, hj, rfl, rfl, hx, hr, hl, hd, hown, hbw, hz⟩ := hrel
        have HDk := Lib.hid hd
        have HOk := Lib.hid hown
        have HBk := Lib.hid hbw
        have HZk := Lib.hid hz
        have HLk := Lib.hid hl
        clear hd hbw hz HD HO3 HB2 HZ3 hl
        by_cases hk0 : k = 0
        · subst hk0
          have hj0 : ¬ (0 : Int) ≤ j := by omega
          have hj1 : ¬ j ≥ 0 := hj0
          obtain ⟨wz, hwz⟩ : ∃ wz : World, wz = wr := ⟨_, rfl⟩
          have HX := Lib.hid (show Own wr B (B + 1) (some ⟨B, 0, none⟩) n n (codeAt n i) from by have h := HDk.out; rw [dgt] at h; rw [← h]; exact HOk.out)
          have HPO := Lib.hid (l1Decode_any (some ⟨B, 0, none⟩) n n (codeAt n i) wr HX.out.si (by omega) (codeAt_ok n i))
          clear hj hx hown HDk HOk hwz
          go_wp2_with (first
            | (go_at_call 178; (with_reducible refine HPO.out.mono ?_); rintro e w3 ⟨ys, ⟨A3, n3, c3, rfl, ho3, hb3⟩, hdp⟩
               obtain rfl : ys = apm n i := by rw [apm_dec HN.out.1 (show n ≤ 7 by have := HN.out.2; omega)]; exact decL_uniq hdp
               have HO3 := Lib.hid ho3
               have HB3 : Hid (Below B wo w3) := Lib.hid (HBk.out.trans (hb3.mono (by have := HZk.out; omega)))
               have HS3 : Hid (B ≤ wr.heap.size ∧ wr.heap.size ≤ w3.heap.size ∧ w.heap.size ≤ B) := Lib.hid ⟨by have := HZk.out; omega, hb3.size, by have := HB.out.size; have := HBZ.out; omega⟩
               clear ho3 hb3 hdp)
            | (at_builtin; refine wpList_appendLE rfl (.tmp 37) (.tmp 40) rfl w.heap.size B A i c (permL n i) wr.heap.size w3.heap.size A3 n3 c3 (apm n i) rfl rfl (HE.out.below HB3.out (Nat.le_refl _)) HO3.out (by have := HS3.out; omega) (HE.out.apart_hi HO3.out HS3.out.1) (Nat.le_refl _) (by have := HS3.out; omega) (by have := HS3.out; omega) (by omega) ?_
               intro A4 c4 w4 he4 hat4 hg4 hb4
               have HE4 := Lib.hid he4
               have HB4 : Hid (Below w.heap.size w w4) := Lib.hid ((HB.out.trans (HB3.out.mono (by have := HS3.out; omega))).trans hb4)
               clear he4 hat4 hg4 hb4))
          go_roundw
          case rel => exact ⟨i + 1, A4, c4, _, by omega, by go_num, rfl, HE4.out, HB4.out⟩
          case measure => simp [intOf]; omega
        · obtain ⟨m, rfl⟩ : ∃ m, k = m + 1 := ⟨k - 1, by omega⟩
          obtain rfl : j = (m : Int) := by omega
          have hmI : (m : Int) < (n : Int) := by omega
          have h0 : (0 : Int) ≤ (m : Int) := by omega
          have h0' : (m : Int) ≥ 0 := h0
          obtain ⟨d, hd⟩ : ∃ d : Int, d = (n : Int) - (m : Int) := ⟨_, rfl⟩
          have hdn : d = ((n - m : Nat) : Int) := by omega
          have hw1 : IntKind.i64.wrap ((n : Int) - (m : Int)) = d := by rw [hd]; exact IntWalk.i64_in _ (by omega)
          have hd0 : ¬ d = 0 := by omega
          have hqr : r / (n - m) ≤ r := Nat.div_le_self _ _
          have htr : r % (n - m) ≤ r := Nat.mod_le _ _
          obtain ⟨q, hq⟩ : ∃ q : Int, q = ((r / (n - m) : Nat) : Int) := ⟨_, rfl⟩
          obtain ⟨t, ht⟩ : ∃ t : Int, t = ((r % (n - m) : Nat) : Int) := ⟨_, rfl⟩
          have hqb : 0 ≤ q ∧ q ≤ 120 := by rw [hq]; exact ⟨Int.natCast_nonneg _, by exact_mod_cast Nat.le_trans hqr hr⟩
          have htb : 0 ≤ t ∧ t ≤ 120 := by rw [ht]; exact ⟨Int.natCast_nonneg _, by exact_mod_cast Nat.le_trans htr hr⟩
          have hq1 : x.tdiv d = q := by rw [hq, hx, hdn]; exact Int.tdiv_eq_ediv_of_nonneg (by omega)
          have ht1 : x.tmod d = t := by rw [ht, hx, hdn]; exact Int.tmod_eq_emod_of_nonneg (by omega)
          have hw2 : IntKind.i64.wrap q = q := IntWalk.i64_in _ (by omega)
          have hw3 : IntKind.i64.wrap t = t := IntWalk.i64_in _ (by omega)
          have hw4 : IntKind.i64.wrap ((m : Int) - 1) = (m : Int) - 1 := IntWalk.i64_in _ (by omega)
          have hcc := hown.cellAt (k := m) (by omega)
          have hff := hown.frozenAt m
          have HSET := Lib.hid (hown.set_ (k := m) t).1
          have HDN : Hid (dgt n m (r / (n - m)) (l.set m t) = codeAt n i) := Lib.hid (by have h := HDk.out; rw [dgt] at h; rw [ht]; exact h)
          have HQ := Lib.hid (And.intro hq (show r / (n - m) ≤ 120 from Nat.le_trans hqr hr))
          have HM := Lib.hid (show m ≤ n by omega)
          clear hown hq ht hqr htr hqb htb hd hdn hx hj HDk HOk
          go_wp2
          go_roundw
          case rel => exact ⟨m, r / (n - m), _, _, _, HM.out, rfl, rfl, rfl, HQ.out.1, HQ.out.2, by simp [HLk.out], HDN.out, HSET.out, HBk.out.setCell (Nat.le_refl _) _, by simpa using HZk.out⟩
          case measure => simp [intOf]
    · have hiI : ¬ (i : Int) < (F : Int) := by omega
      obtain rfl : i = F := by omega
      go_wp2_with (go_at_call 177; (with_reducible refine (HCT.out _).mono ?_); rintro e w1 ⟨rfl, rfl⟩)
      go_ret
      exact ⟨A, i, c, rfl, ⟨E, HE.out⟩, HB.out⟩
theorem specAllPerms_any (a : Int) (w : World) :
    Calls Try.prog 54 #[.int .i64 a] w fun e w' => FreshL w w' e (allP a) := by
  by_cases hu : 1 ≤ a ∧ a ≤ 5
  · have H1 := Lib.hid (fun w => l1In_yes' hu.1 hu.2 w)
    obtain ⟨n, rfl⟩ : ∃ n : Nat, a = n := ⟨a.toNat, by omega⟩
    rw [allP_yes (by omega) (by omega)]
    have HS := Lib.hid (l8Perms_any n w (by omega) (by omega))
    generalize permL n (factN n) = L at HS ⊢
    clear hu
    go_enter Try.func54, Try.ntmps54
    go_wp2_with (first
      | (go_at_call 82; (with_reducible refine (H1.out _).mono ?_); rintro e w1 ⟨rfl, rfl⟩)
      | (go_at_call 120; (with_reducible refine HS.out.mono ?_); rintro e w3 ⟨A3, n3, c3, rfl, ho3, hb3⟩; have HO3 := Lib.hid ho3; have HB3 := Lib.hid hb3; clear ho3 hb3))
    go_ret
    exact ⟨A3, n3, c3, rfl, HO3.out, HB3.out⟩
  · rw [allP_no hu]
    have H1 := Lib.hid (fun w => l1In_no' (a := a) (lo := 1) (hi := 5) (by omega) w)
    clear hu
    go_enter Try.func54, Try.ntmps54
    go_wp2_with (go_at_call 82; (with_reducible refine (H1.out _).mono ?_); rintro e w1 ⟨rfl, rfl⟩)
    go_ret
    exact FreshL.nil_ret (Below.refl _ _)
end Go.Proofs.Ytfaegfhbbkicgaa
