/-
  The program's AllPerms. No conditions.
-/
import Derived.Test.YtfaegfhbbkicgaaApm
import Derived.Test.YtfaegfhbbkicgaaPocI
import Derived.Test.YtfaegfhbbkicgaaImplA
namespace Go.Proofs.Ytfaegfhbbkicgaa
open Go.RowKit

theorem countPerms_any (n : Nat) (w : World) (h : n ≤ 5) :
    Calls Try.prog 121 #[.int .i64 n] w fun e w' => e = .returned (.int .i64 (factN n : Nat)) ∧ w = w' := by
  go_enter Try.func121, Try.ntmps121
  go_wp2
  go_loopw [3, 6] (fun pv iv wr => ∃ k : Nat, k ≤ n ∧ iv = .int .i64 k ∧ pv = .int .i64 (factN k : Nat) ∧ w = wr)
    (fun _ iv _ => n - (intOf iv).toNat)
  case atStart => exact ⟨0, Nat.zero_le _, rfl, rfl, rfl⟩
  case round =>
    obtain ⟨k, hk, rfl, rfl, rfl⟩ := hrel
    by_cases hlt : k < n
    · have hkI : (k : Int) < (n : Int) := by omega
      have e : factN (k + 1) = (k + 1) * factN k := rfl
      have hb := fact120 (n := k + 1) (by omega)
      obtain ⟨f, hf⟩ : ∃ f, f = factN k := ⟨_, rfl⟩
      rw [← hf] at e ⊢
      rw [e] at hb
      have HE := Lib.hid e
      have hw1 : IntKind.i64.wrap ((k : Int) + 1) = ((k + 1 : Nat) : Int) := IntWalk.i64_in _ (by omega)
      have hw2 : IntKind.i64.wrap ((f : Int) * ((k + 1 : Nat) : Int)) = (((k + 1) * f : Nat) : Int) := by
        rw [← Int.natCast_mul, Nat.mul_comm]; exact IntWalk.i64_in _ (by omega)
      obtain ⟨q, hq⟩ : ∃ q, q = (k + 1) * f := ⟨_, rfl⟩
      rw [← hq] at hw2 HE
      have hfk : (f : Int) * ((k : Int) + 1) = (q : Int) := by rw [hq, Int.natCast_mul, Int.mul_comm]; rfl
      have HW2 : Hid (wrap64 ((f : Int) * ((k : Int) + 1)) = (q : Int)) := Lib.hid (by rw [hfk]; unfold wrap64; omega)
      clear hfk
      clear e hb hf hq hw2
      go_wp2
      go_roundw
      case rel => exact ⟨k + 1, by omega, by go_num, by rw [HE.out]; exact congrArg (Value.int IntKind.i64) HW2.out, by trivial⟩
      case measure => simp [intOf]; omega
    · have hkI : ¬ (k : Int) < (n : Int) := by omega
      obtain rfl : k = n := by omega
      go_wp2
      go_ret
      exact ⟨rfl, rfl⟩
set_option maxHeartbeats 1000000 in
theorem permAt_any (n i : Nat) (w : World) (h1 : 1 ≤ n) (h5 : n ≤ 5) (hi : i ≤ 120) :
    Calls Try.prog 122 #[.int .i64 n, .int .i64 i] w fun e w' => e = .returned (arr (fillA (apm n i) n)) ∧ Below w.heap.size w w' := by
  obtain ⟨w1, hw1⟩ : ∃ w1, w1 = w.alloc (.cells zeroC 120) := ⟨_, rfl⟩
  obtain ⟨g, hg⟩ : ∃ g, g = w.heap.size := ⟨_, rfl⟩
  have HK : Hid (Blk w1 g 120 zeroC) := Lib.hid (by rw [hw1, hg]; exact Blk.new w _ _)
  have HB1 : Hid (Below w.heap.size w w1) := Lib.hid (by rw [hw1]; exact Below.alloc_self _ _)
  have HZ1 : Hid (w1.heap.size = g + 1) := Lib.hid (by rw [hw1, hg]; simp)
  have HW := Lib.hid hw1
  have HG := Lib.hid hg
  have HN := Lib.hid (And.intro h1 h5)
  clear hw1 hg
  have hwn : IntKind.i64.wrap ((n : Int) - 1) = (n : Int) - 1 := IntWalk.i64_in _ (by omega)
  go_enter Try.func122, Try.ntmps122
  go_upto_region 1 with fail
  rw [← HW.out, ← HG.out]
  go_wp2_with (at_make; refine wpList_make_zero rfl (.tmp 9) (.tmp 9) rfl n rfl rfl (by omega) ?_; intro w2 ho2 hb2; have HO2 := Lib.hid ho2; have HB2 := Lib.hid hb2; clear ho2 hb2)
  obtain ⟨B, hB⟩ : ∃ B, B = w1.heap.size := ⟨_, rfl⟩
  rw [← hB] at HO2 HB2 ⊢
  have HBE : Hid (B = g + 1 ∧ B + 1 ≤ w2.heap.size) := Lib.hid ⟨by rw [hB]; exact HZ1.out, by have := (HO2.out.lt B rfl).2; omega⟩
  have HO3 : Hid (Own w2 B (B + 1) (some ⟨B, 0, none⟩) n n (List.replicate n 0)) := Lib.hid ⟨HO2.out.1, fun k hk => by simp [Value.ownBlock] at hk; omega⟩
  have HBB : Hid (Below B w1 w2) := HB2
  have HD : Hid (dgt n n i (List.replicate n 0) = codeAt n i) := Lib.hid rfl
  clear hB HO2 HB2
  go_loopw [1, 6] (fun rv jv wx => ∃ (k r : Nat) (j x : Int) (l : List Int), k ≤ n ∧ j = (k : Int) - 1 ∧ jv = .int .i64 j ∧ rv = .int .i64 x ∧ x = (r : Int) ∧ r ≤ 120 ∧ l.length = n ∧ dgt n k r l = codeAt n i ∧ Own wx B (B + 1) (some ⟨B, 0, none⟩) n n l ∧ Below B w1 wx ∧ B + 1 ≤ wx.heap.size)
    (fun _ jv _ => (intOf jv + 1).toNat)
  case atStart => exact ⟨n, i, _, _, _, Nat.le_refl _, rfl, rfl, rfl, rfl, hi, by simp, HD.out, HO3.out, HBB.out, HBE.out.2⟩
  case round =>
    obtain ⟨k, r, j, x, l, hk, hj, rfl, rfl, hx, hr, hl, hd, hown, hbw, hz⟩ := hrel
    have HDk := Lib.hid hd
    have HOk := Lib.hid hown
    have HBk := Lib.hid hbw
    have HZk := Lib.hid hz
    have HLk := Lib.hid hl
    clear hd hbw hz HD HO3 HBB hl
    by_cases hk0 : k = 0
    · subst hk0
      have hj0 : ¬ (0 : Int) ≤ j := by omega
      have hj1 : ¬ j ≥ 0 := hj0
      have HX := Lib.hid (show Own wr B (B + 1) (some ⟨B, 0, none⟩) n n (codeAt n i) from by have h := HDk.out; rw [dgt] at h; rw [← h]; exact HOk.out)
      have HPO := Lib.hid (implPoc_any (some ⟨B, 0, none⟩) n n (codeAt n i) wr HX.out.si (by omega))
      have HPB := Lib.hid (isPermB_true (apm_P (i := i) HN.out.1 (show n ≤ 7 by have := HN.out.2; omega)))
      have HPL := Lib.hid (apm_len (i := i) HN.out.1 (show n ≤ 7 by have := HN.out.2; omega))
      rw [show pocPerm (codeAt n i) = apm n i from rfl] at HPO
      clear hj hown HDk HOk
      go_wp2_with (first
        | (go_at_call 179; (with_reducible refine HPO.out.mono ?_); rintro e w3 ⟨A3, n3, c3, rfl, ho3, hb3⟩
           obtain rfl : n3 = n := by rw [← ho3.len]; exact HPL.out
           have HO3 := Lib.hid ho3
           have HB3 : Hid (Below B w1 w3) := Lib.hid (HBk.out.trans (hb3.mono (by have := HZk.out; omega)))
           have HS3 : Hid (B + 1 ≤ w3.heap.size) := Lib.hid (Nat.le_trans HZk.out hb3.size)
           clear ho3 hb3)
        | (go_at_call 114; (with_reducible refine (arrayOf_yes c3 HO3.out.si (by omega) HPB.out).mono ?_); rintro e w4 ⟨rfl, hb4⟩
           have HB4 : Hid (Below B w1 w4) := Lib.hid (HB3.out.trans (hb4.mono (by have := HS3.out; omega)))
           have HS4 : Hid (B + 1 ≤ w4.heap.size) := Lib.hid (Nat.le_trans HS3.out hb4.size)
           have HKN := Lib.hid (Blk.new w4 120 (arrC (fillA (apm n3 i) n3)))
           have HB5 : Hid (Below B w1 (w4.alloc (.cells (arrC (fillA (apm n3 i) n3)) 120))) := Lib.hid (HB4.out.trans ((Below.refl _ _).alloc (by have := HS4.out; omega) _))
           have HS5 : Hid (w1.heap.size ≤ (w4.alloc (.cells (arrC (fillA (apm n3 i) n3)) 120)).heap.size) := Lib.hid HB5.out.size
           clear hb4)
        | (refine wpList_load_blk rfl 120 (.tmp 7) rfl w4.heap.size rfl 120 (arrC (fillA (apm n3 i) n3)) 7 3 HKN.out Try.undArr Try.infoArr ?_)
        | (refine wpList_store_blk rfl 120 (.tmp 4) (.tmp 36) rfl g (arrC (fillA (apm n3 i) n3)) rfl rfl 120 zeroC (HK.out.below HB5.out (by have := HBE.out.1; omega)) Try.infoArr rfl (by simp [Value.oneCell']) ?_; intro w6 hb6 hg6)
        | fail)
      refine bodyPost_ret (results_blk Try.results122 _ _ _ _ _ 7 3 rfl hb6 Try.undArr Try.infoArr) rfl ?_
      have l1 := HBE.out
      have l2 := HG.out
      have l3 := HB1.out.size
      exact ⟨rfl, (HB1.out.trans (HB5.out.mono (by omega))).grown hg6 (by have := HS5.out; omega) (by rintro q ⟨⟩; omega)⟩
    · obtain ⟨m, rfl⟩ : ∃ m, k = m + 1 := ⟨k - 1, by omega⟩
      obtain rfl : j = (m : Int) := by omega
      have hmI : (m : Int) < (n : Int) := by omega
      have h0 : (0 : Int) ≤ (m : Int) := by omega
      have h0' : (m : Int) ≥ 0 := h0
      obtain ⟨d, hd⟩ : ∃ d : Int, d = (n : Int) - (m : Int) := ⟨_, rfl⟩
      have hdn : d = ((n - m : Nat) : Int) := by omega
      have hw1 : IntKind.i64.wrap ((n : Int) - (m : Int)) = d := by rw [hd]; exact IntWalk.i64_in _ (by omega)
      have hd0 : ¬ d = 0 := by omega
      have hqr : r / (n - m) ≤ r := Nat.div_le_self _ _
      have htr : r % (n - m) ≤ r := Nat.mod_le _ _
      obtain ⟨q, hq⟩ : ∃ q : Int, q = ((r / (n - m) : Nat) : Int) := ⟨_, rfl⟩
      obtain ⟨t, ht⟩ : ∃ t : Int, t = ((r % (n - m) : Nat) : Int) := ⟨_, rfl⟩
      have hqb : 0 ≤ q ∧ q ≤ 120 := by rw [hq]; exact ⟨Int.natCast_nonneg _, by exact_mod_cast Nat.le_trans hqr hr⟩
      have htb : 0 ≤ t ∧ t ≤ 120 := by rw [ht]; exact ⟨Int.natCast_nonneg _, by exact_mod_cast Nat.le_trans htr hr⟩
      have hq1 : x.tdiv d = q := by rw [hq, hx, hdn]; exact Int.tdiv_eq_ediv_of_nonneg (by omega)
      have ht1 : x.tmod d = t := by rw [ht, hx, hdn]; exact Int.tmod_eq_emod_of_nonneg (by omega)
      have hw2 : IntKind.i64.wrap q = q := IntWalk.i64_in _ (by omega)
      have hw3 : IntKind.i64.wrap t = t := IntWalk.i64_in _ (by omega)
      have hw4 : IntKind.i64.wrap ((m : Int) - 1) = (m : Int) - 1 := IntWalk.i64_in _ (by omega)
      have hcc := hown.cellAt (k := m) (by omega)
      have hff := hown.frozenAt m
      have HSET := Lib.hid (hown.set_ (k := m) t).1
      have HDN : Hid (dgt n m (r / (n - m)) (l.set m t) = codeAt n i) := Lib.hid (by have h := HDk.out; rw [dgt] at h; rw [ht]; exact h)
      have HQ := Lib.hid (And.intro hq (show r / (n - m) ≤ 120 from Nat.le_trans hqr hr))
      have HM := Lib.hid (show m ≤ n by omega)
      clear hown hq ht hqr htr hqb htb hd hdn hx hj HDk HOk
      go_wp2
      go_roundw
      case rel => exact ⟨m, r / (n - m), _, _, _, HM.out, rfl, rfl, rfl, HQ.out.1, HQ.out.2, by simp [HLk.out], HDN.out, HSET.out, HBk.out.setCell (Nat.le_refl _) _, by simpa using HZk.out⟩
      case measure => simp [intOf]
set_option maxHeartbeats 1000000 in
theorem implAllPerms_any (a : Int) (w : World) :
    Calls Try.prog 55 #[.int .i64 a] w fun e w' => FreshL w w' e (allP a) := by
  by_cases hu : 1 ≤ a ∧ a ≤ 5
  · obtain ⟨n, rfl⟩ : ∃ n : Nat, a = n := ⟨a.toNat, by omega⟩
    rw [allP_yes (by omega) (by omega)]
    have HN := Lib.hid (show 1 ≤ n ∧ n ≤ 5 by omega)
    have h1 : ¬ ((n : Int) < 1) := by omega
    have h2 : ¬ ((n : Int) > 5) := by omega
    have HCT := Lib.hid (fun w => countPerms_any n w HN.out.2)
    have HPA := Lib.hid (fun (i : Nat) (hi : i ≤ 120) w => permAt_any n i w HN.out.1 HN.out.2 hi)
    have HF5 := Lib.hid (fact120 HN.out.2)
    have HLI := Lib.hid (fun (i : Nat) w => list_any (fillA (apm n i) n) n w (fillA_len _ _) (show n ≤ 7 by have := HN.out.2; omega))
    obtain ⟨F, hF⟩ : ∃ F, F = factN n := ⟨_, rfl⟩
    rw [← hF] at HCT HF5 ⊢
    clear hF hu
    go_enter Try.func55, Try.ntmps55
    go_wp2_with (go_at_call 121; (with_reducible refine (HCT.out _).mono ?_); rintro e w1 ⟨rfl, rfl⟩)
    go_loopw [3, 13] (fun sv iv wr => ∃ (i : Nat) (A : Option Addr) (c : Nat) (E : Nat → Sv), i ≤ F ∧ iv = .int .i64 i ∧ sv = .slice A i c ∧ OwnLE E wr w.heap.size wr.heap.size A i c (permL n i) ∧ Below w.heap.size w wr)
      (fun _ iv _ => F - (intOf iv).toNat)
    case atStart => exact ⟨0, none, 0, fun _ => (none, 0, 0), Nat.zero_le _, rfl, rfl, OwnLE.nil _ _ _ _, Below.refl _ _⟩
    case round =>
      obtain ⟨i, A, c, E, hi, rfl, rfl, hE, hbw⟩ := hrel
      have HE := Lib.hid hE
      have HB := Lib.hid hbw
      clear hE hbw
      by_cases hlt : i < F
      · have hiI : (i : Int) < (F : Int) := by omega
        have hi120 : i ≤ 120 := by have := HF5.out; omega
        go_wp2_with (first
          | (go_at_call 122; (with_reducible refine (HPA.out i hi120 _).mono ?_); rintro e w1 ⟨rfl, hb1⟩; have HB1 := Lib.hid hb1; clear hb1)
          | (go_at_call 117; (with_reducible refine (HLI.out i _).mono ?_); rintro e w2 ⟨A3, n3, c3, rfl, ho3, hb3⟩
             rw [apm_fill HN.out.1 (show n ≤ 7 by have := HN.out.2; omega)] at ho3
             have HO3 := Lib.hid ho3
             have HB2 : Hid (Below wr.heap.size wr w2) := Lib.hid (HB1.out.trans (hb3.mono HB1.out.size))
             have HS2 : Hid (wr.heap.size ≤ w1.heap.size ∧ w1.heap.size ≤ w2.heap.size ∧ w.heap.size ≤ wr.heap.size) := Lib.hid ⟨HB1.out.size, hb3.size, HB.out.size⟩
             clear ho3 hb3)
          | (at_builtin; refine wpList_appendLE rfl (.tmp 16) (.tmp 22) rfl w.heap.size wr.heap.size A i c (permL n i) w1.heap.size w2.heap.size A3 n3 c3 (apm n i) rfl rfl (HE.out.below HB2.out (Nat.le_refl _)) HO3.out (by have := HS2.out; omega) (HE.out.apart_hi HO3.out HS2.out.1) (Nat.le_refl _) HB2.out.size (by have := HS2.out; omega) (by omega) ?_
             intro A4 c4 w4 he4 hat4 hg4 hb4
             have HE4 := Lib.hid he4
             have HB4 : Hid (Below w.heap.size w w4) := Lib.hid ((HB.out.trans (HB2.out.mono HB.out.size)).trans hb4)
             clear he4 hat4 hg4 hb4))
        go_roundw
        case rel => exact ⟨i + 1, A4, c4, _, by omega, by go_num, rfl, HE4.out, HB4.out⟩
        case measure => simp [intOf]; omega
      · have hiI : ¬ (i : Int) < (F : Int) := by omega
        obtain rfl : i = F := by omega
        go_wp2
        go_ret
        exact ⟨A, i, c, rfl, ⟨E, HE.out⟩, HB.out⟩
  · rw [allP_no hu]
    by_cases h1 : a < 1
    · clear hu
      go_enter Try.func55, Try.ntmps55
      go_wp2_with fail
      go_ret
      exact FreshL.nil_ret (Below.refl _ _)
    · have h2 : a > 5 := by omega
      clear hu
      go_enter Try.func55, Try.ntmps55
      go_wp2_with fail
      go_ret
      exact FreshL.nil_ret (Below.refl _ _)
end Go.Proofs.Ytfaegfhbbkicgaa
