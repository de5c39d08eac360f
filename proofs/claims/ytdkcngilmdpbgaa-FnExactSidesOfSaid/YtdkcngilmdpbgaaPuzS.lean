/-
  What the document asks of a puzzle. Conditions: lengths below 2^40.
-/
import Derived.Test.YtdkcngilmdpbgaaPuz
namespace Go.Proofs.Ytdkcngilmdpbgaa
open Go.RowKit

set_option maxHeartbeats 1600000 in
theorem l5Place_at {i j : Int} (r k a : Nat) (hi : i = (r : Int)) (hj : j = (k : Int)) (ha : a = tri r + k) (w : World) (hr : r ≤ 8) (hk : k ≤ 100) :
    Calls Try.prog 118 #[.int .i64 i, .int .i64 j] w fun e w' => e = .returned (.int .i64 a) ∧ w = w' := by
  subst hi hj ha
  have h : r = 0 ∨ r = 1 ∨ r = 2 ∨ r = 3 ∨ r = 4 ∨ r = 5 ∨ r = 6 ∨ r = 7 ∨ r = 8 := by omega
  clear hr
  rcases h with rfl | rfl | rfl | rfl | rfl | rfl | rfl | rfl | rfl
  · have hw : IntKind.i64.wrap ((0 : Int) + (k : Int)) = (k : Int) := by rw [Int.zero_add]; exact IntWalk.i64_in _ (by omega)
    have hw2 : IntKind.i64.wrap (k : Int) = (k : Int) := IntWalk.i64_in _ (by omega)
    have HE : Hid (((tri 0 + k : Nat) : Int) = (k : Int)) := Lib.hid (by have : tri 0 = 0 := rfl; omega)
    go_enter Try.func118, Try.ntmps118
    go_wp2
    go_ret
    exact ⟨ret_int (by rw [HE.out]), rfl⟩
  · have hw : IntKind.i64.wrap ((1 : Int) + (k : Int)) = (1 : Int) + (k : Int) := IntWalk.i64_in _ (by omega)
    have hw2 : IntKind.i64.wrap (k : Int) = (k : Int) := IntWalk.i64_in _ (by omega)
    have HE : Hid (((tri 1 + k : Nat) : Int) = 1 + (k : Int)) := Lib.hid (by have : tri 1 = 1 := rfl; omega)
    go_enter Try.func118, Try.ntmps118
    go_wp2
    go_ret
    exact ⟨ret_int (by rw [HE.out]), rfl⟩
  · have hw : IntKind.i64.wrap ((3 : Int) + (k : Int)) = (3 : Int) + (k : Int) := IntWalk.i64_in _ (by omega)
    have hw2 : IntKind.i64.wrap (k : Int) = (k : Int) := IntWalk.i64_in _ (by omega)
    have HE : Hid (((tri 2 + k : Nat) : Int) = 3 + (k : Int)) := Lib.hid (by have : tri 2 = 3 := rfl; omega)
    go_enter Try.func118, Try.ntmps118
    go_wp2
    go_ret
    exact ⟨ret_int (by rw [HE.out]), rfl⟩
  · have hw : IntKind.i64.wrap ((6 : Int) + (k : Int)) = (6 : Int) + (k : Int) := IntWalk.i64_in _ (by omega)
    have hw2 : IntKind.i64.wrap (k : Int) = (k : Int) := IntWalk.i64_in _ (by omega)
    have HE : Hid (((tri 3 + k : Nat) : Int) = 6 + (k : Int)) := Lib.hid (by have : tri 3 = 6 := rfl; omega)
    go_enter Try.func118, Try.ntmps118
    go_wp2
    go_ret
    exact ⟨ret_int (by rw [HE.out]), rfl⟩
  · have hw : IntKind.i64.wrap ((10 : Int) + (k : Int)) = (10 : Int) + (k : Int) := IntWalk.i64_in _ (by omega)
    have hw2 : IntKind.i64.wrap (k : Int) = (k : Int) := IntWalk.i64_in _ (by omega)
    have HE : Hid (((tri 4 + k : Nat) : Int) = 10 + (k : Int)) := Lib.hid (by have : tri 4 = 10 := rfl; omega)
    go_enter Try.func118, Try.ntmps118
    go_wp2
    go_ret
    exact ⟨ret_int (by rw [HE.out]), rfl⟩
  · have hw : IntKind.i64.wrap ((15 : Int) + (k : Int)) = (15 : Int) + (k : Int) := IntWalk.i64_in _ (by omega)
    have hw2 : IntKind.i64.wrap (k : Int) = (k : Int) := IntWalk.i64_in _ (by omega)
    have HE : Hid (((tri 5 + k : Nat) : Int) = 15 + (k : Int)) := Lib.hid (by have : tri 5 = 15 := rfl; omega)
    go_enter Try.func118, Try.ntmps118
    go_wp2
    go_ret
    exact ⟨ret_int (by rw [HE.out]), rfl⟩
  · have hw : IntKind.i64.wrap ((21 : Int) + (k : Int)) = (21 : Int) + (k : Int) := IntWalk.i64_in _ (by omega)
    have hw2 : IntKind.i64.wrap (k : Int) = (k : Int) := IntWalk.i64_in _ (by omega)
    have HE : Hid (((tri 6 + k : Nat) : Int) = 21 + (k : Int)) := Lib.hid (by have : tri 6 = 21 := rfl; omega)
    go_enter Try.func118, Try.ntmps118
    go_wp2
    go_ret
    exact ⟨ret_int (by rw [HE.out]), rfl⟩
  · have hw : IntKind.i64.wrap ((28 : Int) + (k : Int)) = (28 : Int) + (k : Int) := IntWalk.i64_in _ (by omega)
    have hw2 : IntKind.i64.wrap (k : Int) = (k : Int) := IntWalk.i64_in _ (by omega)
    have HE : Hid (((tri 7 + k : Nat) : Int) = 28 + (k : Int)) := Lib.hid (by have : tri 7 = 28 := rfl; omega)
    go_enter Try.func118, Try.ntmps118
    go_wp2
    go_ret
    exact ⟨ret_int (by rw [HE.out]), rfl⟩
  · have hw : IntKind.i64.wrap ((36 : Int) + (k : Int)) = (36 : Int) + (k : Int) := IntWalk.i64_in _ (by omega)
    have hw2 : IntKind.i64.wrap (k : Int) = (k : Int) := IntWalk.i64_in _ (by omega)
    have HE : Hid (((tri 8 + k : Nat) : Int) = 36 + (k : Int)) := Lib.hid (by have : tri 8 = 36 := rfl; omega)
    go_enter Try.func118, Try.ntmps118
    go_wp2
    go_ret
    exact ⟨ret_int (by rw [HE.out]), rfl⟩
set_option maxHeartbeats 1600000 in
theorem l5Up_any (l r : Int) (wt : Bool) (w : World) (hl : 0 ≤ l ∧ l ≤ 2) (hr : 0 ≤ r ∧ r ≤ 2) :
    Calls Try.prog 134 #[.int .i64 l, .int .i64 r, .bool wt] w fun e w' => e = .returned (.int .i64 (upF l r wt)) ∧ w = w' := by
  have h1 : l = 0 ∨ l = 1 ∨ l = 2 := by omega
  have h2 : r = 0 ∨ r = 1 ∨ r = 2 := by omega
  clear hl hr
  rcases h1 with rfl | rfl | rfl <;> rcases h2 with rfl | rfl | rfl <;> cases wt <;>
    (go_enter Try.func134, Try.ntmps134
     go_wp2
     go_ret
     exact ⟨ret_int (by decide), rfl⟩)
set_option maxHeartbeats 1600000 in
theorem l5Down_any (l t : Int) (w : World) (hl : 0 ≤ l ∧ l ≤ 2) (ht : 0 ≤ t ∧ t ≤ 3) :
    Calls Try.prog 135 #[.int .i64 l, .int .i64 t] w fun e w' => e = .returned (.int .i64 (dnF l t)) ∧ w = w' := by
  have h1 : l = 0 ∨ l = 1 ∨ l = 2 := by omega
  have h2 : t = 0 ∨ t = 1 ∨ t = 2 ∨ t = 3 := by omega
  clear hl ht
  rcases h1 with rfl | rfl | rfl <;> rcases h2 with rfl | rfl | rfl | rfl <;>
    (go_enter Try.func135, Try.ntmps135
     go_wp2
     go_ret
     exact ⟨ret_int (by decide), rfl⟩)
theorem l5Up_d (l r : Int) (wt : Bool) (w : World) (hl : 0 ≤ l ∧ l ≤ 2) (hr : 0 ≤ r ∧ r ≤ 2) :
    Calls Try.prog 134 #[.int .i64 l, .int .i64 r, .bool wt] w fun e w' => e = .returned (.int .i64 (upF l r wt)) ∧ Drawn w w' :=
  (l5Up_any l r wt w hl hr).mono fun _ _ ⟨he, hw⟩ => ⟨he, hw ▸ Drawn.refl _⟩
theorem l5Down_d (l t : Int) (w : World) (hl : 0 ≤ l ∧ l ≤ 2) (ht : 0 ≤ t ∧ t ≤ 3) :
    Calls Try.prog 135 #[.int .i64 l, .int .i64 t] w fun e w' => e = .returned (.int .i64 (dnF l t)) ∧ Drawn w w' :=
  (l5Down_any l t w hl ht).mono fun _ _ ⟨he, hw⟩ => ⟨he, hw ▸ Drawn.refl _⟩
theorem l5Place_d {i j : Int} (r k a : Nat) (hi : i = (r : Int)) (hj : j = (k : Int)) (ha : a = tri r + k) (w : World) (hr : r ≤ 8) (hk : k ≤ 100) :
    Calls Try.prog 118 #[.int .i64 i, .int .i64 j] w fun e w' => e = .returned (.int .i64 a) ∧ Drawn w w' :=
  (l5Place_at r k a hi hj ha w hr hk).mono fun _ _ ⟨he, hw⟩ => ⟨he, hw ▸ Drawn.refl _⟩
theorem tri_half {m : Nat} (h : m ≤ 8) : IntKind.i64.wrap ((m : Int) + 1) = (m : Int) + 1 ∧ IntKind.i64.wrap ((m : Int) * ((m : Int) + 1)) = (m : Int) * ((m : Int) + 1) ∧ IntKind.i64.wrap (((m : Int) * ((m : Int) + 1)).tdiv 2) = (tri m : Int) := by
  have h : m = 0 ∨ m = 1 ∨ m = 2 ∨ m = 3 ∨ m = 4 ∨ m = 5 ∨ m = 6 ∨ m = 7 ∨ m = 8 := by omega
  rcases h with rfl | rfl | rfl | rfl | rfl | rfl | rfl | rfl | rfl <;> decide
set_option maxRecDepth 100000 in
set_option maxHeartbeats 8000000 in
theorem l5Ok_any (s : Int) (A1 A2 A3 : Option Addr) (n1 c1 n2 c2 n3 c3 : Nat) (x1 x2 x3 : List Int) (wt : Bool) (w : World) (h1 : SI w A1 n1 x1) (h2 : SI w A2 n2 x2) (h3 : SI w A3 n3 x3) (hn : n1 ≤ 1099511627776 ∧ n2 ≤ 1099511627776 ∧ n3 ≤ 1099511627776) :
    Calls Try.prog 117 #[.agg #[.int .i64 s, .slice A1 n1 c1, .slice A2 n2 c2, .slice A3 n3 c3], .bool wt] w fun e w' => e = .returned (.bool (pzB wt s x1 x2 x3)) ∧ Below w.heap.size w w' := by
  obtain ⟨w1, hw1⟩ : ∃ w1, w1 = w.alloc (.cells #[.int .i64 s, .slice A1 n1 c1, .slice A2 n2 c2, .slice A3 n3 c3] 47) := ⟨_, rfl⟩
  obtain ⟨g, hg⟩ : ∃ g, g = w.heap.size := ⟨_, rfl⟩
  have hk : Blk w1 g 47 #[.int .i64 s, .slice A1 n1 c1, .slice A2 n2 c2, .slice A3 n3 c3] := by rw [hw1, hg]; exact Blk.new _ _ _
  have hb : Below w.heap.size w w1 := by rw [hw1]; exact Below.alloc_self _ _
  have HB := Lib.hid hb
  have HW := Lib.hid hw1
  have HG := Lib.hid hg
  have HK := Lib.hid hk
  have HL := Lib.hid (And.intro h1.1 (And.intro h2.1 h3.1))
  have HS := Lib.hid (And.intro (h1.below hb (Nat.le_refl _)) (And.intro (h2.below hb (Nat.le_refl _)) (h3.below hb (Nat.le_refl _))))
  obtain ⟨q0, q1, q2, q3⟩ := cells4 hk
  obtain ⟨hn1, hn2, hn3⟩ := hn
  clear hb hw1 hg hk h1 h2 h3
  by_cases hs : 1 ≤ s ∧ s ≤ 7
  case neg =>
    have H1 := Lib.hid (fun w => l1In_no' (a := s) (lo := 1) (hi := 7) (by omega) w)
    have HF := Lib.hid (pzB_false (wt := wt) (s := s) (x1 := x1) (x2 := x2) (x3 := x3) (fun h => hs ⟨h.1.1, h.1.2.1⟩))
    clear hs
    go_enter Try.func117, Try.ntmps117
    go_upto_region 1 with fail
    rw [← HW.out, ← HG.out]
    go_wp2_with (go_at_call 70; refine (H1.out _).mono ?_; rintro e w2 ⟨rfl, rfl⟩)
    go_ret
    exact ⟨ret_bool HF.out.symm, HB.out⟩
  case pos =>
    obtain ⟨m, rfl⟩ : ∃ m : Nat, s = (m : Int) := ⟨s.toNat, by omega⟩
    have H1 := Lib.hid (fun w => l1In_yes' (a := (m : Int)) (lo := 1) (hi := 7) hs.1 hs.2 w)
    have hm1 : 1 ≤ m := by omega
    have hm7 : m ≤ 7 := by omega
    obtain ⟨t1, t2, t3⟩ := tri_half (m := m) (by omega)
    have HT36 := Lib.hid (tri_small (r := m) (by omega))
    have HLP : Hid (lensP (m : Int) x1 x2 x3 ↔ n1 = tri m ∧ n2 = tri m ∧ n3 = tri m) := Lib.hid (by
      unfold lensP
      rw [HL.out.1, HL.out.2.1, HL.out.2.2, Int.toNat_natCast]
      exact ⟨fun h => h.2.2, fun h => ⟨by omega, by omega, h⟩⟩)
    have hlt0 : (2 : Int) ≠ 0 := by decide
    clear hs
    by_cases e1 : n1 = tri m
    case neg =>
      have b1 : ((n1 : Int) != (tri m : Int)) = true := by simp; omega
      have HF := Lib.hid (pzB_false (wt := wt) (s := (m : Int)) (x1 := x1) (x2 := x2) (x3 := x3) (fun h => e1 (HLP.out.1 h.1).1))
      clear e1
      go_enter Try.func117, Try.ntmps117
      go_upto_region 1 with fail
      rw [← HW.out, ← HG.out]
      go_wp2_with (go_at_call 70; refine (H1.out _).mono ?_; rintro e w2 ⟨rfl, rfl⟩)
      go_ret
      exact ⟨ret_bool HF.out.symm, HB.out⟩
    case pos =>
      by_cases e2 : n2 = tri m
      case neg =>
        have b1 : ((n1 : Int) != (tri m : Int)) = false := by rw [e1]; simp
        have b2 : ((n2 : Int) != (tri m : Int)) = true := by simp; omega
        have HF := Lib.hid (pzB_false (wt := wt) (s := (m : Int)) (x1 := x1) (x2 := x2) (x3 := x3) (fun h => e2 (HLP.out.1 h.1).2.1))
        clear e1 e2
        go_enter Try.func117, Try.ntmps117
        go_upto_region 1 with fail
        rw [← HW.out, ← HG.out]
        go_wp2_with (go_at_call 70; refine (H1.out _).mono ?_; rintro e w2 ⟨rfl, rfl⟩)
        go_ret
        exact ⟨ret_bool HF.out.symm, HB.out⟩
      case pos =>
        by_cases e3 : n3 = tri m
        case neg =>
          have b1 : ((n1 : Int) != (tri m : Int)) = false := by rw [e1]; simp
          have b2 : ((n2 : Int) != (tri m : Int)) = false := by rw [e2]; simp
          have b3 : ((n3 : Int) != (tri m : Int)) = true := by simp; omega
          have HF := Lib.hid (pzB_false (wt := wt) (s := (m : Int)) (x1 := x1) (x2 := x2) (x3 := x3) (fun h => e3 (HLP.out.1 h.1).2.2))
          clear e1 e2 e3
          go_enter Try.func117, Try.ntmps117
          go_upto_region 1 with fail
          rw [← HW.out, ← HG.out]
          go_wp2_with (go_at_call 70; refine (H1.out _).mono ?_; rintro e w2 ⟨rfl, rfl⟩)
          go_ret
          exact ⟨ret_bool HF.out.symm, HB.out⟩
        case pos =>
          have LP := Lib.hid (HLP.out.2 ⟨e1, e2, e3⟩)
          have HE := Lib.hid (And.intro e1 (And.intro e2 e3))
          have b1 : ((n1 : Int) != (tri m : Int)) = false := by rw [e1]; simp
          have b2 : ((n2 : Int) != (tri m : Int)) = false := by rw [e2]; simp
          have b3 : ((n3 : Int) != (tri m : Int)) = false := by rw [e3]; simp
          clear e1 e2 e3
          go_enter Try.func117, Try.ntmps117
          go_upto_region 1 with fail
          rw [← HW.out, ← HG.out]
          go_wp2_with (go_at_call 70; refine (H1.out _).mono ?_; rintro e w2 ⟨rfl, rfl⟩)
          clear b1 b2 b3 t1 t2 t3 q0 q1 q2 q3 hn1 hn2 hn3
          go_loopw [6] (fun rv wr => ∃ r : Nat, r ≤ m ∧ rv = .int .i64 r ∧ Drawn w1 wr ∧ ∀ r', r' < r → ∀ k, k ≤ r' → atP wt m x1 x2 x3 r' k)
            (fun rv _ => m - (intOf rv).toNat)
          case atStart => exact ⟨0, Nat.zero_le _, rfl, Drawn.refl _, fun j hj => absurd hj (by omega)⟩
          case round =>
            obtain ⟨r, hr, rfl, hD, hall⟩ := hrel
            have HA := Lib.hid hall
            have HDR := Lib.hid hD
            obtain ⟨q0, q1, q2, q3⟩ := cells4 (HK.out.drawn hD)
            clear hall hD
            by_cases hlt : r < m
            case neg =>
              have hrm : r = m := by omega
              subst hrm
              go_wp2
              go_ret
              exact ⟨ret_bool (pzB_true (pz_of_at LP.out (by rw [Int.toNat_natCast]; exact HA.out))).symm, HB.out.trans (HDR.out.below _)⟩
            case pos =>
              have hltI : (r : Int) < (m : Int) := by omega
              go_wp2_with fail
              clear q0 q1 q2 q3
              obtain ⟨wo, rfl⟩ : ∃ wo, wo = wr := ⟨wr, rfl⟩
              go_loopw [7] (fun kv wx => ∃ k : Nat, k ≤ r + 1 ∧ kv = .int .i64 k ∧ Drawn w1 wx ∧ ∀ j, j < k → atP wt m x1 x2 x3 r j)
                (fun kv _ => r + 1 - (intOf kv).toNat)
              case atStart => exact ⟨0, Nat.zero_le _, rfl, HDR.out, fun j hj => absurd hj (by omega)⟩
              case round =>
                obtain ⟨k, hk, rfl, hD, hall⟩ := hrel
                have HAK := Lib.hid hall
                clear HDR
                have HDR := Lib.hid hD
                obtain ⟨q0, q1, q2, q3⟩ := cells4 (HK.out.drawn hD)
                clear hall hD
                by_cases hkr : k ≤ r
                case neg =>
                  have hkI : ¬ (k : Int) ≤ (r : Int) := by omega
                  have HN : Hid (∀ r', r' < r + 1 → ∀ k, k ≤ r' → atP wt m x1 x2 x3 r' k) := Lib.hid (fun r' hr' k' hk' => by
                    rcases Nat.lt_or_ge r' r with h | h
                    · exact HA.out r' h k' hk'
                    · obtain rfl : r' = r := by omega
                      exact HAK.out k' (by omega))
                  go_wp2
                  go_roundw
                  case rel => exact ⟨r + 1, by omega, by go_num, HDR.out, HN.out⟩
                  case measure => simp [intOf]; omega
                case pos =>
                  have hkI : (k : Int) ≤ (r : Int) := by omega
                  have HNA : Hid (¬ atP wt m x1 x2 x3 r k → pzB wt (m : Int) x1 x2 x3 = false) := Lib.hid (fun h => pzB_false (fun hp => h (by have := at_of_pz hp (r := r) (k := k) (by rw [Int.toNat_natCast]; exact hlt) hkr; rwa [Int.toNat_natCast] at this)))
                  obtain ⟨a, ha⟩ : ∃ a, a = tri r + k := ⟨_, rfl⟩
                  have HPL := Lib.hid (fun w => l5Place_at (i := (r : Int)) (j := (k : Int)) r k a rfl rfl ha w (by omega) (by omega))
                  have hat : a < tri m := by rw [ha]; exact tri_lt hlt hkr
                  have ha1 : a < n1 := by rw [HE.out.1]; exact hat
                  have ha2 : a < n2 := by rw [HE.out.2.1]; exact hat
                  have ha3 : a < n3 := by rw [HE.out.2.2]; exact hat
                  have hx1 := HDR.out.si HS.out.1
                  have hx2 := HDR.out.si HS.out.2.1
                  have hx3 := HDR.out.si HS.out.2.2
                  have HX := Lib.hid (And.intro hx1 (And.intro hx2 hx3))
                  obtain ⟨b1, o1, rfl, _, hc1⟩ := hx1.at_ (by omega)
                  obtain ⟨b2, o2, rfl, _, hc2⟩ := hx2.at_ (by omega)
                  obtain ⟨b3, o3, rfl, _, hc3⟩ := hx3.at_ (by omega)
                  have hd1 := hc1 a ha1
                  have hd2 := hc2 a ha2
                  have hd3 := hc3 a ha3
                  have HC := Lib.hid (And.intro hc1 hc3)
                  obtain ⟨l, hl⟩ : ∃ l, l = nth x1 a := ⟨_, rfl⟩
                  obtain ⟨y, hy⟩ : ∃ y, y = nth x2 a := ⟨_, rfl⟩
                  obtain ⟨b, hb⟩ : ∃ b, b = nth x3 a := ⟨_, rfl⟩
                  rw [← hl] at hd1
                  rw [← hy] at hd2
                  rw [← hb] at hd3
                  have HV : Hid (l = nth x1 (tri r + k) ∧ y = nth x2 (tri r + k) ∧ b = nth x3 (tri r + k)) := Lib.hid (by rw [← ha]; exact ⟨hl, hy, hb⟩)
                  have i1 : (a : Int) < (n1 : Int) := by omega
                  have i2 : (a : Int) < (n2 : Int) := by omega
                  have i3 : (a : Int) < (n3 : Int) := by omega
                  have HM := Lib.hid (And.intro hat ha)
                  clear hc1 hc2 hc3 hx1 hx2 hx3 hl hy hb ha hat ha1 ha2 ha3
                  go_upto_region 13 with (go_at_call 118; refine (HPL.out _).mono ?_; rintro e w3 ⟨rfl, rfl⟩)
                  by_cases p1 : 0 ≤ l ∧ l ≤ 2
                  case neg =>
                    have Q1 := Lib.hid (fun w => l1In_no (a := l) (lo := 0) (hi := 2) (by omega) w)
                    have HF := Lib.hid (HNA.out (fun h => p1 (by rw [HV.out.1]; exact h.1)))
                    clear p1
                    go_quiet ((go_at_call 70; with_reducible exact Calls.quiet_of (Q1.out _)))
                    go_wp2
                    go_ret
                    exact ⟨ret_bool HF.out.symm, HB.out.trans ((HDR.out.drewN _).below _)⟩
                  case pos =>
                    have Q1 := Lib.hid (fun w => l1In_yes (a := l) (lo := 0) (hi := 2) p1.1 p1.2 w)
                    by_cases p2 : 0 ≤ y ∧ y ≤ 2
                    case neg =>
                      have Q2 := Lib.hid (fun w => l1In_no (a := y) (lo := 0) (hi := 2) (by omega) w)
                      have HF := Lib.hid (HNA.out (fun h => p2 (by rw [HV.out.2.1]; exact h.2.1)))
                      clear p1 p2
                      go_quiet ((go_at_call 70; first | with_reducible exact Calls.quiet_of (Q1.out _) | with_reducible exact Calls.quiet_of (Q2.out _)))
                      go_wp2
                      go_ret
                      exact ⟨ret_bool HF.out.symm, HB.out.trans ((HDR.out.drewN _).below _)⟩
                    case pos =>
                      have Q2 := Lib.hid (fun w => l1In_yes (a := y) (lo := 0) (hi := 2) p2.1 p2.2 w)
                      by_cases p3 : b < 0
                      case pos =>
                        have HF := Lib.hid (HNA.out (fun h => by have h5 := h.2.2.1; rw [← HV.out.2.2] at h5; omega))
                        clear p1 p2
                        go_quiet ((go_at_call 70; first | with_reducible exact Calls.quiet_of (Q1.out _) | with_reducible exact Calls.quiet_of (Q2.out _)))
                        go_wp2
                        go_ret
                        exact ⟨ret_bool HF.out.symm, HB.out.trans ((HDR.out.drewN _).below _)⟩
                      case neg =>
                        have Q3 := Lib.hid (fun w => l5Up_d l y wt w p1 p2)
                        have HP1 := Lib.hid p1
                        have HP2 := Lib.hid p2
                        have HP3 := Lib.hid p3
                        obtain ⟨u, hu⟩ : ∃ u, u = upF l y wt := ⟨_, rfl⟩
                        rw [← hu] at Q3
                        by_cases p4 : u = b
                        case neg =>
                          have HF := Lib.hid (HNA.out (fun h => p4 (by have h5 := h.2.2.2.1; rw [← HV.out.1, ← HV.out.2.1, ← HV.out.2.2, ← hu] at h5; exact h5)))
                          have hne : (u != b) = true := by simpa using p4
                          clear p1 p2 p4 hu
                          go_quiet ((first
                            | (go_at_call 70; first | with_reducible exact Calls.quiet_of (Q1.out _) | with_reducible exact Calls.quiet_of (Q2.out _))
                            | (go_at_call 134; with_reducible exact Calls.quiet_of (Q3.out _))))
                          go_wp2
                          go_ret
                          exact ⟨ret_bool HF.out.symm, HB.out.trans ((HDR.out.drewN _).below _)⟩
                        case pos =>
                          have HUP : Hid (upF l y wt = b) := Lib.hid (by rw [← hu, p4])
                          have hne : (u != b) = false := by rw [p4]; simp
                          clear p1 p2 p4 hu
                          go_quiet ((first
                            | (go_at_call 70; first | with_reducible exact Calls.quiet_of (Q1.out _) | with_reducible exact Calls.quiet_of (Q2.out _))
                            | (go_at_call 134; with_reducible exact Calls.quiet_of (Q3.out _))))
                          go_upto_region 15 with fail
                          obtain ⟨wq, hwq⟩ : ∃ wq, wq = wr.drewN nq := ⟨_, rfl⟩
                          rw [← hwq]
                          have HDQ : Hid (Drawn w1 wq) := Lib.hid (by rw [hwq]; exact HDR.out.drewN _)
                          have hd1 : wq.cell? ⟨b1, o1 + a, none⟩ = some (.int .i64 l) := by rw [hwq]; exact hd1
                          have hd2 : wq.cell? ⟨b2, o2 + a, none⟩ = some (.int .i64 y) := by rw [hwq]; exact hd2
                          have hd3 : wq.cell? ⟨b3, o3 + a, none⟩ = some (.int .i64 b) := by rw [hwq]; exact hd3
                          have HCQ : Hid ((∀ k, k < n1 → wq.cell? ⟨b1, o1 + k, none⟩ = some (.int .i64 (nth x1 k))) ∧ (∀ k, k < n3 → wq.cell? ⟨b3, o3 + k, none⟩ = some (.int .i64 (nth x3 k)))) := Lib.hid (by rw [hwq]; exact HC.out)
                          clear q0 q1 q2 q3 HC hwq HDR
                          have HDR := HDQ
                          have HC := HCQ
                          obtain ⟨q0, q1, q2, q3⟩ := cells4 (HK.out.drawn HDR.out)
                          by_cases hkr2 : k < r
                          case neg =>
                            have hkI2 : ¬ (k : Int) < (r : Int) := by omega
                            have HDNF : Hid (k < r → dnF y (nth x3 (tri (r - 1) + k)) = nth x1 (tri r + (k + 1))) := Lib.hid (fun h => absurd h hkr2)
                            have hkre : k = r := by omega
                            have HKRE := Lib.hid hkre
                            clear hkr2 hkre
                            go_quiet (fail)
                            go_upto_region 17 with fail
                            have tA : IntKind.i64.wrap ((m : Int) - 1) = (m : Int) - 1 := IntWalk.i64_in _ (by omega)
                            by_cases uA : r = m - 1
                            case neg =>
                              have sA : ((r : Int) == (m : Int) - 1) = false := by simp; omega
                              have HA1 : Hid (r = m - 1 → b ≤ 1) := Lib.hid (fun h => absurd h uA)
                              have HUA := Lib.hid uA
                              clear uA
                              by_cases uC : k = 0
                              case neg =>
                                have sC : ((k : Int) == 0) = false := by simp; omega
                                have HC1 : Hid (k = 0 → l ≤ 1) := Lib.hid (fun h => absurd h uC)
                                have HUC := Lib.hid uC
                                clear uC
                                have sE : ((k : Int) == (r : Int)) = true := by have := HKRE.out; simp; omega
                                by_cases vE : 1 < y
                                case pos =>
                                  have HF := Lib.hid (HNA.out (fun h => by have h5 := h.2.2.2.2.2.2.2 HKRE.out; rw [← HV.out.2.1] at h5; omega))
                                  go_wp2
                                  go_ret
                                  exact ⟨ret_bool HF.out.symm, HB.out.trans ((HDR.out.drewN _).below _)⟩
                                case neg =>
                                  have HE1 : Hid (k = r → y ≤ 1) := Lib.hid (fun _ => by omega)
                                  have HATP : Hid (atP wt m x1 x2 x3 r k) := Lib.hid (by unfold atP; rw [← HV.out.1, ← HV.out.2.1, ← HV.out.2.2]; exact ⟨HP1.out, HP2.out, by have := HP3.out; omega, HUP.out, HDNF.out, HA1.out, HC1.out, HE1.out⟩)
                                  go_wp2
                                  go_roundw
                                  case rel => exact ⟨k + 1, by omega, by go_num, HDR.out.drewN _, fun j hj => by
                                    rcases Nat.lt_or_ge j k with h | h
                                    · exact HAK.out j h
                                    · obtain rfl : j = k := by omega
                                      exact HATP.out⟩
                                  case measure => simp [intOf]; omega
                              case pos =>
                                have sC : ((k : Int) == 0) = true := by simp; omega
                                have HUC := Lib.hid uC
                                clear uC
                                by_cases vC : 1 < l
                                case pos =>
                                  have HF := Lib.hid (HNA.out (fun h => by have h5 := h.2.2.2.2.2.2.1 HUC.out; rw [← HV.out.1] at h5; omega))
                                  go_wp2
                                  go_ret
                                  exact ⟨ret_bool HF.out.symm, HB.out.trans ((HDR.out.drewN _).below _)⟩
                                case neg =>
                                  have HC1 : Hid (k = 0 → l ≤ 1) := Lib.hid (fun _ => by omega)
                                  have sE : ((k : Int) == (r : Int)) = true := by have := HKRE.out; simp; omega
                                  by_cases vE : 1 < y
                                  case pos =>
                                    have HF := Lib.hid (HNA.out (fun h => by have h5 := h.2.2.2.2.2.2.2 HKRE.out; rw [← HV.out.2.1] at h5; omega))
                                    go_wp2
                                    go_ret
                                    exact ⟨ret_bool HF.out.symm, HB.out.trans ((HDR.out.drewN _).below _)⟩
                                  case neg =>
                                    have HE1 : Hid (k = r → y ≤ 1) := Lib.hid (fun _ => by omega)
                                    have HATP : Hid (atP wt m x1 x2 x3 r k) := Lib.hid (by unfold atP; rw [← HV.out.1, ← HV.out.2.1, ← HV.out.2.2]; exact ⟨HP1.out, HP2.out, by have := HP3.out; omega, HUP.out, HDNF.out, HA1.out, HC1.out, HE1.out⟩)
                                    go_wp2
                                    go_roundw
                                    case rel => exact ⟨k + 1, by omega, by go_num, HDR.out.drewN _, fun j hj => by
                                      rcases Nat.lt_or_ge j k with h | h
                                      · exact HAK.out j h
                                      · obtain rfl : j = k := by omega
                                        exact HATP.out⟩
                                    case measure => simp [intOf]; omega
                            case pos =>
                              have sA : ((r : Int) == (m : Int) - 1) = true := by simp; omega
                              have HUA := Lib.hid uA
                              clear uA
                              by_cases vA : 1 < b
                              case pos =>
                                have HF := Lib.hid (HNA.out (fun h => by have h5 := h.2.2.2.2.2.1 HUA.out; rw [← HV.out.2.2] at h5; omega))
                                go_wp2
                                go_ret
                                exact ⟨ret_bool HF.out.symm, HB.out.trans ((HDR.out.drewN _).below _)⟩
                              case neg =>
                                have HA1 : Hid (r = m - 1 → b ≤ 1) := Lib.hid (fun _ => by omega)
                                by_cases uC : k = 0
                                case neg =>
                                  have sC : ((k : Int) == 0) = false := by simp; omega
                                  have HC1 : Hid (k = 0 → l ≤ 1) := Lib.hid (fun h => absurd h uC)
                                  have HUC := Lib.hid uC
                                  clear uC
                                  have sE : ((k : Int) == (r : Int)) = true := by have := HKRE.out; simp; omega
                                  by_cases vE : 1 < y
                                  case pos =>
                                    have HF := Lib.hid (HNA.out (fun h => by have h5 := h.2.2.2.2.2.2.2 HKRE.out; rw [← HV.out.2.1] at h5; omega))
                                    go_wp2
                                    go_ret
                                    exact ⟨ret_bool HF.out.symm, HB.out.trans ((HDR.out.drewN _).below _)⟩
                                  case neg =>
                                    have HE1 : Hid (k = r → y ≤ 1) := Lib.hid (fun _ => by omega)
                                    have HATP : Hid (atP wt m x1 x2 x3 r k) := Lib.hid (by unfold atP; rw [← HV.out.1, ← HV.out.2.1, ← HV.out.2.2]; exact ⟨HP1.out, HP2.out, by have := HP3.out; omega, HUP.out, HDNF.out, HA1.out, HC1.out, HE1.out⟩)
                                    go_wp2
                                    go_roundw
                                    case rel => exact ⟨k + 1, by omega, by go_num, HDR.out.drewN _, fun j hj => by
                                      rcases Nat.lt_or_ge j k with h | h
                                      · exact HAK.out j h
                                      · obtain rfl : j = k := by omega
                                        exact HATP.out⟩
                                    case measure => simp [intOf]; omega
                                case pos =>
                                  have sC : ((k : Int) == 0) = true := by simp; omega
                                  have HUC := Lib.hid uC
                                  clear uC
                                  by_cases vC : 1 < l
                                  case pos =>
                                    have HF := Lib.hid (HNA.out (fun h => by have h5 := h.2.2.2.2.2.2.1 HUC.out; rw [← HV.out.1] at h5; omega))
                                    go_wp2
                                    go_ret
                                    exact ⟨ret_bool HF.out.symm, HB.out.trans ((HDR.out.drewN _).below _)⟩
                                  case neg =>
                                    have HC1 : Hid (k = 0 → l ≤ 1) := Lib.hid (fun _ => by omega)
                                    have sE : ((k : Int) == (r : Int)) = true := by have := HKRE.out; simp; omega
                                    by_cases vE : 1 < y
                                    case pos =>
                                      have HF := Lib.hid (HNA.out (fun h => by have h5 := h.2.2.2.2.2.2.2 HKRE.out; rw [← HV.out.2.1] at h5; omega))
                                      go_wp2
                                      go_ret
                                      exact ⟨ret_bool HF.out.symm, HB.out.trans ((HDR.out.drewN _).below _)⟩
                                    case neg =>
                                      have HE1 : Hid (k = r → y ≤ 1) := Lib.hid (fun _ => by omega)
                                      have HATP : Hid (atP wt m x1 x2 x3 r k) := Lib.hid (by unfold atP; rw [← HV.out.1, ← HV.out.2.1, ← HV.out.2.2]; exact ⟨HP1.out, HP2.out, by have := HP3.out; omega, HUP.out, HDNF.out, HA1.out, HC1.out, HE1.out⟩)
                                      go_wp2
                                      go_roundw
                                      case rel => exact ⟨k + 1, by omega, by go_num, HDR.out.drewN _, fun j hj => by
                                        rcases Nat.lt_or_ge j k with h | h
                                        · exact HAK.out j h
                                        · obtain rfl : j = k := by omega
                                          exact HATP.out⟩
                                      case measure => simp [intOf]; omega
                          case pos =>
                            have hkI2 : (k : Int) < (r : Int) := by omega
                            obtain ⟨r1, hr1⟩ : ∃ r1, r1 = r - 1 := ⟨_, rfl⟩
                            have hri : (r : Int) - 1 = (r1 : Int) := by omega
                            have w1r : IntKind.i64.wrap ((r : Int) - 1) = (r : Int) - 1 := IntWalk.i64_in _ (by omega)
                            have w1k : IntKind.i64.wrap ((k : Int) + 1) = (k : Int) + 1 := IntWalk.i64_in _ (by omega)
                            obtain ⟨t, ht⟩ : ∃ t, t = tri r1 + k := ⟨_, rfl⟩
                            obtain ⟨a', ha'⟩ : ∃ a', a' = tri r + (k + 1) := ⟨_, rfl⟩
                            have Q4 := Lib.hid (fun w => l5Place_d (i := (r : Int) - 1) (j := (k : Int)) r1 k t hri rfl ht w (by omega) (by omega))
                            have Q5 := Lib.hid (fun w => l5Place_d (i := (r : Int)) (j := (k : Int) + 1) r (k + 1) a' rfl (by omega) ha' w (by omega) (by omega))
                            have htm : t < tri m := by rw [ht]; exact tri_lt (by omega) (by omega)
                            have ham : a' < tri m := by rw [ha']; exact tri_lt hlt (by omega)
                            have ht3 : t < n3 := by rw [HE.out.2.2]; exact htm
                            have ha3 : a' < n1 := by rw [HE.out.1]; exact ham
                            have hd4 := HC.out.2 t ht3
                            have hd5 := HC.out.1 a' ha3
                            have i4 : (t : Int) < (n3 : Int) := by omega
                            have i5 : (a' : Int) < (n1 : Int) := by omega
                            have hat4 := HA.out r1 (by omega) k (by omega)
                            have htop := (mem_right (up_right hat4.1 hat4.2.1 hat4.2.2.1 hat4.2.2.2.1)).2.2.1
                            rw [← ht] at htop
                            obtain ⟨z, hz⟩ : ∃ z, z = nth x3 t := ⟨_, rfl⟩
                            obtain ⟨l', hl'⟩ : ∃ l', l' = nth x1 a' := ⟨_, rfl⟩
                            rw [← hz] at hd4 htop
                            rw [← hl'] at hd5
                            have Q6 := Lib.hid (fun w => l5Down_d y z w HP2.out htop)
                            obtain ⟨v, hv⟩ : ∃ v, v = dnF y z := ⟨_, rfl⟩
                            rw [← hv] at Q6
                            have HVV : Hid (z = nth x3 (tri (r - 1) + k) ∧ l' = nth x1 (tri r + (k + 1)) ∧ v = dnF y z) := Lib.hid (by rw [← hr1, ← ht, ← ha']; exact ⟨hz, hl', hv⟩)
                            clear hr1 hri ht ha' htm ham ht3 ha3 hat4 htop hz hl' hv
                            by_cases hvl : v = l'
                            case neg =>
                              have HF := Lib.hid (HNA.out (fun h => hvl (by have h5 := h.2.2.2.2.1 hkr2; rw [← HV.out.2.1, ← HVV.out.1, ← HVV.out.2.1, ← HVV.out.2.2] at h5; exact h5)))
                              have hne2 : (v != l') = true := by simpa using hvl
                              clear hvl
                              go_quiet ((first
                                | (go_at_call 118; first | with_reducible exact Calls.quiet_of (Q4.out _) | with_reducible exact Calls.quiet_of (Q5.out _))
                                | (go_at_call 135; with_reducible exact Calls.quiet_of (Q6.out _))))
                              go_wp2
                              go_ret
                              exact ⟨ret_bool HF.out.symm, HB.out.trans ((HDR.out.drewN _).below _)⟩
                            case pos =>
                              have HDNF : Hid (k < r → dnF y (nth x3 (tri (r - 1) + k)) = nth x1 (tri r + (k + 1))) := Lib.hid (fun _ => by rw [← HVV.out.1, ← HVV.out.2.1, ← HVV.out.2.2]; exact hvl)
                              have hne2 : (v != l') = false := by rw [hvl]; simp
                              clear hvl
                              go_quiet ((first
                                | (go_at_call 118; first | with_reducible exact Calls.quiet_of (Q4.out _) | with_reducible exact Calls.quiet_of (Q5.out _))
                                | (go_at_call 135; with_reducible exact Calls.quiet_of (Q6.out _))))
                              go_upto_region 17 with fail
                              have tA : IntKind.i64.wrap ((m : Int) - 1) = (m : Int) - 1 := IntWalk.i64_in _ (by omega)
                              by_cases uA : r = m - 1
                              case neg =>
                                have sA : ((r : Int) == (m : Int) - 1) = false := by simp; omega
                                have HA1 : Hid (r = m - 1 → b ≤ 1) := Lib.hid (fun h => absurd h uA)
                                have HUA := Lib.hid uA
                                clear uA
                                by_cases uC : k = 0
                                case neg =>
                                  have sC : ((k : Int) == 0) = false := by simp; omega
                                  have HC1 : Hid (k = 0 → l ≤ 1) := Lib.hid (fun h => absurd h uC)
                                  have HUC := Lib.hid uC
                                  clear uC
                                  have sE : ((k : Int) == (r : Int)) = false := by simp; omega
                                  have HE1 : Hid (k = r → y ≤ 1) := Lib.hid (fun h => by omega)
                                  have HATP : Hid (atP wt m x1 x2 x3 r k) := Lib.hid (by unfold atP; rw [← HV.out.1, ← HV.out.2.1, ← HV.out.2.2]; exact ⟨HP1.out, HP2.out, by have := HP3.out; omega, HUP.out, HDNF.out, HA1.out, HC1.out, HE1.out⟩)
                                  go_wp2
                                  go_roundw
                                  case rel => exact ⟨k + 1, by omega, by go_num, HDR.out.drewN _, fun j hj => by
                                    rcases Nat.lt_or_ge j k with h | h
                                    · exact HAK.out j h
                                    · obtain rfl : j = k := by omega
                                      exact HATP.out⟩
                                  case measure => simp [intOf]; omega
                                case pos =>
                                  have sC : ((k : Int) == 0) = true := by simp; omega
                                  have HUC := Lib.hid uC
                                  clear uC
                                  by_cases vC : 1 < l
                                  case pos =>
                                    have HF := Lib.hid (HNA.out (fun h => by have h5 := h.2.2.2.2.2.2.1 HUC.out; rw [← HV.out.1] at h5; omega))
                                    go_wp2
                                    go_ret
                                    exact ⟨ret_bool HF.out.symm, HB.out.trans ((HDR.out.drewN _).below _)⟩
                                  case neg =>
                                    have HC1 : Hid (k = 0 → l ≤ 1) := Lib.hid (fun _ => by omega)
                                    have sE : ((k : Int) == (r : Int)) = false := by simp; omega
                                    have HE1 : Hid (k = r → y ≤ 1) := Lib.hid (fun h => by omega)
                                    have HATP : Hid (atP wt m x1 x2 x3 r k) := Lib.hid (by unfold atP; rw [← HV.out.1, ← HV.out.2.1, ← HV.out.2.2]; exact ⟨HP1.out, HP2.out, by have := HP3.out; omega, HUP.out, HDNF.out, HA1.out, HC1.out, HE1.out⟩)
                                    go_wp2
                                    go_roundw
                                    case rel => exact ⟨k + 1, by omega, by go_num, HDR.out.drewN _, fun j hj => by
                                      rcases Nat.lt_or_ge j k with h | h
                                      · exact HAK.out j h
                                      · obtain rfl : j = k := by omega
                                        exact HATP.out⟩
                                    case measure => simp [intOf]; omega
                              case pos =>
                                have sA : ((r : Int) == (m : Int) - 1) = true := by simp; omega
                                have HUA := Lib.hid uA
                                clear uA
                                by_cases vA : 1 < b
                                case pos =>
                                  have HF := Lib.hid (HNA.out (fun h => by have h5 := h.2.2.2.2.2.1 HUA.out; rw [← HV.out.2.2] at h5; omega))
                                  go_wp2
                                  go_ret
                                  exact ⟨ret_bool HF.out.symm, HB.out.trans ((HDR.out.drewN _).below _)⟩
                                case neg =>
                                  have HA1 : Hid (r = m - 1 → b ≤ 1) := Lib.hid (fun _ => by omega)
                                  by_cases uC : k = 0
                                  case neg =>
                                    have sC : ((k : Int) == 0) = false := by simp; omega
                                    have HC1 : Hid (k = 0 → l ≤ 1) := Lib.hid (fun h => absurd h uC)
                                    have HUC := Lib.hid uC
                                    clear uC
                                    have sE : ((k : Int) == (r : Int)) = false := by simp; omega
                                    have HE1 : Hid (k = r → y ≤ 1) := Lib.hid (fun h => by omega)
                                    have HATP : Hid (atP wt m x1 x2 x3 r k) := Lib.hid (by unfold atP; rw [← HV.out.1, ← HV.out.2.1, ← HV.out.2.2]; exact ⟨HP1.out, HP2.out, by have := HP3.out; omega, HUP.out, HDNF.out, HA1.out, HC1.out, HE1.out⟩)
                                    go_wp2
                                    go_roundw
                                    case rel => exact ⟨k + 1, by omega, by go_num, HDR.out.drewN _, fun j hj => by
                                      rcases Nat.lt_or_ge j k with h | h
                                      · exact HAK.out j h
                                      · obtain rfl : j = k := by omega
                                        exact HATP.out⟩
                                    case measure => simp [intOf]; omega
                                  case pos =>
                                    have sC : ((k : Int) == 0) = true := by simp; omega
                                    have HUC := Lib.hid uC
                                    clear uC
                                    by_cases vC : 1 < l
                                    case pos =>
                                      have HF := Lib.hid (HNA.out (fun h => by have h5 := h.2.2.2.2.2.2.1 HUC.out; rw [← HV.out.1] at h5; omega))
                                      go_wp2
                                      go_ret
                                      exact ⟨ret_bool HF.out.symm, HB.out.trans ((HDR.out.drewN _).below _)⟩
                                    case neg =>
                                      have HC1 : Hid (k = 0 → l ≤ 1) := Lib.hid (fun _ => by omega)
                                      have sE : ((k : Int) == (r : Int)) = false := by simp; omega
                                      have HE1 : Hid (k = r → y ≤ 1) := Lib.hid (fun h => by omega)
                                      have HATP : Hid (atP wt m x1 x2 x3 r k) := Lib.hid (by unfold atP; rw [← HV.out.1, ← HV.out.2.1, ← HV.out.2.2]; exact ⟨HP1.out, HP2.out, by have := HP3.out; omega, HUP.out, HDNF.out, HA1.out, HC1.out, HE1.out⟩)
                                      go_wp2
                                      go_roundw
                                      case rel => exact ⟨k + 1, by omega, by go_num, HDR.out.drewN _, fun j hj => by
                                        rcases Nat.lt_or_ge j k with h | h
                                        · exact HAK.out j h
                                        · obtain rfl : j = k := by omega
                                          exact HATP.out⟩
                                      case measure => simp [intOf]; omega
end Go.Proofs.Ytdkcngilmdpbgaa
