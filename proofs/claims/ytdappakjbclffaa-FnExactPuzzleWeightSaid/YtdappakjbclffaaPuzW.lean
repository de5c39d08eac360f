/-
  Weights of puzzles on both sides. Conditions: lengths below 2^40.
-/
import Derived.Test.YtdappakjbclffaaShiftC
namespace Go.Proofs.Ytdappakjbclffaa
open Go.RowKit

/-- Are these numbers for each place of a string of five at most. -/
def shP (s : Int) (ys : List Int) : Prop := s ≤ 5 ∧ (ys.length : Int) = s ∧ ∀ k, k < ys.length → -9 ≤ nth ys k ∧ nth ys k ≤ 9
def shB (s : Int) (ys : List Int) : Bool := decide (s ≤ 5) && decide ((ys.length : Int) = s) && (List.range ys.length).all fun k => decide (-9 ≤ nth ys k ∧ nth ys k ≤ 9)
theorem shB_iff (s : Int) (ys : List Int) : shB s ys = true ↔ shP s ys := by simp [shB, shP, and_assoc]
theorem shB_true {s : Int} {ys : List Int} (h : shP s ys) : shB s ys = true := (shB_iff s ys).2 h
theorem shB_false {s : Int} {ys : List Int} (h : ¬ shP s ys) : shB s ys = false := by
  cases hb : shB s ys with
  | false => rfl
  | true => exact absurd ((shB_iff s ys).1 hb) h
/-- A product as the machine has it. -/
def mulW (x d : Int) : Int := IntKind.i64.wrap (x * d)
/-- The weight of the first k small triangles of row r, behind a weight x; and of r rows. -/
def wgK (ys x3 : List Int) (m r : Nat) (x : Int) : Nat → Int
  | 0 => x
  | k + 1 => if nth x3 (tri r + k) = 3 then mulW (wgK ys x3 m r x k) (nth ys (k + m - 1 - r) - nth ys k) else wgK ys x3 m r x k
def wgR (ys x3 : List Int) (m : Nat) : Nat → Int
  | 0 => 1
  | r + 1 => wgK ys x3 m r (wgR ys x3 m r) (r + 1)
theorem wgK_three {ys x3 : List Int} {m r k : Nat} {x : Int} (h : nth x3 (tri r + k) = 3) : wgK ys x3 m r x (k + 1) = mulW (wgK ys x3 m r x k) (nth ys (k + m - 1 - r) - nth ys k) := if_pos h
theorem wgK_else {ys x3 : List Int} {m r k : Nat} {x : Int} (h : nth x3 (tri r + k) ≠ 3) : wgK ys x3 m r x (k + 1) = wgK ys x3 m r x k := if_neg h
theorem wgK_none {ys x3 : List Int} {m r : Nat} {x : Int} : ∀ K, (∀ k, k < K → nth x3 (tri r + k) ≠ 3) → wgK ys x3 m r x K = x
  | 0, _ => rfl
  | K + 1, h => by rw [wgK_else (h K (by omega))]; exact wgK_none K fun k hk => h k (by omega)
theorem wg_last {wt : Bool} {m : Nat} {x1 x2 x3 ys : List Int} (h : pzP wt (m : Int) x1 x2 x3) : wgR ys x3 m m = wgR ys x3 m (m - 1) := by
  have h1 := h.1.1
  obtain ⟨j, rfl⟩ : ∃ j, m = j + 1 := ⟨m - 1, by omega⟩
  show wgK ys x3 (j + 1) j (wgR ys x3 (j + 1) j) (j + 1) = wgR ys x3 (j + 1) j
  refine wgK_none _ fun k hk => ?_
  have h2 := (h.2.2 k (by rw [Int.toNat_natCast]; exact hk)).2.2.2
  rw [Int.toNat_natCast, Nat.add_sub_cancel] at h2
  omega
set_option maxHeartbeats 800000 in
theorem l5Shifts_any (s : Int) (A : Option Addr) (n c : Nat) (ys : List Int) (w : World) (hs : SI w A n ys) (hn : n ≤ 1099511627776) (hs0 : 1 ≤ s ∧ s ≤ 7) :
    Calls Try.prog 83 #[.int .i64 s, .slice A n c] w fun e w' => e = .returned (.bool (shB s ys)) ∧ Drawn w w' := by
  have HL := Lib.hid hs.1
  by_cases h5 : 5 < s
  · have HF := Lib.hid (shB_false (s := s) (ys := ys) (fun h => by have := h.1; omega))
    go_enter Try.func83, Try.ntmps83
    go_wp2
    go_ret
    exact ⟨ret_bool HF.out.symm, Drawn.refl _⟩
  · by_cases hns : (n : Int) = s
    · subst hns
      have hb : ((n : Int) != (n : Int)) = false := by simp
      have hn5 : n ≤ 5 := by omega
      have h5' : ¬ (5 : Int) < (n : Int) := h5
      clear h5 hs0
      go_enter Try.func83, Try.ntmps83
      go_wp2
      go_loopw [5] (fun i wr => ∃ k : Nat, k ≤ n ∧ i = .int .i64 k ∧ Drawn w wr ∧ ∀ j, j < k → -9 ≤ nth ys j ∧ nth ys j ≤ 9)
        (fun i _ => n - (intOf i).toNat)
      case atStart => exact ⟨0, Nat.zero_le _, rfl, Drawn.refl _, fun j hj => absurd hj (by omega)⟩
      case round =>
        obtain ⟨k, hk, rfl, hD, hall⟩ := hrel
        have HA := Lib.hid hall
        have HDR := Lib.hid hD
        have hs := hD.si hs
        clear hall hD
        by_cases hlt : k < n
        · have hlI : (k : Int) < (n : Int) := by omega
          obtain ⟨b, o, rfl, hb, hc⟩ := hs.at_ (by omega)
          have hc1 := hc k hlt
          obtain ⟨x, hx⟩ : ∃ x, x = nth ys k := ⟨_, rfl⟩
          rw [← hx] at hc1
          have HX := Lib.hid hx
          clear hc hx hs
          by_cases hg : -9 ≤ x ∧ x ≤ 9
          · have HG := Lib.hid hg
            have H2 := Lib.hid (fun w => l1In_yes' hg.1 hg.2 w)
            clear hg
            go_wp2_with (go_at_call 56; refine (H2.out _).mono ?_; rintro e w2 ⟨rfl, rfl⟩)
            go_roundw
            case rel => exact ⟨k + 1, by omega, by go_num, HDR.out, fun j hj => by
              rcases Nat.lt_or_ge j k with h | h
              · exact HA.out j h
              · obtain rfl : j = k := by omega
                rw [← HX.out]; exact HG.out⟩
            case measure => simp [intOf]; omega
          · have H2 := Lib.hid (fun w => l1In_no' (a := x) (lo := -9) (hi := 9) (by omega) w)
            have HF := Lib.hid (shB_false (s := (n : Int)) (ys := ys) (fun h => hg (by rw [HX.out]; exact h.2.2 k (by have := HL.out; omega))))
            clear hg
            go_wp2_with (go_at_call 56; refine (H2.out _).mono ?_; rintro e w2 ⟨rfl, rfl⟩)
            go_ret
            exact ⟨ret_bool HF.out.symm, HDR.out⟩
        · have hkn : k = n := by omega
          subst hkn
          go_wp2
          go_ret
          exact ⟨ret_bool (shB_true ⟨by omega, by rw [HL.out], by rw [HL.out]; exact HA.out⟩).symm, HDR.out⟩
    · have HF := Lib.hid (shB_false (s := s) (ys := ys) (fun h => hns (by rw [← h.2.1, HL.out])))
      have hb : ((n : Int) != s) = true := by simpa using hns
      clear hns
      go_enter Try.func83, Try.ntmps83
      go_wp2
      go_ret
      exact ⟨ret_bool HF.out.symm, Drawn.refl _⟩
set_option maxHeartbeats 800000 in
theorem areShifts_any (s : Int) (A : Option Addr) (n c : Nat) (ys : List Int) (w : World) (hs : SI w A n ys) (hn : n ≤ 1099511627776) (h5 : s ≤ 5) :
    Calls Try.prog 85 #[.slice A n c, .int .i64 s] w fun e w' => e = .returned (.bool (shB s ys)) ∧ Drawn w w' := by
  have HL := Lib.hid hs.1
  by_cases hns : (n : Int) = s
  · have hb : ((n : Int) == s) = true := by simpa using hns
    by_cases hall : ∀ k, k < n → -9 ≤ nth ys k ∧ nth ys k ≤ 9
    · have HC := Lib.hid (containsShift_no A n c ys w hs hn hall)
      have HF := Lib.hid (shB_true (s := s) (ys := ys) ⟨h5, by rw [HL.out]; exact hns, by rw [HL.out]; exact hall⟩)
      clear hs hall hns
      go_enter Try.func85, Try.ntmps85
      go_wp2_with (go_at_call 59; refine HC.out.mono ?_; rintro e w2 ⟨rfl, hd2⟩; have HD2 := Lib.hid hd2; clear hd2)
      go_ret
      exact ⟨ret_bool HF.out.symm, HD2.out⟩
    · have HC := Lib.hid (containsShift_yes A n c ys w hs hn hall)
      have HF := Lib.hid (shB_false (s := s) (ys := ys) (fun h => hall (by have := h.2.2; rwa [HL.out] at this)))
      clear hs hall hns
      go_enter Try.func85, Try.ntmps85
      go_wp2_with (go_at_call 59; refine HC.out.mono ?_; rintro e w2 ⟨rfl, hd2⟩; have HD2 := Lib.hid hd2; clear hd2)
      go_ret
      exact ⟨ret_bool HF.out.symm, HD2.out⟩
  · have HF := Lib.hid (shB_false (s := s) (ys := ys) (fun h => hns (by rw [← h.2.1, HL.out])))
    have hb : ((n : Int) == s) = false := by simpa using hns
    clear hns hs
    go_enter Try.func85, Try.ntmps85
    go_wp2
    go_ret
    exact ⟨ret_bool HF.out.symm, Drawn.refl _⟩
set_option maxRecDepth 100000 in
set_option maxHeartbeats 4000000 in
theorem l5Weight_any (m : Nat) (A1 A2 A3 : Option Addr) (n1 c1 n2 c2 n3 c3 : Nat) (x3 : List Int) (AY : Option Addr) (nY cY : Nat) (ys : List Int) (w : World) (h3 : SI w A3 n3 x3) (hY : SI w AY nY ys) (hm : 1 ≤ m ∧ m ≤ 5) (hl : n3 = tri m) (hy : nY = m) (hb9 : ∀ k, k < m → -9 ≤ nth ys k ∧ nth ys k ≤ 9) :
    Calls Try.prog 84 #[.agg #[.int .i64 m, .slice A1 n1 c1, .slice A2 n2 c2, .slice A3 n3 c3], .slice AY nY cY] w fun e w' => e = .returned (.int .i64 (wgR ys x3 m (m - 1))) ∧ Below w.heap.size w w' := by
  obtain ⟨w1, hw1⟩ : ∃ w1, w1 = w.alloc (.cells #[.int .i64 m, .slice A1 n1 c1, .slice A2 n2 c2, .slice A3 n3 c3] 35) := ⟨_, rfl⟩
  obtain ⟨g, hg⟩ : ∃ g, g = w.heap.size := ⟨_, rfl⟩
  have hk : Blk w1 g 35 #[.int .i64 m, .slice A1 n1 c1, .slice A2 n2 c2, .slice A3 n3 c3] := by rw [hw1, hg]; exact Blk.new _ _ _
  have hb : Below w.heap.size w w1 := by rw [hw1]; exact Below.alloc_self _ _
  have HB1 := Lib.hid hb
  have HW := Lib.hid hw1
  have HG := Lib.hid hg
  have HK := Lib.hid hk
  have HS := Lib.hid (And.intro (h3.below hb (Nat.le_refl _)) (hY.below hb (Nat.le_refl _)))
  have HL := Lib.hid hl
  have HY := Lib.hid hy
  have H9 := Lib.hid hb9
  obtain ⟨hm1, hm5⟩ := hm
  obtain ⟨q0, q1, q2, q3⟩ := cells4 hk
  clear hw1 hg hk hb h3 hY hl hy hb9
  go_enter Try.func84, Try.ntmps84
  go_upto_region 1 with fail
  rw [← HW.out, ← HG.out]
  go_wp2_with fail
  clear q0 q1 q2 q3
  go_loopw [5, 6] (fun xv rv wr => ∃ q : Nat, q + 1 ≤ m ∧ rv = .int .i64 ((q + 1 : Nat) : Int) ∧ xv = .int .i64 (wgR ys x3 m q) ∧ Drawn w1 wr)
    (fun _ rv _ => m - (intOf rv).toNat)
  case atStart => exact ⟨0, by omega, rfl, rfl, Drawn.refl _⟩
  case round =>
    obtain ⟨q, hq, rfl, rfl, hD⟩ := hrel
    have HDR := Lib.hid hD
    obtain ⟨q0, q1, q2, q3⟩ := cells4 (HK.out.drawn hD)
    clear hD
    obtain ⟨x0, hx0⟩ : ∃ x0, x0 = wgR ys x3 m q := ⟨_, rfl⟩
    rw [← hx0]
    have HX0 := Lib.hid hx0
    by_cases hlt : q + 1 < m
    case neg =>
      have hqm : q = m - 1 := by omega
      have HE : Hid (x0 = wgR ys x3 m (m - 1)) := Lib.hid (by rw [hx0, hqm])
      have hltI : ¬ ((q + 1 : Nat) : Int) < (m : Int) := by omega
      clear hx0 hqm
      go_wp2
      go_ret
      exact ⟨ret_int HE.out, HB1.out.trans (HDR.out.below _)⟩
    case pos =>
      have hltI : ((q + 1 : Nat) : Int) < (m : Int) := by omega
      have wq1 : IntKind.i64.wrap ((q : Int) + 1) = (q : Int) + 1 := IntWalk.i64_in _ (by omega)
      clear hx0
      go_wp2_with fail
      clear q0 q1 q2 q3
      obtain ⟨wo, rfl⟩ : ∃ wo, wo = wr := ⟨wr, rfl⟩
      go_loopw [5, 7] (fun xv kv wx => ∃ k : Nat, k ≤ q + 1 ∧ kv = .int .i64 k ∧ xv = .int .i64 (wgK ys x3 m q x0 k) ∧ Drawn w1 wx)
        (fun _ kv _ => q + 1 - (intOf kv).toNat)
      case atStart => exact ⟨0, Nat.zero_le _, rfl, rfl, HDR.out⟩
      case round =>
        obtain ⟨k, hk, rfl, rfl, hD⟩ := hrel
        clear HDR
        have HDR := Lib.hid hD
        obtain ⟨q0, q1, q2, q3⟩ := cells4 (HK.out.drawn hD)
        clear hD
        obtain ⟨xk, hxk⟩ : ∃ xk, xk = wgK ys x3 m q x0 k := ⟨_, rfl⟩
        rw [← hxk]
        have HXK := Lib.hid hxk
        clear hxk
        by_cases hkq : k < q + 1
        case neg =>
          have hkI : ¬ (k : Int) < ((q + 1 : Nat) : Int) := by omega
          have hkI2 : ¬ (k : Int) < (q : Int) + 1 := by omega
          have HKE : Hid (k = q + 1) := Lib.hid (by omega)
          have HE : Hid (xk = wgR ys x3 m (q + 1)) := Lib.hid (by rw [HXK.out, HKE.out, HX0.out]; rfl)
          go_wp2
          go_roundw
          case rel => exact ⟨q + 1, by omega, by go_num, by rw [HE.out], HDR.out⟩
          case measure => simp [intOf]; omega
        case pos =>
          have hkI : (k : Int) < ((q + 1 : Nat) : Int) := by omega
          have hkI2 : (k : Int) < (q : Int) + 1 := by omega
          obtain ⟨a, ha⟩ : ∃ a, a = tri q + k := ⟨_, rfl⟩
          have HPL := Lib.hid (fun w => l5Place_d (i := (q : Int)) (j := (k : Int)) q k a (by omega) rfl ha w (by omega) (by omega))
          have hat : a < n3 := by rw [ha, HL.out]; exact tri_lt (by omega) (by omega)
          obtain ⟨iy, hiy⟩ : ∃ iy, iy = k + m - 1 - q := ⟨_, rfl⟩
          have hiyl : iy < nY := by have := HY.out; omega
          have hkl : k < nY := by have := HY.out; omega
          obtain ⟨b3, o3, rfl, _, hc3⟩ := (HDR.out.si HS.out.1).at_ (by omega)
          obtain ⟨bY, oY, rfl, _, hcY⟩ := (HDR.out.si HS.out.2).at_ (by omega)
          have hd3 := hc3 a hat
          have hy1 := hcY iy hiyl
          have hy2 := hcY k hkl
          have h91 := H9.out iy (by have := HY.out; omega)
          have h92 := H9.out k (by have := HY.out; omega)
          obtain ⟨b, hbb⟩ : ∃ b, b = nth x3 a := ⟨_, rfl⟩
          obtain ⟨ya, hya⟩ : ∃ ya, ya = nth ys iy := ⟨_, rfl⟩
          obtain ⟨yb, hyb⟩ : ∃ yb, yb = nth ys k := ⟨_, rfl⟩
          rw [← hbb] at hd3
          rw [← hya] at hy1 h91
          rw [← hyb] at hy2 h92
          have HV : Hid (b = nth x3 (tri q + k) ∧ ya = nth ys (k + m - 1 - q) ∧ yb = nth ys k) := Lib.hid (by rw [← ha, ← hiy]; exact ⟨hbb, hya, hyb⟩)
          have i3 : (a : Int) < (n3 : Int) := by omega
          have iY1 : (iy : Int) < (nY : Int) := by omega
          have iY2 : (k : Int) < (nY : Int) := by omega
          have wr1 : IntKind.i64.wrap (q : Int) = (q : Int) := IntWalk.i64_in _ (by omega)
          have wkm : IntKind.i64.wrap ((k : Int) + (m : Int)) = (k : Int) + (m : Int) := IntWalk.i64_in _ (by omega)
          have wi : IntKind.i64.wrap ((k : Int) + (m : Int) - ((q : Int) + 1)) = (iy : Int) := by rw [show (k : Int) + (m : Int) - ((q : Int) + 1) = (iy : Int) by omega]; exact IntWalk.i64_in _ (by omega)
          have wd : IntKind.i64.wrap (ya - yb) = ya - yb := IntWalk.i64_in _ (by omega)
          obtain ⟨v, hv⟩ : ∃ v, v = mulW xk (ya - yb) := ⟨_, rfl⟩
          have wv : IntKind.i64.wrap (xk * (ya - yb)) = v := by rw [hv]; rfl
          have HVV := Lib.hid hv
          clear hc3 hcY ha hat hiy hiyl hkl h91 h92 hbb hya hyb hv
          by_cases hb3 : b = 3
          case neg =>
            have hbe : (b == 3) = false := by simpa using hb3
            have HSU : Hid (wgK ys x3 m q x0 (k + 1) = xk) := Lib.hid (by rw [wgK_else (by rw [← HV.out.1]; exact hb3), HXK.out])
            clear hb3
            go_wp2_with fail
            go_quiet ((go_at_call 76; with_reducible exact Calls.quiet_of (HPL.out _)))
            go_wp2
            go_roundw
            case rel => exact ⟨k + 1, by omega, by go_num, by rw [HSU.out], HDR.out.drewN _⟩
            case measure => simp [intOf]; omega
          case pos =>
            have hbe : (b == 3) = true := by simpa using hb3
            have HSU : Hid (wgK ys x3 m q x0 (k + 1) = v) := Lib.hid (by rw [wgK_three (by rw [← HV.out.1]; exact hb3), HVV.out, HXK.out, HV.out.2.1, HV.out.2.2])
            clear hb3
            go_wp2_with fail
            go_quiet ((go_at_call 76; with_reducible exact Calls.quiet_of (HPL.out _)))
            go_wp2_with fail
            obtain ⟨wz, hwz⟩ : ∃ wz, wz = wr.drewN nq := ⟨_, rfl⟩
            rw [← hwz]
            have HDZ : Hid (Drawn w1 wz) := Lib.hid (by rw [hwz]; exact HDR.out.drewN _)
            have z1 : wz.cell? ⟨bY, oY + iy, none⟩ = some (.int .i64 ya) := by rw [hwz]; exact hy1
            have z2 : wz.cell? ⟨bY, oY + k, none⟩ = some (.int .i64 yb) := by rw [hwz]; exact hy2
            clear q0 q1 q2 q3 hy1 hy2 hd3 hwz
            obtain ⟨q0, q1, q2, q3⟩ := cells4 (HK.out.drawn HDZ.out)
            go_quiet (fail)
            go_wp2
            go_roundw
            case rel => exact ⟨k + 1, by omega, by go_num, by rw [HSU.out], HDZ.out.drewN _⟩
            case measure => simp [intOf]; omega
set_option maxRecDepth 100000 in
set_option maxHeartbeats 4000000 in
theorem pzWeight_any (m : Nat) (A1 A2 A3 : Option Addr) (n1 c1 n2 c2 n3 c3 : Nat) (x3 : List Int) (AY : Option Addr) (nY cY : Nat) (ys : List Int) (w : World) (h3 : SI w A3 n3 x3) (hY : SI w AY nY ys) (hm : 1 ≤ m ∧ m ≤ 5) (hl : n3 = tri m) (hy : nY = m) (hb9 : ∀ k, k < m → -9 ≤ nth ys k ∧ nth ys k ≤ 9) :
    Calls Try.prog 86 #[.agg #[.int .i64 m, .slice A1 n1 c1, .slice A2 n2 c2, .slice A3 n3 c3], .slice AY nY cY] w fun e w' => e = .returned (.int .i64 (wgR ys x3 m (m))) ∧ Below w.heap.size w w' := by
  obtain ⟨w1, hw1⟩ : ∃ w1, w1 = w.alloc (.cells #[.int .i64 m, .slice A1 n1 c1, .slice A2 n2 c2, .slice A3 n3 c3] 35) := ⟨_, rfl⟩
  obtain ⟨g, hg⟩ : ∃ g, g = w.heap.size := ⟨_, rfl⟩
  have hk : Blk w1 g 35 #[.int .i64 m, .slice A1 n1 c1, .slice A2 n2 c2, .slice A3 n3 c3] := by rw [hw1, hg]; exact Blk.new _ _ _
  have hb : Below w.heap.size w w1 := by rw [hw1]; exact Below.alloc_self _ _
  have HB1 := Lib.hid hb
  have HW := Lib.hid hw1
  have HG := Lib.hid hg
  have HK := Lib.hid hk
  have HS := Lib.hid (And.intro (h3.below hb (Nat.le_refl _)) (hY.below hb (Nat.le_refl _)))
  have HL := Lib.hid hl
  have HY := Lib.hid hy
  have H9 := Lib.hid hb9
  obtain ⟨hm1, hm5⟩ := hm
  obtain ⟨q0, q1, q2, q3⟩ := cells4 hk
  clear hw1 hg hk hb h3 hY hl hy hb9
  go_enter Try.func86, Try.ntmps86
  go_upto_region 1 with fail
  rw [← HW.out, ← HG.out]
  go_wp2_with fail
  clear q0 q1 q2 q3
  go_loopw [5, 10] (fun xv rv wr => ∃ q : Nat, q ≤ m ∧ rv = .int .i64 (q : Int) ∧ xv = .int .i64 (wgR ys x3 m q) ∧ Drawn w1 wr)
    (fun _ rv _ => m - (intOf rv).toNat)
  case atStart => exact ⟨0, by omega, rfl, rfl, Drawn.refl _⟩
  case round =>
    obtain ⟨q, hq, rfl, rfl, hD⟩ := hrel
    have HDR := Lib.hid hD
    obtain ⟨q0, q1, q2, q3⟩ := cells4 (HK.out.drawn hD)
    clear hD
    obtain ⟨x0, hx0⟩ : ∃ x0, x0 = wgR ys x3 m q := ⟨_, rfl⟩
    rw [← hx0]
    have HX0 := Lib.hid hx0
    by_cases hlt : q < m
    case neg =>
      have hqm : q = m := by omega
      have HE : Hid (x0 = wgR ys x3 m (m)) := Lib.hid (by rw [hx0, hqm])
      have hltI : ¬ (q : Int) < (m : Int) := by omega
      clear hx0 hqm
      go_wp2
      go_ret
      exact ⟨ret_int HE.out, HB1.out.trans (HDR.out.below _)⟩
    case pos =>
      have hltI : (q : Int) < (m : Int) := by omega
      have wq1 : IntKind.i64.wrap ((q : Int) + 1) = (q : Int) + 1 := IntWalk.i64_in _ (by omega)
      clear hx0
      go_wp2_with fail
      clear q0 q1 q2 q3
      obtain ⟨wo, rfl⟩ : ∃ wo, wo = wr := ⟨wr, rfl⟩
      go_loopw [5, 15] (fun xv kv wx => ∃ k : Nat, k ≤ q + 1 ∧ kv = .int .i64 k ∧ xv = .int .i64 (wgK ys x3 m q x0 k) ∧ Drawn w1 wx)
        (fun _ kv _ => q + 1 - (intOf kv).toNat)
      case atStart => exact ⟨0, Nat.zero_le _, rfl, rfl, HDR.out⟩
      case round =>
        obtain ⟨k, hk, rfl, rfl, hD⟩ := hrel
        clear HDR
        have HDR := Lib.hid hD
        obtain ⟨q0, q1, q2, q3⟩ := cells4 (HK.out.drawn hD)
        clear hD
        obtain ⟨xk, hxk⟩ : ∃ xk, xk = wgK ys x3 m q x0 k := ⟨_, rfl⟩
        rw [← hxk]
        have HXK := Lib.hid hxk
        clear hxk
        by_cases hkq : k < q + 1
        case neg =>
          have hkI : ¬ (k : Int) < ((q + 1 : Nat) : Int) := by omega
          have hkI2 : ¬ (k : Int) < (q : Int) + 1 := by omega
          have HKE : Hid (k = q + 1) := Lib.hid (by omega)
          have HE : Hid (xk = wgR ys x3 m (q + 1)) := Lib.hid (by rw [HXK.out, HKE.out, HX0.out]; rfl)
          go_wp2
          go_roundw
          case rel => exact ⟨q + 1, by omega, by go_num, by rw [HE.out], HDR.out⟩
          case measure => simp [intOf]; omega
        case pos =>
          have hkI : (k : Int) < ((q + 1 : Nat) : Int) := by omega
          have hkI2 : (k : Int) < (q : Int) + 1 := by omega
          obtain ⟨a, ha⟩ : ∃ a, a = tri q + k := ⟨_, rfl⟩
          have HPL := Lib.hid (fun w => smallPlace_d (i := (q : Int)) (j := (k : Int)) q k a (by omega) rfl ha w (by omega) (by omega))
          have hat : a < n3 := by rw [ha, HL.out]; exact tri_lt (by omega) (by omega)
          obtain ⟨iy, hiy⟩ : ∃ iy, iy = k + m - 1 - q := ⟨_, rfl⟩
          have hiyl : iy < nY := by have := HY.out; omega
          have hkl : k < nY := by have := HY.out; omega
          obtain ⟨b3, o3, rfl, _, hc3⟩ := (HDR.out.si HS.out.1).at_ (by omega)
          obtain ⟨bY, oY, rfl, _, hcY⟩ := (HDR.out.si HS.out.2).at_ (by omega)
          have hd3 := hc3 a hat
          have hy1 := hcY iy hiyl
          have hy2 := hcY k hkl
          have h91 := H9.out iy (by have := HY.out; omega)
          have h92 := H9.out k (by have := HY.out; omega)
          obtain ⟨b, hbb⟩ : ∃ b, b = nth x3 a := ⟨_, rfl⟩
          obtain ⟨ya, hya⟩ : ∃ ya, ya = nth ys iy := ⟨_, rfl⟩
          obtain ⟨yb, hyb⟩ : ∃ yb, yb = nth ys k := ⟨_, rfl⟩
          rw [← hbb] at hd3
          rw [← hya] at hy1 h91
          rw [← hyb] at hy2 h92
          have HV : Hid (b = nth x3 (tri q + k) ∧ ya = nth ys (k + m - 1 - q) ∧ yb = nth ys k) := Lib.hid (by rw [← ha, ← hiy]; exact ⟨hbb, hya, hyb⟩)
          have i3 : (a : Int) < (n3 : Int) := by omega
          have iY1 : (iy : Int) < (nY : Int) := by omega
          have iY2 : (k : Int) < (nY : Int) := by omega
          have wr1 : IntKind.i64.wrap (q : Int) = (q : Int) := IntWalk.i64_in _ (by omega)
          have wkm : IntKind.i64.wrap ((k : Int) + (m : Int)) = (k : Int) + (m : Int) := IntWalk.i64_in _ (by omega)
          have wi0 : IntKind.i64.wrap ((k : Int) + (m : Int) - 1) = (k : Int) + (m : Int) - 1 := IntWalk.i64_in _ (by omega)
          have wi : IntKind.i64.wrap ((k : Int) + (m : Int) - 1 - (q : Int)) = (iy : Int) := by rw [show (k : Int) + (m : Int) - 1 - (q : Int) = (iy : Int) by omega]; exact IntWalk.i64_in _ (by omega)
          have wd : IntKind.i64.wrap (ya - yb) = ya - yb := IntWalk.i64_in _ (by omega)
          obtain ⟨v, hv⟩ : ∃ v, v = mulW xk (ya - yb) := ⟨_, rfl⟩
          have wv : IntKind.i64.wrap (xk * (ya - yb)) = v := by rw [hv]; rfl
          have HVV := Lib.hid hv
          clear hc3 hcY ha hat hiy hiyl hkl h91 h92 hbb hya hyb hv
          by_cases hb3 : b = 3
          case neg =>
            have hbe : (b == 3) = false := by simpa using hb3
            have HSU : Hid (wgK ys x3 m q x0 (k + 1) = xk) := Lib.hid (by rw [wgK_else (by rw [← HV.out.1]; exact hb3), HXK.out])
            clear hb3
            go_wp2_with fail
            go_quiet ((go_at_call 79; with_reducible exact Calls.quiet_of (HPL.out _)))
            go_wp2
            go_roundw
            case rel => exact ⟨k + 1, by omega, by go_num, by rw [HSU.out], HDR.out.drewN _⟩
            case measure => simp [intOf]; omega
          case pos =>
            have hbe : (b == 3) = true := by simpa using hb3
            have HSU : Hid (wgK ys x3 m q x0 (k + 1) = v) := Lib.hid (by rw [wgK_three (by rw [← HV.out.1]; exact hb3), HVV.out, HXK.out, HV.out.2.1, HV.out.2.2])
            clear hb3
            go_wp2_with fail
            go_quiet ((go_at_call 79; with_reducible exact Calls.quiet_of (HPL.out _)))
            go_wp2_with fail
            obtain ⟨wz, hwz⟩ : ∃ wz, wz = wr.drewN nq := ⟨_, rfl⟩
            rw [← hwz]
            have HDZ : Hid (Drawn w1 wz) := Lib.hid (by rw [hwz]; exact HDR.out.drewN _)
            have z1 : wz.cell? ⟨bY, oY + iy, none⟩ = some (.int .i64 ya) := by rw [hwz]; exact hy1
            have z2 : wz.cell? ⟨bY, oY + k, none⟩ = some (.int .i64 yb) := by rw [hwz]; exact hy2
            clear q0 q1 q2 q3 hy1 hy2 hd3 hwz
            obtain ⟨q0, q1, q2, q3⟩ := cells4 (HK.out.drawn HDZ.out)
            go_quiet (fail)
            go_wp2
            go_roundw
            case rel => exact ⟨k + 1, by omega, by go_num, by rw [HSU.out], HDZ.out.drewN _⟩
            case measure => simp [intOf]; omega

end Go.Proofs.Ytdappakjbclffaa
