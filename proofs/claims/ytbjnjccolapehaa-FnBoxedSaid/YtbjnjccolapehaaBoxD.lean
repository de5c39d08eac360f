/-
  Three shapes in one box, drawn: contracts of the draws. Conditions: at most 2^20 bytes.
-/
import Derived.Test.YtbjnjccolapehaaDrawTwo
import Derived.Test.YtbjnjccolapehaaBoxAll
namespace Go.Proofs.Ytbjnjccolapehaa
open Go.RowKit

theorem shP_snoc {d x : Int} {ys : List Int} (h : shP d ys) (h1 : 1 ≤ x) (h2 : x ≤ prevD d ys ys.length) : shP d (ys ++ [x]) ∧ prevD d (ys ++ [x]) (ys.length + 1) = x := by
  refine ⟨fun k hk => ?_, nth_snoc_eq⟩
  rw [List.length_append, List.length_singleton] at hk
  rcases Nat.lt_or_ge k ys.length with hl | hl
  · rw [nth_snoc_lt hl]
    have := h k hl
    refine ⟨this.1, ?_⟩
    cases k with
    | zero => exact this.2
    | succ k => show nth ys k.succ ≤ nth (ys ++ [x]) k; rw [nth_snoc_lt (by omega)]; exact this.2
  · obtain rfl : k = ys.length := by omega
    rw [nth_snoc_eq]
    refine ⟨h1, ?_⟩
    cases hk0 : ys.length with
    | zero => rw [hk0] at h2; exact h2
    | succ k => rw [hk0] at h2; show x ≤ nth (ys ++ [x]) k; rw [nth_snoc_lt (by omega)]; exact h2
theorem shP_nil (d : Int) : shP d [] := fun k hk => absurd hk (by simp)
set_option maxHeartbeats 1000000 in
theorem dShape_any (g r d : Nat) (di : Int) (w : World) (hc : Cu w g) (hr : r ≤ 16) (hd : d ≤ 16) (hdi : di = (d : Int)) :
    Calls Try.prog 29 #[.pointer (some ⟨g, 0, none⟩), .int .i64 r, .int .i64 di] w fun e w' => ∃ ys, FreshG g w w' e ys ∧ shP (d : Int) ys ∧ ys.length ≤ r := by
  subst hdi
  have hgl := hc.lt
  go_enter Try.func29, Try.ntmps29
  go_wp2
  go_loopw [7, 8, 9] (fun v mv i wr => ∃ (k : Nat) (A : Option Addr) (c : Nat) (ys : List Int) (mo : Int), k ≤ r ∧ i = .int .i64 k ∧ v = .slice A k c ∧ mv = .int .i64 mo ∧ 0 ≤ mo ∧ mo ≤ 16 ∧ mo = prevD (d : Int) ys ys.length ∧ Own wr w.heap.size wr.heap.size A k c ys ∧ shP (d : Int) ys ∧ Cu wr g ∧ w.grownBy wr (some g))
    (fun _ _ i _ => r - (intOf i).toNat)
  case atStart => exact ⟨0, _, _, [], (d : Int), Nat.zero_le _, rfl, rfl, rfl, by omega, by omega, rfl, (Own.empty w).wide (Nat.le_refl _) (by simp), shP_nil _, hc.below (Below.alloc_self w _) hgl, World.grownBy_alloc w _ _⟩
  case round =>
    obtain ⟨k, A0, c0, ys, mo, hk, rfl, rfl, rfl, hm0, hm1, hmo, hown, hsh, hcu, hg⟩ := hrel
    have HO := Lib.hid hown
    have HSH := Lib.hid hsh
    have HC := Lib.hid hcu
    have HG := Lib.hid hg
    have HMO := Lib.hid hmo
    have HLN := Lib.hid hown.len
    clear hown hsh hcu hg hc hmo
    by_cases hlt : k < r
    · have hkI : (k : Int) < (r : Int) := by omega
      by_cases hpos : 0 < mo
      · have hw1 : IntKind.i64.wrap (mo + 1) = mo + 1 := IntWalk.i64_in _ (by omega)
        go_wp2_with fail
        refine (l1Below_any g (mo + 1) wr HC.out (by omega)).mono ?_
        rintro e w1 ⟨x, hx0, hx1, -, rfl, hc1, hg1⟩
        have hx2 := hx1 (by omega)
        have HO1 : Hid (Own w1 w.heap.size w1.heap.size A0 k c0 ys) := Lib.hid ((HO.out.grown hg1 (by rintro k0 ⟨⟩; exact .inl hgl)).wide (Nat.le_refl _) hg1.size)
        have HC1 := Lib.hid hc1
        have HG1 := Lib.hid (grown_trans HG.out hg1)
        clear hx1 hc1 hg1
        by_cases hz : x = 0
        · have hzb : (x == 0) = true := by simpa using hz
          subst hz
          clear hx0 hx2
          go_wp2
          go_ret
          exact ⟨ys, ⟨A0, k, c0, rfl, HO1.out, HC1.out, HG1.out⟩, HSH.out, by rw [HLN.out]; exact hk⟩
        · have hzb : (x == 0) = false := by simpa using hz
          have hs := shP_snoc (x := x) HSH.out (by omega) (by rw [← HMO.out]; omega)
          have HS := Lib.hid hs
          have hx16 : x ≤ 16 := by omega
          clear hs hx2
          go_wp2_with (at_builtin; refine wpList_append1 rfl (.tmp 29) (.tmp 31) rfl w.heap.size A0 k c0 ys x rfl rfl HO1.out HG1.out.size (by omega) ?_; intro A' c' w3 ho3 hg3 hb3)
          go_roundw
          case rel => exact ⟨k + 1, _, _, ys ++ [x], x, by omega, by go_num, rfl, rfl, hx0, hx16, by rw [List.length_append, List.length_singleton]; exact HS.out.2.symm, ho3, HS.out.1, HC1.out.below hb3 hgl, grown_below HG1.out hb3⟩
          case measure => simp [intOf]; omega
      · have hneg : ¬ (mo > 0) := hpos
        go_wp2
        go_ret
        exact ⟨ys, ⟨A0, k, c0, rfl, HO.out, HC.out, HG.out⟩, HSH.out, by rw [HLN.out]; exact hk⟩
    · have hkI : ¬ (k : Int) < (r : Int) := by omega
      go_wp2
      go_ret
      exact ⟨ys, ⟨A0, k, c0, rfl, HO.out, HC.out, HG.out⟩, HSH.out, by rw [HLN.out]; exact hk⟩
set_option maxHeartbeats 1000000 in
/-- One of two numbers. -/
theorem pick2_any (g b c : Nat) (x y : Int) (w : World) (hc : Cu w g) (hb : Blk w b 3 #[.int .i64 x, .int .i64 y]) (hbg : b ≠ g) :
    Calls Try.prog 46 #[.pointer (some ⟨g, 0, none⟩), .slice (some ⟨b, 0, none⟩) 2 c] w fun e w' => ∃ z : Int, (z = x ∨ z = y) ∧ e = .returned (.int .i64 z) ∧ Cu w' g ∧ w.grownBy w' (some g) := by
  have HC := Lib.hid hc
  have HK := Lib.hid hb
  clear hc hb
  go_enter Try.func46, Try.ntmps46
  go_wp2_with fail
  refine (l1Below_any g 2 w HC.out (by omega)).mono ?_
  rintro e w1 ⟨i, hi0, hi1, -, rfl, hc1, hg1⟩
  have hi2 := hi1 (by omega)
  have HC1 := Lib.hid hc1
  have HG1 := Lib.hid hg1
  have hk1 := HK.out.grown hg1 (by simpa using hbg)
  have q0 : w1.cell? ⟨b, 0, none⟩ = some (.int .i64 x) := by rw [hk1.cell]; rfl
  have q1 : w1.cell? ⟨b, 1, none⟩ = some (.int .i64 y) := by rw [hk1.cell]; rfl
  clear hi1 hc1 hg1 hk1
  have h01 : i = 0 ∨ i = 1 := by omega
  rcases h01 with rfl | rfl
  · clear hi0 hi2
    go_wp2
    go_ret
    exact ⟨x, .inl rfl, rfl, HC1.out, HG1.out⟩
  · clear hi0 hi2
    go_wp2
    go_ret
    exact ⟨y, .inr rfl, rfl, HC1.out, HG1.out⟩
set_option maxHeartbeats 1000000 in
theorem dBox6_any (g : Nat) (w : World) (hc : Cu w g) :
    Calls Try.prog 28 #[.pointer (some ⟨g, 0, none⟩), .int .i64 6] w fun e w' => ∃ k m : Nat, e = .returned (.tuple #[.int .i64 k, .int .i64 m]) ∧ k ≤ m ∧ 2 ≤ m ∧ m ≤ 6 ∧ Cu w' g ∧ w.grownBy w' (some g) := by
  have hgl := hc.lt
  have HC := Lib.hid hc
  clear hc
  go_enter Try.func28, Try.ntmps28
  go_wp2_with fail
  refine (l1Below_any g 5 w HC.out (by omega)).mono ?_
  rintro e w1 ⟨x, hx0, hx1, -, rfl, hc1, hg1⟩
  have hx2 := hx1 (by omega)
  obtain ⟨x', rfl⟩ : ∃ j : Nat, x = (j : Int) := ⟨x.toNat, by omega⟩
  obtain ⟨m, hm⟩ : ∃ m : Nat, m = x' + 2 := ⟨_, rfl⟩
  have hm2 : 2 ≤ m := by omega
  have hm6 : m ≤ 6 := by omega
  have hmI : (2 : Int) + (x' : Int) = (m : Int) := by omega
  have hmI2 : (x' : Int) + 2 = (m : Int) := by omega
  have HC1 := Lib.hid hc1
  have HG1 := Lib.hid hg1
  have hs1 := hg1.size
  clear hx1 hx2 hx0 hc1 hg1 hm
  go_wp2_with fail
  refine (l1Once_any g 12 w1 HC1.out (by omega)).mono ?_
  rintro e w2 ⟨bb, rfl, hc2, hg2⟩
  have HC2 := Lib.hid hc2
  have HG2 := Lib.hid (grown_trans HG1.out hg2)
  have hs2 := hg2.size
  clear hc2 hg2
  have hw1 : IntKind.i64.wrap ((2 : Int) + (x' : Int)) = (m : Int) := by rw [hmI]; exact IntWalk.i64_in _ (by omega)
  have hw2 : IntKind.i64.wrap ((m : Int) - 1) = (m : Int) - 1 := IntWalk.i64_in _ (by omega)
  cases bb with
  | true =>
    go_wp2_with fail
    refine (pick2_any g w2.heap.size 2 0 (m : Int) (w2.alloc (.cells #[.int .i64 0, .int .i64 m] 3)) (HC2.out.below (Below.alloc_self w2 _) (by omega)) (Blk.new w2 _ _) (by omega)).mono ?_
    rintro e w3 ⟨z, hz, rfl, hc3, hg3⟩
    have HC3 := Lib.hid hc3
    have HG3 := Lib.hid (grown_trans (grown_trans HG2.out (World.grownBy_alloc w2 _ _)) hg3)
    clear hc3 hg3
    obtain ⟨k, rfl, hk⟩ : ∃ k : Nat, z = (k : Int) ∧ k ≤ m := by
      rcases hz with rfl | rfl
      · exact ⟨0, rfl, Nat.zero_le _⟩
      · exact ⟨m, rfl, Nat.le_refl _⟩
    clear hz
    go_wp2
    go_ret2
    exact ⟨k, m, rfl, hk, hm2, hm6, HC3.out, HG3.out⟩
  | false =>
    go_wp2_with fail
    refine (l1Below_any g ((m : Int) - 1) w2 HC2.out (by omega)).mono ?_
    rintro e w3 ⟨y, hy0, hy1, -, rfl, hc3, hg3⟩
    have hy2 := hy1 (by omega)
    obtain ⟨y', rfl⟩ : ∃ j : Nat, y = (j : Int) := ⟨y.toNat, by omega⟩
    obtain ⟨k, hk⟩ : ∃ k : Nat, k = y' + 1 := ⟨_, rfl⟩
    have hkm : k ≤ m := by omega
    have hkI : (1 : Int) + (y' : Int) = (k : Int) := by omega
    have hkI2 : (y' : Int) + 1 = (k : Int) := by omega
    have hw3 : IntKind.i64.wrap ((1 : Int) + (y' : Int)) = (k : Int) := by rw [hkI]; exact IntWalk.i64_in _ (by omega)
    have HC3 := Lib.hid hc3
    have HG3 := Lib.hid (grown_trans HG2.out hg3)
    clear hc3 hg3 hy0 hy1 hy2 hk
    go_wp2
    go_ret2
    exact ⟨k, m, by first | rfl | rw [hkI] | rw [hkI2], hkm, hm2, hm6, HC3.out, HG3.out⟩
set_option maxRecDepth 100000 in
set_option maxHeartbeats 2000000 in
/-- Three shapes in one box. -/
theorem drawBoxes_any (A : Option Addr) (n c : Nat) (bs : List Int) (w : World) (hs : SB w w.heap.size A n bs) (hn : n ≤ 1048576) :
    Calls Try.prog 12 #[.slice A n c] w fun e w' => ∃ (xs ys zs : List Int) (A1 A2 A3 : Option Addr) (n1 c1 n2 c2 n3 c3 k m : Nat), e = .returned (.tuple #[.slice A1 n1 c1, .slice A2 n2 c2, .slice A3 n3 c3, .int .i64 k, .int .i64 m]) ∧
      Own w' w.heap.size w'.heap.size A1 n1 c1 xs ∧ Own w' w.heap.size w'.heap.size A2 n2 c2 ys ∧ Own w' w.heap.size w'.heap.size A3 n3 c3 zs ∧ boxP xs k m ∧ boxP ys k m ∧ boxP zs k m ∧ 2 ≤ m ∧ m ≤ 6 ∧ Below w.heap.size w w' := by
  go_enter Try.func12, Try.ntmps12
  go_wp2_with fail
  refine (l1New_any A n c bs w hs hn).mono ?_
  rintro e w1 ⟨rfl, hc1, hb1⟩
  obtain ⟨g, hg⟩ : ∃ g, g = w.heap.size := ⟨_, rfl⟩
  rw [← hg] at hc1 ⊢
  have hgle : w.heap.size ≤ g := by omega
  have HGl := Lib.hid hg
  have HB1 := Lib.hid hb1
  have hgl := hc1.lt
  clear hg hb1 hs
  go_wp2_with fail
  refine (dBox6_any g w1 hc1).mono ?_
  rintro e w2 ⟨k, m, rfl, hkm, hm2, hm6, hc2, hg2⟩
  have HB2 := Lib.hid (belowG HB1.out hg2 hgle HB1.out.size)
  have hs2 := hg2.size
  have HC2 := Lib.hid hc2
  obtain ⟨d, hd⟩ : ∃ d : Nat, d = m - k := ⟨_, rfl⟩
  have hdI : (m : Int) - (k : Int) = (d : Int) := by omega
  have hw1 : IntKind.i64.wrap ((m : Int) - (k : Int)) = (d : Int) := by rw [hdI]; exact IntWalk.i64_in _ (by omega)
  have hd16 : d ≤ 16 := by omega
  have HDD := Lib.hid hd
  clear hc1 hg2 hc2 hd hdI
  go_wp2_with fail
  refine (dShape_any g k d _ w2 HC2.out (by omega) hd16 rfl).mono ?_
  rintro e w3 ⟨xs, ⟨A3, n3, c3, rfl, ho3, hc3, hg3⟩, hsx, hlx⟩
  have HX3 : Hid (Own w3 w1.heap.size w3.heap.size A3 n3 c3 xs) := Lib.hid (ho3.wide hs2 (Nat.le_refl _))
  have HB3 := Lib.hid (belowG HB2.out hg3 hgle HB2.out.size)
  have HZ3 := Lib.hid (Nat.le_trans hs2 hg3.size)
  have HC3 := Lib.hid hc3
  have HPX := Lib.hid (And.intro hsx hlx)
  clear ho3 hc3 hg3 hsx hlx hs2
  go_wp2_with fail
  refine (dShape_any g k d _ w3 HC3.out (by omega) hd16 rfl).mono ?_
  rintro e w4 ⟨ys, ⟨A4, n4, c4, rfl, ho4, hc4, hg4⟩, hsy, hly⟩
  have HX4 := Lib.hid (HX3.out.gk hg4 hgl)
  have HY4 : Hid (Own w4 w1.heap.size w4.heap.size A4 n4 c4 ys) := Lib.hid (ho4.wide HZ3.out (Nat.le_refl _))
  have HB4 := Lib.hid (belowG HB3.out hg4 hgle HB3.out.size)
  have HZ4 := Lib.hid (Nat.le_trans HZ3.out hg4.size)
  have HC4 := Lib.hid hc4
  have HPY := Lib.hid (And.intro hsy hly)
  clear ho4 hc4 hg4 hsy hly HX3
  go_wp2_with fail
  refine (dShape_any g k d _ w4 HC4.out (by omega) hd16 rfl).mono ?_
  rintro e w5 ⟨zs, ⟨A5, n5, c5, rfl, ho5, hc5, hg5⟩, hsz, hlz⟩
  have HX5 := Lib.hid (HX4.out.gk hg5 hgl)
  have HY5 := Lib.hid (HY4.out.gk hg5 hgl)
  have HW5 : Hid (Own w5 w1.heap.size w5.heap.size A5 n5 c5 zs) := Lib.hid (ho5.wide HZ4.out (Nat.le_refl _))
  have HB5 := Lib.hid (belowG HB4.out hg5 hgle HB4.out.size)
  have HPZ := Lib.hid (And.intro hsz hlz)
  clear ho5 hc5 hg5 hsz hlz HX4 HY4
  go_wp2
  go_returns
  refine ⟨xs, ys, zs, A3, A4, A5, n3, c3, n4, c4, n5, c5, k, m, rfl, HX5.out.wide HB1.out.size (Nat.le_refl _), HY5.out.wide HB1.out.size (Nat.le_refl _), HW5.out.wide HB1.out.size (Nat.le_refl _), ?_, ?_, ?_, hm2, hm6, HB5.out⟩
  · exact shP_box (by omega) (by omega) hkm (by rw [← HDD.out]; exact HPX.out.1) HPX.out.2
  · exact shP_box (by omega) (by omega) hkm (by rw [← HDD.out]; exact HPY.out.1) HPY.out.2
  · exact shP_box (by omega) (by omega) hkm (by rw [← HDD.out]; exact HPZ.out.1) HPZ.out.2
end Go.Proofs.Ytbjnjccolapehaa
