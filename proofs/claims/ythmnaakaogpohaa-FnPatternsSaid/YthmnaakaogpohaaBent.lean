/-
  A list, seldom bent, and a permutation with a pattern, drawn. Conditions: at most 2^20 bytes.
-/
import Derived.Test.YthmnaakaogpohaaDrawTwo
import Derived.Test.YthmnaakaogpohaaSpecF
namespace Go.Proofs.Ythmnaakaogpohaa
open Go.RowKit

/-- A shorter beginning. -/
theorem Own.cut {w : World} {lo hi n c k : Nat} {A : Option Addr} {xs : List Int} (h : Own w lo hi A n c xs) (hk : k ≤ n) : Own w lo hi A k c (xs.take k) := by
  have hl := h.len
  refine ⟨⟨by simp; omega, ?_⟩, fun q hq => h.2 q (by
    cases A with
    | none => simp [Value.ownBlock] at hq
    | some a => simpa [Value.ownBlock] using hq)⟩
  rcases h.1.2 with ⟨e, h0⟩ | ⟨g, cap, cur, e, hb, hg, hnc, hcm, hcs, ht⟩
  · injection e with e1 e2 e3
    subst e1; subst e3
    exact .inl ⟨by rw [show k = 0 by omega], by omega⟩
  · injection e with e1 e2 e3
    refine .inr ⟨g, cap, cur, by rw [e1, e3], hb, hg, by omega, hcm, hcs, ?_⟩
    have h2 := congrArg (List.take k) ht
    rw [List.take_take, show min k (n * 1) = k by omega, ← List.map_take] at h2
    rw [Nat.mul_one]; exact h2
set_option maxHeartbeats 2000000 in
theorem dBent_any (g n c lo : Nat) (A : Option Addr) (xs : List Int) (w : World) (hc : Cu w g) (ho : Own w lo w.heap.size A n c xs) (hgl : g < lo) (hlo : lo ≤ w.heap.size) (h7 : n ≤ 7) :
    Calls Try.prog 52 #[.pointer (some ⟨g, 0, none⟩), .slice A n c] w fun e w' => ∃ (A' : Option Addr) (n' c' : Nat) (ys : List Int), e = .returned (.slice A' n' c') ∧ Own w' lo w'.heap.size A' n' c' ys ∧ n' ≤ 8 ∧ Cu w' g ∧ w.grownBy w' (some g) := by
  have HO := Lib.hid ho
  have HC := Lib.hid hc
  clear ho hc
  go_enter Try.func52, Try.ntmps52
  go_wp2_with fail
  refine (l1Once_any g 10 w HC.out (by omega)).mono ?_
  rintro e w1 ⟨bb, rfl, hc1, hg1⟩
  have HO1 : Hid (Own w1 lo w1.heap.size A n c xs) := Lib.hid ((HO.out.grown hg1 (by rintro k ⟨⟩; exact .inl hgl)).wide (Nat.le_refl _) hg1.size)
  have HC1 := Lib.hid hc1
  have HG1 := Lib.hid hg1
  have hz1 := hg1.size
  clear hc1 hg1
  cases bb with
  | false =>
    go_wp2
    go_ret
    exact ⟨A, n, c, xs, rfl, HO1.out, by omega, HC1.out, HG1.out⟩
  | true =>
    go_wp2_with fail
    refine (l1Ints_any A n c xs w1 HO1.out.si (by omega)).mono ?_
    rintro e w2 ⟨A2, n2, c2, rfl, ho2, hb2⟩
    have en : n2 = n := by have h1 := ho2.len; have h2 := HO1.out.len; omega
    subst en
    have HO2 : Hid (Own w2 w.heap.size w2.heap.size A2 n2 c2 xs) := Lib.hid (ho2.wide hz1 (Nat.le_refl _))
    have hgw := HC.out.lt
    have HC2 := Lib.hid (HC1.out.below hb2 HC1.out.lt)
    have HG2 := Lib.hid (grown_below HG1.out (hb2.mono hz1))
    have hz2 := hb2.size
    clear ho2 hb2
    go_wp2_with fail
    refine (l1Below_any g 4 w2 HC2.out (by omega)).mono ?_
    rintro e w3 ⟨x, hx0, hx1, -, rfl, hc3, hg3⟩
    have hx4 := hx1 (by omega)
    have HO3 : Hid (Own w3 w.heap.size w3.heap.size A2 n2 c2 xs) := Lib.hid (HO2.out.gk hg3 hgw)
    have HC3 := Lib.hid hc3
    have HG3 := Lib.hid (grown_trans HG2.out hg3)
    have hz3 := hg3.size
    clear hx1 hc3 hg3
    have hc4 : x = 0 ∨ x = 1 ∨ x = 2 ∨ x = 3 := by omega
    have hlo3 : w.heap.size ≤ w3.heap.size := by omega
    rcases hc4 with rfl | rfl | rfl | rfl
    · clear hx0 hx4
      go_wp2_with fail
      refine (l1Below_any g 9 w3 HC3.out (by omega)).mono ?_
      rintro e w4 ⟨y, hy0, hy1, -, rfl, hc4, hg4⟩
      have hy9 := hy1 (by omega)
      have HO4 : Hid (Own w4 w.heap.size w4.heap.size A2 n2 c2 xs) := Lib.hid (HO3.out.gk hg4 hgw)
      have HC4 := Lib.hid hc4
      have HG4 := Lib.hid (grown_trans HG3.out hg4)
      have hlo4 : w.heap.size ≤ w4.heap.size := by have := hg4.size; omega
      have hw1 : IntKind.i64.wrap (y - 1) = y - 1 := IntWalk.i64_in _ (by omega)
      clear hy1 hc4 hg4
      go_wp2_with (at_builtin; refine wpList_append1 rfl (.tmp 16) (.tmp 20) rfl w.heap.size A2 n2 c2 xs (y - 1) rfl rfl HO4.out hlo4 (by omega) ?_; intro A' c' w5 ho5 hg5 hb5)
      go_ret
      exact ⟨A', n2 + 1, c', _, rfl, ho5.wide hlo (Nat.le_refl _), by omega, HC4.out.below hb5 hgw, grown_below HG4.out hb5⟩
    · clear hx0 hx4
      go_wp2_with (at_builtin; refine wpList_append1 rfl (.tmp 24) (.tmp 27) rfl w.heap.size A2 n2 c2 xs (n2 : Int) rfl rfl HO3.out hlo3 (by omega) ?_; intro A' c' w5 ho5 hg5 hb5)
      go_ret
      exact ⟨A', n2 + 1, c', _, rfl, ho5.wide hlo (Nat.le_refl _), by omega, HC3.out.below hb5 hgw, grown_below HG3.out hb5⟩
    · clear hx0 hx4
      by_cases h0 : 0 < n2
      · have h0I : (0 : Int) < (n2 : Int) := by omega
        go_wp2_with fail
        refine (l1Below_any g (n2 : Int) w3 HC3.out (by omega)).mono ?_
        rintro e w4 ⟨y, hy0, hy1, -, rfl, hc4, hg4⟩
        have hyn := hy1 (by omega)
        obtain ⟨j, rfl⟩ : ∃ j : Nat, y = (j : Int) := ⟨y.toNat, by omega⟩
        have HO4 : Hid (Own w4 w.heap.size w4.heap.size A2 n2 c2 xs) := Lib.hid (HO3.out.gk hg4 hgw)
        have HC4 := Lib.hid hc4
        have HG4 := Lib.hid (grown_trans HG3.out hg4)
        have hlo4 : w.heap.size ≤ w4.heap.size := by have := hg4.size; omega
        clear hy1 hc4 hg4
        go_wp2_with fail
        refine (l1Below_any g 9 w4 HC4.out (by omega)).mono ?_
        rintro e w5 ⟨z, hz0, hz1, -, rfl, hc5, hg5⟩
        have hz9 := hz1 (by omega)
        have HO5 : Hid (Own w5 w.heap.size w5.heap.size A2 n2 c2 xs) := Lib.hid (HO4.out.gk hg5 hgw)
        have HC5 := Lib.hid hc5
        have HG5 := Lib.hid (grown_trans HG4.out hg5)
        have hlo5 : w.heap.size ≤ w5.heap.size := by have := hg5.size; omega
        have hw1 : IntKind.i64.wrap (z - 1) = z - 1 := IntWalk.i64_in _ (by omega)
        clear hz1 hc5 hg5
        obtain ⟨gq, rfl, hq1, hq2⟩ := HO5.out.place h0
        have hcell := HO5.out.cellAt (k := j) (by omega)
        have hfz := HO5.out.frozenAt j
        have HST := Lib.hid (HO5.out.set_ (k := j) (z - 1))
        generalize nth xs j = u at hcell
        go_wp2
        go_ret
        have hs := HST.out
        have hbs : Below w.heap.size w5 _ := (Below.refl w.heap.size w5).grown hs.2 hlo5 (by rintro q ⟨⟩; exact hq1)
        exact ⟨_, n2, c2, _, rfl, hs.1.wide hlo (by have := hs.2.size; omega), by omega, HC5.out.below hbs hgw, grown_below HG5.out hbs⟩
      · have h0I : ¬ (0 : Int) < (n2 : Int) := by omega
        go_wp2
        go_ret
        exact ⟨A2, n2, c2, xs, rfl, HO3.out.wide hlo (Nat.le_refl _), by omega, HC3.out, HG3.out⟩
    · clear hx0 hx4
      obtain ⟨q, hq⟩ : ∃ q : Nat, q = n2 / 2 := ⟨_, rfl⟩
      have hqn : q ≤ n2 := by omega
      have hq8 : q ≤ 8 := by omega
      have hcap := HO3.out.cap
      have hX := (HO3.out.cut hqn).wide hlo (Nat.le_refl _)
      have HX := Lib.hid hX
      have HQ8 := Lib.hid hq8
      have hd : Int.tdiv (n2 : Int) 2 = (q : Int) := by rw [Int.tdiv_eq_ediv_of_nonneg (by omega)]; omega
      have hq0 : (0 : Int) ≤ (q : Int) := by omega
      have hqc : (q : Int) ≤ (c2 : Int) := by omega
      have hq64 : wrap64 (q : Int) = (q : Int) := by unfold wrap64; omega
      have HE1 : Hid ((wrap64 (q : Int)).toNat = q) := Lib.hid (by rw [hq64, Int.toNat_natCast])
      clear hq hX hqn hq8
      go_wp2
      go_ret
      refine ⟨A2, _, c2, xs.take q, rfl, ?_, ?_, HC3.out, HG3.out⟩
      · first | (rw [HE1.out]; exact HX.out) | exact HX.out
      · first | (rw [HE1.out]; exact HQ8.out) | exact HQ8.out
set_option maxRecDepth 100000 in
set_option maxHeartbeats 2000000 in
/-- A list and a permutation of at most four. -/
theorem drawHasPattern_any (A : Option Addr) (n c : Nat) (bs : List Int) (w : World) (hs : SB w w.heap.size A n bs) (hn : n ≤ 1048576) :
    Calls Try.prog 11 #[.slice A n c] w fun e w' => ∃ (xs ps : List Int) (A1 A2 : Option Addr) (n1 c1 n2 c2 : Nat), e = .returned (.tuple #[.slice A1 n1 c1, .slice A2 n2 c2]) ∧
      Own w' w.heap.size w'.heap.size A1 n1 c1 xs ∧ Own w' w.heap.size w'.heap.size A2 n2 c2 ps ∧ n1 ≤ 8 ∧ n2 ≤ 4 ∧ isPermP ps ∧ Below w.heap.size w w' := by
  go_enter Try.func11, Try.ntmps11
  go_wp2_with fail
  refine (l1New_any A n c bs w hs hn).mono ?_
  rintro e w1 ⟨rfl, hc1, hb1⟩
  obtain ⟨g, hg⟩ : ∃ g, g = w.heap.size := ⟨_, rfl⟩
  rw [← hg] at hc1 ⊢
  have hgle : w.heap.size ≤ g := by omega
  have HGl := Lib.hid hg
  have HB1 := Lib.hid hb1
  have hgl := hc1.lt
  clear hg hb1 hs
  go_wp2_with fail
  refine (l1Below_any g 4 w1 hc1 (by omega)).mono ?_
  rintro e w2 ⟨x, hx0, hx1, -, rfl, hc2, hg2⟩
  have hx2 := hx1 (by omega)
  obtain ⟨x', rfl⟩ : ∃ j : Nat, x = (j : Int) := ⟨x.toNat, by omega⟩
  obtain ⟨m, hm⟩ : ∃ m : Nat, m = x' + 3 := ⟨_, rfl⟩
  have hm6 : 1 ≤ m ∧ m ≤ 6 := by omega
  obtain ⟨hm1, hm6⟩ := hm6
  have hw1 : IntKind.i64.wrap ((3 : Int) + (x' : Int)) = (m : Int) := by rw [show (3 : Int) + (x' : Int) = (m : Int) by omega]; exact IntWalk.i64_in _ (by omega)
  have HB2 := Lib.hid (belowG HB1.out hg2 hgle HB1.out.size)
  have hs2 := hg2.size
  have HC2 := Lib.hid hc2
  clear hx1 hx2 hx0 hc1 hc2 hg2 hm
  go_wp2_with fail
  refine (dPerm_any g m w2 HC2.out hm1 (by omega)).mono ?_
  rintro e w3 ⟨us, ⟨A3, n3, c3, rfl, ho3, hc3, hg3⟩, hpu, hlu⟩
  have en3 : n3 = m := by have := ho3.len; omega
  subst en3
  have HU3 : Hid (Own w3 w1.heap.size w3.heap.size A3 n3 c3 us) := Lib.hid (ho3.wide hs2 (Nat.le_refl _))
  have HB3 := Lib.hid (belowG HB2.out hg3 hgle HB2.out.size)
  have hz3 : w1.heap.size ≤ w3.heap.size := Nat.le_trans hs2 hg3.size
  have HC3 := Lib.hid hc3
  clear ho3 hg3 hs2 hc3 hpu hlu
  go_wp2_with fail
  refine (dBent_any g n3 c3 w1.heap.size A3 us w3 HC3.out HU3.out hgl hz3 (by omega)).mono ?_
  rintro e w4 ⟨A4, n4, c4, ys, rfl, ho4, hn8, hc4, hg4⟩
  have HY4 := Lib.hid ho4
  have HB4 := Lib.hid (belowG HB3.out hg4 hgle HB3.out.size)
  have hz4 : w1.heap.size ≤ w4.heap.size := Nat.le_trans hz3 hg4.size
  have HC4 := Lib.hid hc4
  clear ho4 hg4 hc4 HU3
  go_wp2_with fail
  refine (l1Below_any g 3 w4 HC4.out (by omega)).mono ?_
  rintro e w5 ⟨y, hy0, hy1, -, rfl, hc5, hg5⟩
  have hy2 := hy1 (by omega)
  obtain ⟨y', rfl⟩ : ∃ j : Nat, y = (j : Int) := ⟨y.toNat, by omega⟩
  obtain ⟨q, hq⟩ : ∃ q : Nat, q = y' + 2 := ⟨_, rfl⟩
  have hq4 : 1 ≤ q ∧ q ≤ 4 := by omega
  obtain ⟨hq1, hq4⟩ := hq4
  have hw2 : IntKind.i64.wrap ((2 : Int) + (y' : Int)) = (q : Int) := by rw [show (2 : Int) + (y' : Int) = (q : Int) by omega]; exact IntWalk.i64_in _ (by omega)
  have HY5 := Lib.hid (HY4.out.gk hg5 hgl)
  have HB5 := Lib.hid (belowG HB4.out hg5 hgle HB4.out.size)
  have hz5 : w1.heap.size ≤ w5.heap.size := Nat.le_trans hz4 hg5.size
  have HC5 := Lib.hid hc5
  clear hy1 hy2 hy0 hc5 hg5 hq
  go_wp2_with fail
  refine (dPerm_any g q w5 HC5.out hq1 (by omega)).mono ?_
  rintro e w6 ⟨ps, ⟨A6, n6, c6, rfl, ho6, hc6, hg6⟩, hpp, hlp⟩
  have en6 : n6 = q := by have := ho6.len; omega
  subst en6
  have HY6 := Lib.hid (HY5.out.gk hg6 hgl)
  have HP6 : Hid (Own w6 w1.heap.size w6.heap.size A6 n6 c6 ps) := Lib.hid (ho6.wide hz5 (Nat.le_refl _))
  have HB6 := Lib.hid (belowG HB5.out hg6 hgle HB5.out.size)
  have HPP := Lib.hid hpp
  clear ho6 hg6 hc6 hpp hlp
  go_wp2
  go_ret2
  exact ⟨ys, ps, A4, A6, n4, c4, n6, c6, rfl, HY6.out.wide HB1.out.size (Nat.le_refl _), HP6.out.wide HB1.out.size (Nat.le_refl _), hn8, hq4, HPP.out, HB6.out⟩
end Go.Proofs.Ythmnaakaogpohaa
