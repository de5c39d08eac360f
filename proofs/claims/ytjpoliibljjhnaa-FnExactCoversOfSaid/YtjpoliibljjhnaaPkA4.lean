/-
  Texts CovJ to LsFrame, merged. Conditions: as each says.
-/
import Derived.Deep.Matrix
import Derived.Test.YtjpoliibljjhnaaPkA3
/-
  The program's CoversOf. Conditions: lengths below 2^40.
-/




namespace Go.Proofs.Ytjpoliibljjhnaa
open Go.RowKit

set_option maxRecDepth 100000 in
set_option maxHeartbeats 2000000 in
theorem implCovers_any (A : Option Addr) (n c : Nat) (xs : List Int) (w : World) (hs : SI w A n xs) (hn : n ≤ 1099511627776) :
    Calls Try.prog 31 #[.slice A n c] w fun e w' => FreshL w w' e (covers xs) := by
  have HL := Lib.hid hs.1
  cases hu : isPermB xs with
  | false =>
    have HE := Lib.hid (covers_no hu)
    have HU := Lib.hid hu
    clear hu
    go_enter Try.func31, Try.ntmps31
    go_wp2_with fail
    refine (arrayOf_x c HU.out hs hn).mono ?_
    rintro e w1 ⟨l, rfl, -, hb1⟩
    go_wp2
    go_ret
    rw [HE.out]
    exact ⟨none, 0, 0, rfl, OwnL.nil _ _ _, hb1.alloc hb1.size _⟩
  | true =>
    have HE := Lib.hid (covers_yes hu)
    have HU := Lib.hid hu
    have HPP := Lib.hid (isPermB_P hu)
    have HN7 : Hid (n ≤ 7) := Lib.hid (by have := (isPermB_P hu).2.1; have := HL.out; omega)
    clear hu
    go_enter Try.func31, Try.ntmps31
    go_wp2_with fail
    refine (arrayOf_x c HU.out hs hn).mono ?_
    rintro e w1 ⟨l, rfl, hlf, hb1⟩
    have HF := Lib.hid (hlf rfl)
    have hb2 : Below w.heap.size w (w1.alloc (.cells (arrC l) 107)) := hb1.alloc hb1.size _
    have hK := Blk.new w1 107 (arrC l)
    have hFl : l = fillA xs xs.length := by rw [HL.out]; exact HF.out
    have HCV : Hid (∀ (i j : Nat) u, i < j → j < n → Calls Try.prog 98 #[arr l, .int .i64 i, .int .i64 j] u fun e w' => e = .returned (.bool (covB xs i j)) ∧ Below u.heap.size u w') := Lib.hid (fun i j u hij hj => by rw [hFl]; exact isCovered_any xs HPP.out i j u hij (by rw [HL.out]; exact hj))
    have HEX : Hid (∀ (i j : Nat) u, i < j → j < n → Calls Try.prog 99 #[arr l, .int .i64 i, .int .i64 j] u fun e w' => e = .returned (arr (swapL l i j)) ∧ Below u.heap.size u w') := Lib.hid (fun i j u hij hj => exchanged_any l i j u (by have := HN7.out; omega) (by have := HN7.out; omega) (by omega) (by rw [hFl, fillA_len]))
    have HLI : Hid (∀ (i j : Nat) u, i < j → j < n → Calls Try.prog 100 #[arr (swapL l i j), .int .i64 n] u fun e w' => Fresh u w' e (swapL xs i j)) := Lib.hid (fun i j u hij hj => by
      have h := list_any (swapL l i j) n u (by rw [swapL_len, hFl, fillA_len]) HN7.out
      have e : (swapL l i j).take n = swapL xs i j := by
        rw [hFl, fill_swap hij (by rw [HL.out]; exact hj) (by rw [HL.out]; exact HN7.out), ← HL.out]
        have := fill_take_len (xs := swapL xs i j) (by rw [swapL_len, HL.out]; exact HN7.out)
        rwa [swapL_len] at this
      rwa [e] at h)
    clear hlf hFl hs hn
    go_wp2_with fail
    obtain ⟨g, hg⟩ : ∃ g, g = w1.heap.size := ⟨_, rfl⟩
    rw [← hg] at hK ⊢
    have HG : Hid (w.heap.size ≤ g) := Lib.hid (by rw [hg]; exact hb1.size)
    clear hg hb1
    generalize w1.alloc (.cells (arrC l) 107) = w2 at *
    have HK := Lib.hid hK
    have HB2 := Lib.hid hb2
    clear hK hb2
    have hn7 := HN7.out
    go_loopw [5, 17] (fun sv jv wr => ∃ (j : Nat) (A1 : Option Addr) (n1 c1 : Nat) (E1 : Nat → Sv), j ≤ n ∧ jv = .int .i64 j ∧ sv = .slice A1 n1 c1 ∧ OwnLE E1 wr w.heap.size wr.heap.size A1 n1 c1 (covJ xs j) ∧ Apart E1 A1 n1 g ∧ Blk wr g 107 (arrC l) ∧ Below w.heap.size w wr)
      (fun _ jv _ => n - (intOf jv).toNat)
    case atStart => exact ⟨0, none, 0, 0, fun _ => (none, 0, 0), Nat.zero_le _, rfl, rfl, OwnLE.nil _ _ _ _, ⟨(fun h => by cases h), fun j hj => absurd hj (by omega)⟩, HK.out, HB2.out⟩
    case round =>
      obtain ⟨j, A1, n1, c1, E1, hj, rfl, rfl, he, hap, hk, hb⟩ := hrel
      clear HK HB2
      have HE1 := Lib.hid he
      have HAP := Lib.hid hap
      have HK := Lib.hid hk
      have HB := Lib.hid hb
      clear he hap hk hb
      by_cases hlt : j < n
      · have hjI : (j : Int) < (n : Int) := by omega
        have HLT := Lib.hid hlt
        go_wp2_with fail
        go_loopw [5, 21] (fun sv iv wr => ∃ (i : Nat) (A1 : Option Addr) (n1 c1 : Nat) (E1 : Nat → Sv), i ≤ j ∧ iv = .int .i64 i ∧ sv = .slice A1 n1 c1 ∧ OwnLE E1 wr w.heap.size wr.heap.size A1 n1 c1 (covJ xs j ++ covR xs j i) ∧ Apart E1 A1 n1 g ∧ Blk wr g 107 (arrC l) ∧ Below w.heap.size w wr)
          (fun _ iv _ => j - (intOf iv).toNat)
        case atStart => exact ⟨0, A1, n1, c1, E1, Nat.zero_le _, rfl, rfl, by rw [show covR xs j 0 = [] from rfl, List.append_nil]; exact HE1.out, HAP.out, HK.out, HB.out⟩
        case round =>
          obtain ⟨i, A1, n1, c1, E1, hi, rfl, rfl, he, hap, hk, hb⟩ := hrel
          clear HE1 HAP HK HB
          have HE1 := Lib.hid he
          have HAP := Lib.hid hap
          have HK := Lib.hid hk
          have HB := Lib.hid hb
          clear he hap hk hb
          by_cases hil : i < j
          · have hiI : (i : Int) < (j : Int) := by omega
            have HIL := Lib.hid hil
            have HCC := Lib.hid (fun u => HCV.out i j u HIL.out HLT.out)
            have HXC := Lib.hid (fun u => HEX.out i j u HIL.out HLT.out)
            have HLC := Lib.hid (fun u => HLI.out i j u HIL.out HLT.out)
            cases hcv : covB xs i j with
            | true =>
              rw [hcv] at HCC
              have HNX : Hid (covJ xs j ++ covR xs j (i + 1) = (covJ xs j ++ covR xs j i) ++ [swapL xs i j]) := Lib.hid (by
                show covJ xs j ++ (if covB xs i j = true then _ else _) = _
                rw [if_pos hcv, List.append_assoc])
              have HN1 : Hid (n1 ≤ 1000) := Lib.hid (by
                have h1 := HE1.out.1
                have h2 := covJ_len xs j
                have h3 := covR_len xs j i
                have h4 : j * j ≤ 7 * 7 := Nat.mul_le_mul (by have := HLT.out; have := HN7.out; omega) (by have := HLT.out; have := HN7.out; omega)
                rw [List.length_append] at h1
                have := HLT.out; have := HN7.out; have := HIL.out
                omega)
              clear hcv
              go_upto_region 12 with (first
                | (refine wpList_load_blk rfl 107 (.tmp 3) rfl g rfl 107 (arrC l) 7 3 HK.out Try.undArr Try.infoArr ?_)
                | (go_at_call 98; (with_reducible refine (HCC.out _).mono ?_); rintro e w3 ⟨rfl, hb3⟩; have HK3 := Lib.hid (HK.out.below hb3 HK.out.lt); have HB3 := Lib.hid hb3; clear hb3))
              go_wp2_with (first
                | (refine wpList_load_blk rfl 107 (.tmp 3) rfl g rfl 107 (arrC l) 7 3 HK3.out Try.undArr Try.infoArr ?_)
                | (go_at_call 99; (with_reducible refine (HXC.out _).mono ?_); rintro e w4 ⟨rfl, hb4⟩; have HB4 : Hid (Below wr.heap.size wr w4) := Lib.hid (HB3.out.trans (hb4.mono HB3.out.size)); clear hb4)
                | (go_at_call 100; (with_reducible refine (HLC.out _).mono ?_); rintro e w5 ⟨A5, n5, c5, rfl, ho5, hb5⟩
                   have HO5 := Lib.hid ho5
                   have HB5 : Hid (Below wr.heap.size wr w5) := Lib.hid (HB4.out.trans (hb5.mono HB4.out.size))
                   have HS5 : Hid (wr.heap.size ≤ w4.heap.size ∧ w4.heap.size ≤ w5.heap.size ∧ w.heap.size ≤ wr.heap.size) := Lib.hid ⟨HB4.out.size, hb5.size, HB.out.size⟩
                   have HK5 := Lib.hid (HK.out.below HB5.out HK.out.lt)
                   clear ho5 hb5)
                | (at_builtin; refine wpList_appendLE rfl (.tmp 28) (.tmp 36) rfl w.heap.size wr.heap.size A1 n1 c1 (covJ xs j ++ covR xs j i) w4.heap.size w5.heap.size A5 n5 c5 (swapL xs i j) rfl rfl (HE1.out.below HB5.out (Nat.le_refl _)) HO5.out (by have := HS5.out; omega) (HE1.out.apart_hi HO5.out HS5.out.1) (Nat.le_refl _) HB5.out.size (by have := HS5.out; omega) (by have := HN1.out; omega) ?_
                   intro A6 c6 w6 he6 hat6 hg6 hb6
                   have HE6 := Lib.hid he6
                   have HB6 : Hid (Below w.heap.size w w6) := Lib.hid ((HB.out.trans (HB5.out.mono HB.out.size)).trans hb6)
                   have hk6 := KpL.snoc (E := E1) (n := n1) (nb := n5) (cb := c5) (B := A5) HB5.out hg6 (fun q hq => by have h1 := (HO5.out.row_lt' hq).1; have h2 := HS5.out; omega) hat6
                   have HAP6 := Lib.hid (hk6.apart g HK.out.lt HAP.out)
                   have HK6 : Hid (Blk w6 g 107 (arrC l)) := Lib.hid ((hk6.same g HK.out.lt HAP.out).trans HK.out)
                   clear he6 hat6 hg6 hb6 hk6))
              go_roundw
              case rel => exact ⟨i + 1, A6, n1 + 1, c6, _, by have := HIL.out; omega, by go_num, rfl, by rw [HNX.out]; exact HE6.out, HAP6.out, HK6.out, HB6.out⟩
              case measure => have := HIL.out; simp [intOf]; omega
            | false =>
              rw [hcv] at HCC
              have HNX : Hid (covJ xs j ++ covR xs j (i + 1) = covJ xs j ++ covR xs j i) := Lib.hid (by
                show covJ xs j ++ (if covB xs i j = true then _ else _) = _
                rw [if_neg (by rw [hcv]; decide)])
              clear hcv
              go_wp2_with (first
                | (refine wpList_load_blk rfl 107 (.tmp 3) rfl g rfl 107 (arrC l) 7 3 HK.out Try.undArr Try.infoArr ?_)
                | (go_at_call 98; (with_reducible refine (HCC.out _).mono ?_); rintro e w3 ⟨rfl, hb3⟩; have HK3 := Lib.hid (HK.out.below hb3 HK.out.lt); have HB3 := Lib.hid hb3; clear hb3))
              go_roundw
              case rel => exact ⟨i + 1, A1, n1, c1, E1, by have := HIL.out; omega, by go_num, rfl, by rw [HNX.out]; exact (HE1.out.below HB3.out (Nat.le_refl _)).wide2 (Nat.le_refl _) HB3.out.size, HAP.out, HK3.out, HB.out.trans (HB3.out.mono HB.out.size)⟩
              case measure => have := HIL.out; simp [intOf]; omega
          · have hiI : ¬ (i : Int) < (j : Int) := by omega
            obtain rfl : i = j := by omega
            go_wp2
            go_roundw
            case rel => exact ⟨i + 1, A1, n1, c1, E1, by have := HLT.out; omega, by go_num, rfl, HE1.out, HAP.out, HK.out, HB.out⟩
            case measure => have := HLT.out; simp [intOf]; omega
      · have hjI : ¬ (j : Int) < (n : Int) := by omega
        obtain rfl : j = n := by omega
        have HRW : Hid (∀ k, k < n1 → (li (covJ xs j) k).length ≤ 1099511627776) := Lib.hid (fun k _ => li_len_of (m := 1099511627776) (fun z hz => by rw [covJ_row hz, HL.out]; have := HN7.out; omega) k)
        have HN1 : Hid (n1 ≤ 1099511627776) := Lib.hid (by
          have h1 := HE1.out.1
          have h2 := covJ_len xs j
          have h4 : j * j ≤ 7 * 7 := Nat.mul_le_mul HN7.out HN7.out
          omega)
        have HSRT := Lib.hid (sortLists_any E1 A1 n1 c1 w.heap.size (covJ xs j) wr HE1.out HB.out.size HN1.out HRW.out)
        go_wp2_with (go_at_call 101; (with_reducible refine HSRT.out.mono ?_); rintro e w3 ⟨rfl, us, hp3, hs3, ho3, hb3⟩; have HP3 := Lib.hid hp3; have HS3 := Lib.hid hs3; have HO3 := Lib.hid ho3; have HB3 := Lib.hid hb3; clear hp3 hs3 ho3 hb3)
        go_ret
        rw [HE.out, ← cov_sorted HPP.out (by rw [HL.out]; exact HP3.out) HS3.out]
        exact ⟨A1, n1, c1, rfl, HO3.out, HB.out.trans HB3.out⟩
end Go.Proofs.Ytjpoliibljjhnaa

/-
  Opening a slice of slices of numbers that came in. No conditions.
-/



namespace Go.Proofs.Ytjpoliibljjhnaa
open Go.ChangeShapes Go.WideShapes Go.ChangeAt Go.RowKit

theorem LS.of_trod {H : Type} {enc : TypeId × Value → H} {W : World} {q : Nat} {a0 : Option Addr} {len0 cap0 : Nat} {d : DataW H} {p : List MemPlace}
    (h0 : DataW.Trod enc Try.prog W q (fun _ => true) true 23 (.slice a0 len0 cap0) d p) : ∃ ls, LS W a0 len0 ls ∧ len0 ≤ 9223372036854775807 ∧ (∀ k, k < len0 → (li ls k).length ≤ 9223372036854775807) := by
  obtain ⟨fuel, hf⟩ := h0
  rcases Go.Deep.open_int_rows Try.underlying23 Try.underlying22 Try.underlying3 (by kernel_rfl) (by kernel_rfl) hf with ⟨hcs, _⟩ | ⟨a, len, cap, A, L, C, Z, hcs, hb, hl, hm, _, hx⟩
  · simp [Value.cells] at hcs
    obtain ⟨rfl, rfl, rfl⟩ := hcs
    exact ⟨[], LS.nil _ _, by omega, fun k hk => absurd hk (by omega)⟩
  · simp [Value.cells] at hcs
    obtain ⟨rfl, rfl, rfl⟩ := hcs
    refine ⟨(List.range len0).map fun r => (Z r).take (L r), ⟨by simp, fun hn => ?_⟩, by unfold maxLen at hm; omega, fun k hk => ?_⟩
    · obtain ⟨b, o, s⟩ := a
      have h1 := (hx 0 (by omega)).1
      have hs : s = none := by simpa [Addr.add] using World.cell?_spot h1
      subst hs
      refine ⟨b, o, rfl, block_lt_of_cell (a := ⟨b, o, none⟩) (by simpa [Addr.add] using h1), fun k hk => ?_⟩
      obtain ⟨h1, h2, h3, h4, _, h6, h7⟩ := hx k (by omega)
      rw [add_pt] at h1
      have et : li ((List.range len0).map fun r => (Z r).take (L r)) k = (Z k).take (L k) := by simp [li, List.getD, hk]
      rw [et]
      refine ⟨A k, L k, C k, h1, ?_, h2, fun h => by have := h6 h; omega⟩
      cases hA : A k with
      | none =>
        have := h6 hA
        have hL : L k = 0 := by omega
        rw [hL, List.take_zero]
        exact SI.nil _ _
      | some x =>
        obtain ⟨_, h8⟩ := h7 x hA
        exact SI.of_cells (by omega) fun i hi => h8 i (by omega)
    · have et : li ((List.range len0).map fun r => (Z r).take (L r)) k = (Z k).take (L k) := by simp [li, List.getD, hk]
      obtain ⟨_, h2, h3, _⟩ := hx k (by omega)
      rw [et, List.length_take]
      unfold maxLen at h3
      omega
end Go.Proofs.Ytjpoliibljjhnaa
