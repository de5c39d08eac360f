/-
  The conjugate shape, the program's side. Conditions: lengths below 2^40.
-/
import Derived.Test.YtbjnjccolapehaaConj
namespace Go.Proofs.Ytbjnjccolapehaa
open Go.RowKit

/-- The columns when i rows are counted, and j cells of the next one. -/
def colM (xs : List Int) (m i j : Nat) : List Int := (List.range m).map fun t => if t < j then cntN xs t (i + 1) else cntN xs t i
theorem colM_len (xs : List Int) (m i j : Nat) : (colM xs m i j).length = m := by simp [colM]
theorem colM_nth {xs : List Int} {m i j t : Nat} (h : t < m) : nth (colM xs m i j) t = if t < j then cntN xs t (i + 1) else cntN xs t i := by
  rw [nth_get (by rw [colM_len]; exact h)]; simp [colM]
theorem list_ext_nth {a b : List Int} (hl : a.length = b.length) (h : ∀ k, k < a.length → nth a k = nth b k) : a = b := by
  apply List.ext_getElem hl
  intro j h1 h2
  rw [← nth_get h1, ← nth_get h2]
  exact h j h1
theorem nth_set {l : List Int} {k : Nat} (x : Int) (hk : k < l.length) (j : Nat) : nth (l.set k x) j = if j = k then x else nth l j := by
  unfold nth
  rw [List.getD_eq_getElem?_getD, List.getD_eq_getElem?_getD, List.getElem?_set]
  by_cases h : k = j
  · subst h; simp [hk]
  · rw [if_neg h, if_neg (fun h' => h h'.symm)]
theorem colM_step {xs : List Int} {m i j : Nat} (hj : j < m) (hx : (j : Int) < nth xs i) : (colM xs m i j).set j (cntN xs j i + 1) = colM xs m i (j + 1) := by
  refine list_ext_nth (by simp [colM_len]) fun k hk => ?_
  have hk' : k < m := by simpa [colM_len] using hk
  rw [nth_set _ (by rw [colM_len]; exact hj), colM_nth hk', colM_nth hk']
  by_cases h : k = j
  · subst h
    rw [if_pos rfl, if_pos (by omega)]
    show _ = if (k : Int) < nth xs i then cntN xs k i + 1 else cntN xs k i
    rw [if_pos hx]
  · rw [if_neg h]
    by_cases h2 : k < j
    · rw [if_pos h2, if_pos (by omega)]
    · rw [if_neg h2, if_neg (by omega)]
theorem colM_row {xs : List Int} {m i j : Nat} (hx : nth xs i = (j : Int)) : colM xs m i j = colM xs m (i + 1) 0 := by
  refine list_ext_nth (by simp [colM_len]) fun k hk => ?_
  have hk' : k < m := by simpa [colM_len] using hk
  rw [colM_nth hk', colM_nth hk', if_neg (by omega : ¬ k < 0)]
  by_cases h : k < j
  · rw [if_pos h]
  · rw [if_neg h]
    show _ = if (k : Int) < nth xs i then cntN xs k i + 1 else cntN xs k i
    rw [if_neg (by omega)]
theorem colM_start (xs : List Int) (m : Nat) : colM xs m 0 0 = List.replicate m 0 := by
  refine list_ext_nth (by simp [colM_len]) fun k hk => ?_
  have hk' : k < m := by simpa [colM_len] using hk
  rw [colM_nth hk', if_neg (by omega), nth_get (by simpa using hk')]
  simp [cntN]
theorem colM_all (xs : List Int) (m : Nat) : colM xs m xs.length 0 = conjL xs m := by
  refine list_ext_nth (by simp [colM_len, conjL_len]) fun k hk => ?_
  have hk' : k < m := by simpa [colM_len] using hk
  rw [colM_nth hk', if_neg (by omega), nth_get (by simpa [conjL_len] using hk')]
  simp [conjL]
set_option maxHeartbeats 1600000 in
theorem implConj_any (A : Option Addr) (n c : Nat) (xs : List Int) (w : World) (hs : SI w A n xs) (hn : n ≤ 1099511627776) :
    Calls Try.prog 20 #[.slice A n c] w fun e w' => Fresh w w' e (conjShape xs) := by
  have HI := Lib.hid (implIsShape_any A n c xs w hs hn)
  cases hu : isShapeB xs with
  | false =>
    rw [hu] at HI
    have HE := Lib.hid (conj_no hu)
    clear hu hs
    go_enter Try.func20, Try.ntmps20
    go_wp2_with (go_at_call 39; refine HI.out.mono ?_; rintro e w1 ⟨rfl, hd1⟩)
    go_ret
    rw [HE.out]
    exact Fresh.nil_ret' (hd1.below _)
  | true =>
    rw [hu] at HI
    have hp := isShapeB_P hu
    have hl := hs.1
    by_cases h0 : n = 0
    · have HE : Hid (conjShape xs = []) := Lib.hid (by rw [conj_yes hu, nth_out (by omega)]; rfl)
      subst h0
      clear hu hs hp
      go_enter Try.func20, Try.ntmps20
      go_wp2_with (go_at_call 39; refine HI.out.mono ?_; rintro e w1 ⟨rfl, hd1⟩)
      go_ret
      rw [HE.out]
      exact Fresh.nil_ret' (hd1.below _)
    · have h0I : ((n : Int) == 0) = false := by simpa using h0
      have HL := Lib.hid hl
      have h16 : n ≤ 16 := by have := hp.1; omega
      obtain ⟨m, hm⟩ : ∃ m : Nat, nth xs 0 = (m : Int) := ⟨(nth xs 0).toNat, by have := (shape_range hp 0).1; omega⟩
      have hm16 : m ≤ 16 := by have := (shape_range hp 0).2; omega
      have HE : Hid (conjShape xs = conjL xs m) := Lib.hid (by rw [conj_yes hu, hm, Int.toNat_natCast])
      have HF : Hid (∀ k, k < n → 0 ≤ nth xs k ∧ nth xs k ≤ m) := Lib.hid (fun k hk => ⟨(shape_range hp k).1, by rw [← hm]; exact shape_first hp k (by omega)⟩)
      obtain ⟨b, o, rfl, hb, hc⟩ := hs.at_ (by omega)
      have hc0 := hc 0 (by omega)
      rw [hm, Nat.add_zero] at hc0
      have HS := Lib.hid hs
      have hnI : (0 : Int) < (n : Int) := by omega
      clear hu hs hp hm hc h0 hl
      go_enter Try.func20, Try.ntmps20
      go_wp2_with (first
        | (go_at_call 39; refine HI.out.mono ?_; rintro e w1 ⟨rfl, hd1⟩
           have HD1 : Hid (Below w.heap.size w w1) := Lib.hid (hd1.below _)
           have HZ1 : Hid (w1.heap.size = w.heap.size) := Lib.hid (by rw [hd1.heap])
           have hc01 : w1.cell? ⟨b, o, none⟩ = some (.int .i64 m) := ((hd1.below w.heap.size).cell (p := ⟨b, o, none⟩) hb).trans hc0
           clear hd1)
        | (at_make; refine wpList_make_zero rfl (.tmp 17) (.tmp 17) rfl m rfl rfl (by omega) ?_; intro w2 ho2 hb2; have HO2 := Lib.hid ho2; have HB2 := Lib.hid hb2; clear ho2 hb2))
      obtain ⟨B, hB⟩ : ∃ B, B = w1.heap.size := ⟨_, rfl⟩
      have HBE : Hid (B = w.heap.size) := Lib.hid (by rw [hB]; exact HZ1.out)
      rw [← hB] at HO2 HB2 ⊢
      have HBW : Hid (Below w.heap.size w w2) := Lib.hid (HD1.out.trans (by have := HB2.out; rwa [HBE.out] at this))
      have HO2' : Hid (Own w2 B (B + 1) (some ⟨B, 0, none⟩) m m (colM xs m 0 0)) := Lib.hid (by rw [colM_start]; exact ⟨HO2.out.1, fun k hk => by simp [Value.ownBlock] at hk; omega⟩)
      have HZ2 : Hid (B + 1 ≤ w2.heap.size) := Lib.hid (by have := HO2.out.lt B rfl; omega)
      clear HO2 HB2 hB hc0 hc01
      go_loopw [21] (fun iv wr => ∃ i : Nat, i ≤ n ∧ iv = .int .i64 i ∧ Own wr B (B + 1) (some ⟨B, 0, none⟩) m m (colM xs m i 0) ∧ Below w.heap.size w wr ∧ B + 1 ≤ wr.heap.size)
        (fun iv _ => n - (intOf iv).toNat)
      case atStart => exact ⟨0, Nat.zero_le _, rfl, HO2'.out, HBW.out, HZ2.out⟩
      case round =>
        obtain ⟨i, hi, rfl, hown, hbw, hz⟩ := hrel
        clear HO2' HBW HZ2
        have HO := Lib.hid hown
        have HB := Lib.hid hbw
        have HZ := Lib.hid hz
        clear hown hbw hz
        by_cases hlt : i < n
        · have hiI : (i : Int) < (n : Int) := by omega
          have hs' := HS.out.below HB.out (Nat.le_refl _)
          obtain ⟨b', o', e1, hb', hc'⟩ := hs'.at_ (by omega)
          obtain ⟨rfl, rfl⟩ : b = b' ∧ o = o' := by simpa using e1
          have hc1 := hc' i hlt
          obtain ⟨t, ht⟩ : ∃ t : Nat, nth xs i = (t : Int) := ⟨(nth xs i).toNat, by have := (HF.out i hlt).1; omega⟩
          have HT : Hid (t ≤ m) := Lib.hid (by have := (HF.out i hlt).2; omega)
          have HTX := Lib.hid ht
          rw [ht] at hc1
          clear hs' e1 hb' hc' ht
          go_wp2_with fail
          go_loopw [26] (fun jv wx => ∃ j : Nat, j ≤ t ∧ jv = .int .i64 j ∧ Own wx B (B + 1) (some ⟨B, 0, none⟩) m m (colM xs m i j) ∧ Below w.heap.size w wx ∧ B + 1 ≤ wx.heap.size)
            (fun jv _ => t - (intOf jv).toNat)
          case atStart => exact ⟨0, Nat.zero_le _, rfl, HO.out, HB.out, HZ.out⟩
          case round =>
            obtain ⟨j, hj, rfl, hown, hbw, hz⟩ := hrel
            clear HO HB HZ hc1
            have HO := Lib.hid hown
            have HB := Lib.hid hbw
            have HZ := Lib.hid hz
            by_cases hlt2 : j < t
            · have hjI : (j : Int) < (t : Int) := by omega
              have hjm : j < m := by have := HT.out; omega
              have hjmI : (j : Int) < (m : Int) := by omega
              have hcc := hown.cellAt (k := j) hjm
              have hff := hown.frozenAt j
              rw [colM_nth hjm, if_neg (by omega)] at hcc
              have hr := cntN_range xs j i
              have hset := (hown.set_ (k := j) (cntN xs j i + 1)).1
              rw [colM_step hjm (by rw [HTX.out]; omega)] at hset
              obtain ⟨y, hy⟩ : ∃ y, y = cntN xs j i := ⟨_, rfl⟩
              rw [← hy] at hcc hr hset
              obtain ⟨hr0, hr1⟩ := hr
              have hwp : IntKind.i64.wrap (y + 1) = y + 1 := IntWalk.i64_in _ (by omega)
              have HSET := Lib.hid hset
              clear hset hy hown hbw hz
              go_wp2
              go_roundw
              case rel => exact ⟨j + 1, by omega, by go_num, HSET.out, HB.out.setCell (by rw [← HBE.out]; exact Nat.le_refl _) _, by simpa using HZ.out⟩
              case measure => simp [intOf]; omega
            · have hjt : j = t := by omega
              subst hjt
              have hown' := hown
              rw [colM_row HTX.out] at hown'
              have HO3 := Lib.hid hown'
              clear hown hown' hbw hz
              go_wp2
              go_roundw
              case rel => exact ⟨i + 1, by omega, by go_num, HO3.out, HB.out, HZ.out⟩
              case measure => simp [intOf]; omega
        · have hin : i = n := by omega
          subst hin
          have HO3 := HO.out
          rw [show i = xs.length from HL.out.symm, colM_all] at HO3
          have HO4 := Lib.hid HO3
          clear HO3
          go_wp2
          go_ret
          rw [HE.out]
          exact ⟨_, _, _, rfl, HO4.out.wide (by rw [HBE.out]; exact Nat.le_refl _) HZ.out, HB.out⟩
end Go.Proofs.Ytbjnjccolapehaa
