/-
  Contracts of words and of what comes of them: the program's side. Conditions: lengths below 2^40.
-/
import Derived.Test.YtoogmghmnfljjaaSpecG
import Derived.Test.YtoogmghmnfljjaaImplD
namespace Go.Proofs.Ytoogmghmnfljjaa
open Go.RowKit

set_option maxHeartbeats 800000 in
theorem isWord_any (a : Int) (A : Option Addr) (n c : Nat) (ws : List Int) (w : World) (hs : SI w A n ws) (hn : n ≤ 1099511627776) :
    Calls Try.prog 96 #[.int .i64 a, .slice A n c] w fun e w' => e = .returned (.bool (wordB a ws)) ∧ w = w' := by
  have hl := hs.1
  have HL := Lib.hid hl
  by_cases ha : 1 ≤ a ∧ a ≤ 7
  · obtain ⟨ha1, ha2⟩ := ha
    by_cases h60 : 60 < n
    · go_enter Try.func96, Try.ntmps96
      go_wp2_with fail
      refine (isPermSize_yes (by omega) (by omega) _).mono ?_
      rintro e w2 ⟨rfl, rfl⟩
      go_wp2
      go_ret
      exact ⟨ret_bool (wordB_false (fun h => by have := h.2.2.1; have := HL.out; omega)).symm, rfl⟩
    · clear hl
      go_enter Try.func96, Try.ntmps96
      go_wp2_with fail
      refine (isPermSize_yes (by omega) (by omega) _).mono ?_
      rintro e w2 ⟨rfl, rfl⟩
      go_wp2
      go_loop [17] (fun i => ∃ k : Nat, k ≤ n ∧ i = .int .i64 k ∧ ∀ j, j < k → 0 ≤ nth ws j ∧ nth ws j ≤ a - 2)
        (fun i => n - (intOf i).toNat)
      case atStart => exact ⟨0, Nat.zero_le _, rfl, fun j hj => absurd hj (by omega)⟩
      case round =>
        obtain ⟨k, hk, rfl, hall⟩ := hrel
        have HA := Lib.hid hall
        clear hall
        by_cases hlt : k < n
        · obtain ⟨b, o, rfl, hb, hc⟩ := hs.at_ (by omega)
          have hc1 := hc k hlt
          obtain ⟨x, hx⟩ : ∃ x, x = nth ws k := ⟨_, rfl⟩
          rw [← hx] at hc1
          have HX := Lib.hid hx
          clear hx hc hs
          by_cases hx0 : x < 0
          · go_wp2
            go_ret
            refine ⟨ret_bool (wordB_false (fun h => ?_)).symm, rfl⟩
            have := h.2.2.2 k (by have := HL.out; omega)
            rw [← HX.out] at this
            omega
          · by_cases hx1 : a - 2 < x
            · go_wp2
              go_ret
              refine ⟨ret_bool (wordB_false (fun h => ?_)).symm, rfl⟩
              have := h.2.2.2 k (by have := HL.out; omega)
              rw [← HX.out] at this
              omega
            · go_wp2
              go_round
              case rel => exact ⟨k + 1, by omega, by go_num, fun j hj => by
                rcases Nat.lt_or_ge j k with h | h
                · exact HA.out j h
                · obtain rfl : j = k := by omega
                  have e1 := HX.out
                  exact ⟨by omega, by omega⟩⟩
              case measure => simp [intOf]; omega
        · have hkn : k = n := by omega
          subst hkn
          go_wp2
          go_ret
          exact ⟨ret_bool (wordB_true ⟨ha1, ha2, by have := HL.out; omega, by rw [HL.out]; exact HA.out⟩).symm, rfl⟩
  · go_enter Try.func96, Try.ntmps96
    go_wp2_with fail
    refine (isPermSize_no (by omega) _).mono ?_
    rintro e w2 ⟨rfl, rfl⟩
    go_wp2
    go_ret
    exact ⟨ret_bool (wordB_false (fun h => ha ⟨h.1, h.2.1⟩)).symm, rfl⟩

set_option maxHeartbeats 2000000 in
theorem exchanged_any (l : List Int) (i j : Nat) (w : World) (hi : i < 7) (hj : j < 7) (hij : i ≠ j) (hl : l.length = 7) :
    Calls Try.prog 98 #[arr l, .int .i64 i, .int .i64 j] w fun e w' => e = .returned (arr (swapL l i j)) ∧ Below w.heap.size w w' := by
  have HL := Lib.hid hl
  clear hl
  obtain ⟨w1, hw1⟩ : ∃ w1 : World, w1 = (w.alloc (.cells (arrC l) 71)).alloc (.cells zeroC 71) := ⟨_, rfl⟩
  have hA : Blk w1 w.heap.size 71 (arrC l) := by rw [hw1]; exact (Blk.new w _ _).alloc _
  have hZ : Blk w1 (w.heap.size + 1) 71 zeroC := by
    rw [hw1]
    have := Blk.new (w.alloc (.cells (arrC l) 71)) 71 zeroC
    simp only [World.size_alloc] at this
    exact this
  have hB : Below w.heap.size w w1 := by rw [hw1]; exact ((Below.alloc_self _ _).alloc (by simp) _)
  have HA := Lib.hid hA
  have HZ := Lib.hid hZ
  have HB := Lib.hid hB
  have HW := Lib.hid hw1
  clear hA hZ hB hw1
  have hci := (HA.out.cell i).trans (arrC_get l i hi)
  have hcj := (HA.out.cell j).trans (arrC_get l j hj)
  have hfi := HA.out.frozen i
  obtain ⟨x, hx⟩ : ∃ x, x = nth l i := ⟨_, rfl⟩
  obtain ⟨y, hy⟩ : ∃ y, y = nth l j := ⟨_, rfl⟩
  rw [← hx] at hci
  rw [← hy] at hcj
  have HX := Lib.hid hx
  have HY := Lib.hid hy
  clear hx hy
  have h1 := HA.out.set_ i (.int .i64 y)
  have hcj2 : (w1.setCell ⟨w.heap.size, i, none⟩ (.int .i64 y)).cell? ⟨w.heap.size, j, none⟩ = some (.int .i64 y) := (World.cell?_setCell_other w1 _ _ _ (by intro e; injection e with _ e2; exact hij e2)).trans hcj
  have hfj2 := h1.frozen j
  have h2 := h1.set_ j (.int .i64 x)
  have hz2 := (HZ.out.far (p := ⟨w.heap.size, i, none⟩) (by show w.heap.size + 1 ≠ w.heap.size; omega) (.int .i64 y)).far (p := ⟨w.heap.size, j, none⟩) (by show w.heap.size + 1 ≠ w.heap.size; omega) (.int .i64 x)
  have hb2 := (HB.out.setCell (p := ⟨w.heap.size, i, none⟩) (Nat.le_refl _) (.int .i64 y)).setCell (p := ⟨w.heap.size, j, none⟩) (Nat.le_refl _) (.int .i64 x)
  have HS := Lib.hid h2
  have HZ2 := Lib.hid hz2
  have HB2 := Lib.hid hb2
  clear h1 h2 hz2 hb2
  have hiI : (i : Int) < 7 := by omega
  have hjI : (j : Int) < 7 := by omega
  have hij' : ¬ j = i := fun e => hij e.symm
  go_enter Try.func98, Try.ntmps98
  go_wp2
  rw [← HW.out]
  go_region
  have HS3 : Hid (Blk ((w1.setCell ⟨w.heap.size, i, none⟩ (.int .i64 y)).setCell ⟨w.heap.size, j, none⟩ (.int .i64 x)).drew w.heap.size 71 (arrC (swapL l i j))) := Lib.hid (by
    have := HS.out
    rw [arrC_set l i hi y HL.out, arrC_set _ j hj x (by simp [HL.out])] at this
    have e1 := HX.out
    have e2 := HY.out
    unfold swapL
    rw [← e1, ← e2]
    exact this)
  go_wp2_with (first | (refine wpList_load_blk rfl 71 (.tmp 3) rfl w.heap.size rfl 71 (arrC (swapL l i j)) 7 3 HS3.out Try.undArr Try.infoArr ?_) | (refine wpList_store_blk rfl 71 (.tmp 6) (.tmp 17) rfl (w.heap.size + 1) (arrC (swapL l i j)) rfl rfl 71 zeroC HZ2.out Try.infoArr rfl (arrC_one _) ?_; intro w3 hR3 hg3))
  refine bodyPost_ret (results_blk Try.results98 _ _ _ _ _ 7 3 rfl hR3 Try.undArr Try.infoArr) rfl ?_
  exact ⟨rfl, HB2.out.drew.grown hg3 HB2.out.size (by rintro _ ⟨⟩; omega)⟩

theorem swapL_nth {l : List Int} {i j t : Nat} (hi : i < l.length) (hj : j < l.length) (ht : t < l.length) : nth (swapL l i j) t = if t = j then nth l i else if t = i then nth l j else nth l t := by
  rw [nth_get (by rw [swapL_len]; exact ht)]
  unfold swapL
  rw [List.getElem_set]
  by_cases h1 : j = t
  · rw [if_pos h1, if_pos h1.symm]
  · rw [if_neg h1, if_neg (fun h => h1 h.symm), List.getElem_set]
    by_cases h2 : i = t
    · rw [if_pos h2, if_pos h2.symm]
    · rw [if_neg h2, if_neg (fun h => h2 h.symm), nth_get ht]
/-- The numbers of an array stay apart. -/
def Apart7 (l : List Int) : Prop := ∀ s t, s < 7 → t < 7 → nth l s = nth l t → s = t
theorem Apart7.swap {l : List Int} {i j : Nat} (h : Apart7 l) (hl : l.length = 7) (hi : i < 7) (hj : j < 7) : Apart7 (swapL l i j) := by
  intro s t hs ht e
  rw [swapL_nth (by omega) (by omega) (by omega), swapL_nth (by omega) (by omega) (by omega)] at e
  by_cases s1 : s = j
  · rw [if_pos s1] at e
    by_cases t1 : t = j
    · omega
    · rw [if_neg t1] at e
      by_cases t2 : t = i
      · rw [if_pos t2] at e; have := h _ _ hi hj e; omega
      · rw [if_neg t2] at e; have := h _ _ hi ht e; omega
  · rw [if_neg s1] at e
    by_cases s2 : s = i
    · rw [if_pos s2] at e
      by_cases t1 : t = j
      · rw [if_pos t1] at e; have := h _ _ hj hi e; omega
      · rw [if_neg t1] at e
        by_cases t2 : t = i
        · omega
        · rw [if_neg t2] at e; have := h _ _ hj ht e; omega
    · rw [if_neg s2] at e
      by_cases t1 : t = j
      · rw [if_pos t1] at e; have := h _ _ hs hi e; omega
      · rw [if_neg t1] at e
        by_cases t2 : t = i
        · rw [if_pos t2] at e; have := h _ _ hs hj e; omega
        · rw [if_neg t2] at e; exact h _ _ hs ht e
theorem idL_apart : Apart7 (idL 7) := by
  intro s t hs ht e
  rw [nth_get (by rw [idL_len]; exact hs), nth_get (by rw [idL_len]; exact ht)] at e
  simp only [idL, List.getElem_map, List.getElem_range] at e
  omega
theorem playL_apart (ws : List Int) (all : Bool) (hr : ∀ k, k < ws.length → (nth ws k).toNat + 1 < 7) : ∀ k, k ≤ ws.length → Apart7 (playL ws all k) := by
  intro k
  induction k with
  | zero => intro _; exact idL_apart
  | succ k ih =>
    intro hk
    unfold playL
    have := hr k (by omega)
    split
    · exact (ih (by omega)).swap (playL_len _ _ _) (by omega) (by omega)
    · exact ih (by omega)

set_option maxHeartbeats 2000000 in
theorem implWord_any (a : Int) (A : Option Addr) (n c : Nat) (ws : List Int) (w : World) (hs : SI w A n ws) (hn : n ≤ 1099511627776) :
    Calls Try.prog 56 #[.int .i64 a, .slice A n c] w fun e w' => Fresh w w' e (playPerm true a ws) := by
  have hw := isWord_any a A n c ws w hs hn
  cases hu : wordB a ws with
  | false =>
    rw [hu] at hw
    have HE := Lib.hid (playPerm_no (all := true) hu)
    clear hu
    go_enter Try.func56, Try.ntmps56
    go_wp2_with fail
    refine hw.mono ?_
    rintro e w1 ⟨rfl, rfl⟩
    clear hw
    go_wp2
    go_ret
    rw [HE.out]
    exact Fresh.nil_ret (Below.refl _ _)
  | true =>
    rw [hu] at hw
    obtain ⟨m, rfl⟩ : ∃ m : Nat, a = (m : Int) := ⟨a.toNat, by have := (wordB_P hu).1; omega⟩
    have HE := Lib.hid (playPerm_yes (all := true) hu)
    have HU := Lib.hid (wordB_P hu)
    have HL := Lib.hid hs.1
    have hm7 : m ≤ 7 := by have := HU.out.2.1; omega
    clear hu
    go_enter Try.func56, Try.ntmps56
    go_wp2_with fail
    refine hw.mono ?_
    rintro e w1 ⟨rfl, rfl⟩
    clear hw
    go_wp2_with fail
    refine (identityArray_any _).mono ?_
    rintro e w1 ⟨rfl, hb1⟩
    have hK : Blk (w1.alloc (.cells #[.int .i64 0, .int .i64 1, .int .i64 2, .int .i64 3, .int .i64 4, .int .i64 5, .int .i64 6] 71)) w1.heap.size 71 (arrC (playL ws true 0)) := Blk.new w1 _ _
    go_wp2
    have hb2 := hb1.alloc hb1.size (.cells #[.int .i64 0, .int .i64 1, .int .i64 2, .int .i64 3, .int .i64 4, .int .i64 5, .int .i64 6] 71)
    have hgG : w.heap.size ≤ w1.heap.size := hb1.size
    obtain ⟨g, hg⟩ : ∃ g, g = w1.heap.size := ⟨_, rfl⟩
    rw [← hg] at hK hgG ⊢
    generalize w1.alloc (.cells #[.int .i64 0, .int .i64 1, .int .i64 2, .int .i64 3, .int .i64 4, .int .i64 5, .int .i64 6] 71) = w2 at *
    clear hg
    go_loopw [15] (fun i wr => ∃ k : Nat, k ≤ n ∧ i = .int .i64 k ∧ Blk wr g 71 (arrC (playL ws true k)) ∧ Below w.heap.size w wr)
      (fun i _ => n - (intOf i).toNat)
    case atStart => exact ⟨0, Nat.zero_le _, rfl, hK, hb2⟩
    case round =>
      obtain ⟨k, hk, rfl, hA, hbel⟩ := hrel
      have HA := Lib.hid hA
      have HB := Lib.hid hbel
      by_cases hlt : k < n
      · obtain ⟨b, o, e1, hb, hc⟩ := (hs.below hbel (Nat.le_refl _)).at_ (by omega)
        have hc1 := hc k hlt
        obtain ⟨hw1, hw2⟩ := HU.out.2.2.2 k (by have := HL.out; omega)
        obtain ⟨q, hq⟩ : ∃ q : Nat, nth ws k = (q : Int) := ⟨(nth ws k).toNat, by omega⟩
        have hqt : (nth ws k).toNat = q := by omega
        rw [hq] at hc1
        have hq2 : q + 1 < m := by omega
        have HQ := Lib.hid hqt
        subst e1
        clear hc hs hq hqt hw1 hw2 hA hbel hK hb2 hb1 hb
        have hsw : Calls Try.prog 98 #[arr (playL ws true k), .int .i64 q, .int .i64 ((q : Int) + 1)] wr (fun e w' => e = .returned (arr (swapL (playL ws true k) q (q + 1))) ∧ Below wr.heap.size wr w') :=
          exchanged_any _ q (q + 1) wr (by omega) (by omega) (by omega) (playL_len _ _ _)
        have HSW := Lib.hid hsw
        clear hsw
        go_wp2_with (first | (refine wpList_load_blk rfl 71 (.tmp 5) rfl g rfl 71 (arrC (playL ws true k)) 7 3 HA.out Try.undArr Try.infoArr ?_) | fail)
        refine HSW.out.mono ?_
        rintro e w4 ⟨rfl, hb4⟩
        have HA4 := Lib.hid (HA.out.below hb4 HA.out.lt)
        have HB4 := Lib.hid (HB.out.trans (hb4.mono HB.out.size))
        clear hb4
        go_wp2_with (refine wpList_store_blk rfl 71 (.tmp 5) (.tmp 23) rfl g (arrC (swapL (playL ws true k) q (q + 1))) rfl rfl 71 (arrC (playL ws true k)) HA4.out Try.infoArr rfl (arrC_one _) ?_; intro w5 hR5 hg5)
        go_roundw
        case rel => exact ⟨k + 1, by omega, by go_num, by rw [playL_hit HQ.out (.inl rfl)]; exact hR5, HB4.out.grown hg5 HB4.out.size (by rintro _ ⟨⟩; exact hgG)⟩
        case measure => simp [intOf]; omega
      · have hkn : k = n := by omega
        subst hkn
        clear hA hbel hK hb2 hb1
        go_wp2_with (first | (refine wpList_load_blk rfl 71 (.tmp 5) rfl g rfl 71 (arrC (playL ws true k)) 7 3 HA.out Try.undArr Try.infoArr ?_) | fail)
        refine (list_any (playL ws true k) m wr (playL_len _ _ _) hm7).mono ?_
        rintro e w4 ⟨A4, n4, c4, rfl, ho4, hb4⟩
        go_wp2
        go_ret
        rw [HE.out, HL.out]
        exact Fresh.after HB.out ⟨A4, n4, c4, rfl, ho4, hb4⟩

set_option maxHeartbeats 2000000 in
theorem implDemazure_any (a : Int) (A : Option Addr) (n c : Nat) (ws : List Int) (w : World) (hs : SI w A n ws) (hn : n ≤ 1099511627776) :
    Calls Try.prog 57 #[.int .i64 a, .slice A n c] w fun e w' => Fresh w w' e (playPerm false a ws) := by
  have hw := isWord_any a A n c ws w hs hn
  cases hu : wordB a ws with
  | false =>
    rw [hu] at hw
    have HE := Lib.hid (playPerm_no (all := false) hu)
    clear hu
    go_enter Try.func57, Try.ntmps57
    go_wp2_with fail
    refine hw.mono ?_
    rintro e w1 ⟨rfl, rfl⟩
    clear hw
    go_wp2
    go_ret
    rw [HE.out]
    exact Fresh.nil_ret (Below.refl _ _)
  | true =>
    rw [hu] at hw
    obtain ⟨m, rfl⟩ : ∃ m : Nat, a = (m : Int) := ⟨a.toNat, by have := (wordB_P hu).1; omega⟩
    have HE := Lib.hid (playPerm_yes (all := false) hu)
    have HU := Lib.hid (wordB_P hu)
    have HL := Lib.hid hs.1
    have hm7 : m ≤ 7 := by have := HU.out.2.1; omega
    clear hu
    go_enter Try.func57, Try.ntmps57
    go_wp2_with fail
    refine hw.mono ?_
    rintro e w1 ⟨rfl, rfl⟩
    clear hw
    go_wp2_with fail
    refine (identityArray_any _).mono ?_
    rintro e w1 ⟨rfl, hb1⟩
    have hK : Blk (w1.alloc (.cells #[.int .i64 0, .int .i64 1, .int .i64 2, .int .i64 3, .int .i64 4, .int .i64 5, .int .i64 6] 71)) w1.heap.size 71 (arrC (playL ws false 0)) := Blk.new w1 _ _
    go_wp2
    have hb2 := hb1.alloc hb1.size (.cells #[.int .i64 0, .int .i64 1, .int .i64 2, .int .i64 3, .int .i64 4, .int .i64 5, .int .i64 6] 71)
    have hgG : w.heap.size ≤ w1.heap.size := hb1.size
    obtain ⟨g, hg⟩ : ∃ g, g = w1.heap.size := ⟨_, rfl⟩
    rw [← hg] at hK hgG ⊢
    generalize w1.alloc (.cells #[.int .i64 0, .int .i64 1, .int .i64 2, .int .i64 3, .int .i64 4, .int .i64 5, .int .i64 6] 71) = w2 at *
    clear hg
    go_loopw [15] (fun i wr => ∃ k : Nat, k ≤ n ∧ i = .int .i64 k ∧ Blk wr g 71 (arrC (playL ws false k)) ∧ Below w.heap.size w wr)
      (fun i _ => n - (intOf i).toNat)
    case atStart => exact ⟨0, Nat.zero_le _, rfl, hK, hb2⟩
    case round =>
      obtain ⟨k, hk, rfl, hA, hbel⟩ := hrel
      have HA := Lib.hid hA
      have HB := Lib.hid hbel
      by_cases hlt : k < n
      · obtain ⟨b, o, e1, hb, hc⟩ := (hs.below hbel (Nat.le_refl _)).at_ (by omega)
        have hc1 := hc k hlt
        obtain ⟨hw1, hw2⟩ := HU.out.2.2.2 k (by have := HL.out; omega)
        obtain ⟨q, hq⟩ : ∃ q : Nat, nth ws k = (q : Int) := ⟨(nth ws k).toNat, by omega⟩
        have hqt : (nth ws k).toNat = q := by omega
        rw [hq] at hc1
        have hq2 : q + 1 < m := by omega
        have HQ := Lib.hid hqt
        subst e1
        clear hc hs hq hqt hw1 hw2 hA hbel hK hb2 hb1 hb
        go_wp2_with (first | (refine wpList_load_blk rfl 71 (.tmp 5) rfl g rfl 71 (arrC (playL ws false k)) 7 3 HA.out Try.undArr Try.infoArr ?_) | fail)
        refine (isDescent_any (playL ws false k) q wr (by omega)).mono ?_
        rintro e w4 ⟨rfl, hb4⟩
        have HA4 := Lib.hid (HA.out.below hb4 HA.out.lt)
        have HB4 := Lib.hid (HB.out.trans (hb4.mono HB.out.size))
        have hsw : Calls Try.prog 98 #[arr (playL ws false k), .int .i64 q, .int .i64 ((q : Int) + 1)] w4 (fun e w' => e = .returned (arr (swapL (playL ws false k) q (q + 1))) ∧ Below w4.heap.size w4 w') :=
          exchanged_any _ q (q + 1) w4 (by omega) (by omega) (by omega) (playL_len _ _ _)
        have HSW := Lib.hid hsw
        clear hb4 hsw
        by_cases hd : nth (playL ws false k) (q + 1) < nth (playL ws false k) q
        · have hdd : decide (nth (playL ws false k) (q + 1) < nth (playL ws false k) q) = true := by simpa using hd
          rw [hdd]
          have HD := Lib.hid hd
          clear hd hdd
          go_wp2
          go_roundw
          case rel =>
            have e0 : playL ws false (k + 1) = playL ws false k := playL_miss HQ.out (by
              have := HD.out
              rintro (h | h)
              · cases h
              · omega)
            exact ⟨k + 1, by omega, by go_num, by rw [e0]; exact HA4.out, HB4.out⟩
          case measure => simp [intOf]; omega
        · have hdd : decide (nth (playL ws false k) (q + 1) < nth (playL ws false k) q) = false := by simpa using hd
          rw [hdd]
          have HD := Lib.hid hd
          clear hd hdd
          by_cases he : nth (playL ws false k) q < nth (playL ws false k) (q + 1)
          · have HE2 := Lib.hid he
            clear he
            go_wp2_with (first | (refine wpList_load_blk rfl 71 (.tmp 5) rfl g rfl 71 (arrC (playL ws false k)) 7 3 HA4.out Try.undArr Try.infoArr ?_) | fail)
            refine HSW.out.mono ?_
            rintro e w5 ⟨rfl, hb5⟩
            have HA5 := Lib.hid (HA4.out.below hb5 HA4.out.lt)
            have HB5 := Lib.hid (HB4.out.trans (hb5.mono HB4.out.size))
            clear hb5
            go_wp2_with (refine wpList_store_blk rfl 71 (.tmp 5) (.tmp 27) rfl g (arrC (swapL (playL ws false k) q (q + 1))) rfl rfl 71 (arrC (playL ws false k)) HA5.out Try.infoArr rfl (arrC_one _) ?_; intro w6 hR6 hg6)
            go_roundw
            case rel => exact ⟨k + 1, by omega, by go_num, by rw [playL_hit HQ.out (.inr HE2.out)]; exact hR6, HB5.out.grown hg6 HB5.out.size (by rintro _ ⟨⟩; exact hgG)⟩
            case measure => simp [intOf]; omega
          · exfalso
            have hap := playL_apart ws false (fun t ht => by have := HU.out.2.2.2 t ht; omega) k (by have := HL.out; omega)
            have := hap q (q + 1) (by omega) (by omega) (by have := HD.out; omega)
            omega
      · have hkn : k = n := by omega
        subst hkn
        clear hA hbel hK hb2 hb1
        go_wp2_with (first | (refine wpList_load_blk rfl 71 (.tmp 5) rfl g rfl 71 (arrC (playL ws false k)) 7 3 HA.out Try.undArr Try.infoArr ?_) | fail)
        refine (list_any (playL ws false k) m wr (playL_len _ _ _) hm7).mono ?_
        rintro e w4 ⟨A4, n4, c4, rfl, ho4, hb4⟩
        go_wp2
        go_ret
        rw [HE.out, HL.out]
        exact Fresh.after HB.out ⟨A4, n4, c4, rfl, ho4, hb4⟩
end Go.Proofs.Ytoogmghmnfljjaa
