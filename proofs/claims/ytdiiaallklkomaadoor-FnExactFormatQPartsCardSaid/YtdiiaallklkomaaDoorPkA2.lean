/-
  Texts StrC to ClassM, merged. Conditions: as each says.
-/
import Derived.WalkMore
import Derived.RegionTactic
import Derived.BigRegion
import Derived.Deep.MidRow
import Derived.Laws.Concat
import Derived.Lib.Join
import Derived.Deep.SlicePairs
import Derived.Laws.BytesArg
import Derived.Test.YtdiiaallklkomaaDoorPkA1
/-
  A list of numbers all of which are 0 or 1: the program's tests. Conditions: lengths below 2^40.
-/

namespace Go.Proofs.YtdiiaallklkomaaDoor
open Go.RowKit

set_option maxHeartbeats 400000 in
theorem StrFn_any (x : Int) (w : World) : Calls Tryd.prog 105 #[.int .i64 x] w fun r w' => r = .returned (.bool (decide (¬ (0 ≤ x ∧ x ≤ 1)))) ∧ w = w' := by
  by_cases h0 : x = 0
  · subst h0
    go_enter Tryd.func105, Tryd.ntmps105
    go_wp2
    go_ret
    exact ⟨ret_bool (by decide), rfl⟩
  · by_cases h1 : x = 1
    · subst h1
      go_enter Tryd.func105, Tryd.ntmps105
      go_wp2
      go_ret
      exact ⟨ret_bool (by decide), rfl⟩
    · have HE : Hid (true = decide (¬ (0 ≤ x ∧ x ≤ 1))) := Lib.hid (decide_eq_true (by omega)).symm
      have hb0 : (x != 0) = true := by simpa using h0
      have hb1 : (x != 1) = true := by simpa using h1
      clear h0 h1
      go_enter Tryd.func105, Tryd.ntmps105
      go_wp2
      go_ret
      exact ⟨ret_bool HE.out, rfl⟩
set_option maxHeartbeats 800000 in
theorem indexStr_any (A : Option Addr) (n c : Nat) (xs : List Int) (w : World) (hs : SI w A n xs) (hn : n ≤ 1099511627776) :
    Calls Tryd.prog 116 #[.slice A n c, .func (.func 105) #[] #[]] w fun r w' =>
      ∃ i : Int, r = .returned (.int .i64 i) ∧ (i < 0 ∧ (∀ k, k < n → (0 ≤ nth xs k ∧ nth xs k ≤ 1)) ∨ 0 ≤ i ∧ ∃ k, k < n ∧ ¬ (0 ≤ nth xs k ∧ nth xs k ≤ 1)) ∧ Drawn w w' := by
  go_enter Tryd.func116, Tryd.ntmps116
  go_wp2
  go_loopw [8] (fun i wr => ∃ k : Nat, k ≤ n ∧ i = .int .i64 k ∧ Drawn w wr ∧ ∀ j, j < k → (0 ≤ nth xs j ∧ nth xs j ≤ 1))
    (fun i _ => n - (intOf i).toNat)
  case atStart => exact ⟨0, Nat.zero_le _, rfl, Drawn.refl _, fun j hj => absurd hj (by omega)⟩
  case round =>
    obtain ⟨k, hk, rfl, hD, hall⟩ := hrel
    have HA := Lib.hid hall
    have HDR := Lib.hid hD
    have hs := hD.si hs
    clear hall hD
    by_cases hlt : k < n
    · have hlI : (k : Int) < (n : Int) := by omega
      obtain ⟨b, o, rfl, hb, hc⟩ := hs.at_ (by omega)
      have hc1 := hc k hlt
      obtain ⟨x, hx⟩ : ∃ x, x = nth xs k := ⟨_, rfl⟩
      rw [← hx] at hc1
      have HX := Lib.hid hx
      clear hc hx hs
      by_cases hg : (0 ≤ x ∧ x ≤ 1)
      · have HF : Hid (∀ w, Calls Tryd.prog 105 #[.int .i64 x] w fun r w' => r = .returned (.bool false) ∧ w = w') := Lib.hid (fun w => by
          have := StrFn_any x w
          rwa [decide_eq_false (fun h => h hg)] at this)
        have HG := Lib.hid hg
        clear hg
        go_wp2_with (go_at_call 105; refine (HF.out _).mono ?_; rintro r w2 ⟨rfl, rfl⟩)
        go_roundw
        case rel => exact ⟨k + 1, by omega, by go_num, HDR.out, fun j hj => by
          rcases Nat.lt_or_ge j k with h | h
          · exact HA.out j h
          · obtain rfl : j = k := by omega
            rw [← HX.out]; exact HG.out⟩
        case measure => simp [intOf]; omega
      · have HF : Hid (∀ w, Calls Tryd.prog 105 #[.int .i64 x] w fun r w' => r = .returned (.bool true) ∧ w = w') := Lib.hid (fun w => by
          have := StrFn_any x w
          rwa [decide_eq_true hg] at this)
        have HG := Lib.hid hg
        clear hg
        go_wp2_with (go_at_call 105; refine (HF.out _).mono ?_; rintro r w2 ⟨rfl, rfl⟩)
        go_ret
        exact ⟨(k : Int), rfl, .inr ⟨by omega, k, hlt, by rw [← HX.out]; exact HG.out⟩, HDR.out⟩
    · have hkn : k = n := by omega
      subst hkn
      go_wp2
      go_ret
      exact ⟨-1, rfl, .inl ⟨by omega, HA.out⟩, HDR.out⟩
set_option maxHeartbeats 400000 in
theorem containsStr_any (A : Option Addr) (n c : Nat) (xs : List Int) (w : World) (hs : SI w A n xs) (hn : n ≤ 1099511627776) :
    Calls Tryd.prog 106 #[.slice A n c, .func (.func 105) #[] #[]] w fun r w' =>
      ∃ b : Bool, r = .returned (.bool b) ∧ (b = false ↔ ∀ k, k < n → (0 ≤ nth xs k ∧ nth xs k ≤ 1)) ∧ Drawn w w' := by
  have HC := Lib.hid (indexStr_any A n c xs w hs hn)
  clear hs
  go_enter Tryd.func106, Tryd.ntmps106
  go_wp2_with (go_at_call 116; refine HC.out.mono ?_; rintro r w2 ⟨i, rfl, hi, hd⟩; have HI := Lib.hid hi; have HD := Lib.hid hd; clear hi hd)
  go_ret
  refine ⟨_, rfl, ?_, HD.out⟩
  rcases HI.out with ⟨h1, h2⟩ | ⟨h1, k, hk, h2⟩
  · simp only [decide_eq_false_iff_not]
    exact ⟨fun _ => h2, fun _ => by omega⟩
  · simp only [decide_eq_false_iff_not]
    exact ⟨fun h => absurd h1 (by omega), fun h => absurd (h k hk) h2⟩
/-- The same, when what it answers is known. -/
theorem containsStr_no (A : Option Addr) (n c : Nat) (xs : List Int) (w : World) (hs : SI w A n xs) (hn : n ≤ 1099511627776) (h : ∀ k, k < n → (0 ≤ nth xs k ∧ nth xs k ≤ 1)) :
    Calls Tryd.prog 106 #[.slice A n c, .func (.func 105) #[] #[]] w fun r w' => r = .returned (.bool false) ∧ Drawn w w' :=
  (containsStr_any A n c xs w hs hn).mono fun r w' ⟨b, hr, hb, hd⟩ => by
    have e : b = false := hb.2 h
    subst e; exact ⟨hr, hd⟩
theorem containsStr_yes (A : Option Addr) (n c : Nat) (xs : List Int) (w : World) (hs : SI w A n xs) (hn : n ≤ 1099511627776) (h : ¬ ∀ k, k < n → (0 ≤ nth xs k ∧ nth xs k ≤ 1)) :
    Calls Tryd.prog 106 #[.slice A n c, .func (.func 105) #[] #[]] w fun r w' => r = .returned (.bool true) ∧ Drawn w w' :=
  (containsStr_any A n c xs w hs hn).mono fun r w' ⟨b, hr, hb, hd⟩ => by
    have e : b = true := by cases b with | true => rfl | false => exact absurd (hb.1 rfl) h
    subst e; exact ⟨hr, hd⟩
end Go.Proofs.YtdiiaallklkomaaDoor

/-
  Strings of zeros and ones and their shapes, the program's side. Conditions: lengths below 2^40.
-/

namespace Go.Proofs.YtdiiaallklkomaaDoor
open Go.RowKit

set_option maxHeartbeats 800000 in
theorem implIsString_any (A : Option Addr) (n c : Nat) (xs : List Int) (w : World) (hs : SI w A n xs) (hn : n ≤ 1099511627776) :
    Calls Tryd.prog 93 #[.slice A n c] w fun e w' => e = .returned (.bool (strB xs)) ∧ Drawn w w' := by
  have HL := Lib.hid hs.1
  by_cases h17 : 1 ≤ n ∧ n ≤ 7
  · have H1 := Lib.hid (fun w => isPermSize_yes (a := (n : Int)) (by omega) (by omega) w)
    by_cases hall : ∀ k, k < n → 0 ≤ nth xs k ∧ nth xs k ≤ 1
    · have HC := Lib.hid (containsStr_no A n c xs w hs hn hall)
      have HF := Lib.hid (strB_true (xs := xs) ⟨by have := HL.out; omega, by have := HL.out; omega, by rw [HL.out]; exact hall⟩)
      clear hs h17 hall
      go_enter Tryd.func93, Tryd.ntmps93
      go_wp2_with (first
        | (go_at_call 101; refine (H1.out _).mono ?_; rintro e w1 ⟨rfl, rfl⟩)
        | (go_at_call 106; refine HC.out.mono ?_; rintro e w2 ⟨rfl, hd2⟩; have HD2 := Lib.hid hd2; clear hd2))
      go_ret
      exact ⟨ret_bool HF.out.symm, HD2.out⟩
    · have HC := Lib.hid (containsStr_yes A n c xs w hs hn hall)
      have HF := Lib.hid (strB_false (xs := xs) (fun h => hall (by have := h.2.2; rwa [HL.out] at this)))
      clear hs h17 hall
      go_enter Tryd.func93, Tryd.ntmps93
      go_wp2_with (first
        | (go_at_call 101; refine (H1.out _).mono ?_; rintro e w1 ⟨rfl, rfl⟩)
        | (go_at_call 106; refine HC.out.mono ?_; rintro e w2 ⟨rfl, hd2⟩; have HD2 := Lib.hid hd2; clear hd2))
      go_ret
      exact ⟨ret_bool HF.out.symm, HD2.out⟩
  · have H1 := Lib.hid (fun w => isPermSize_no (a := (n : Int)) (by omega) w)
    have HF := Lib.hid (strB_false (xs := xs) (fun h => h17 (by have := h.1; have := h.2.1; have := HL.out; omega)))
    clear h17 hs
    go_enter Tryd.func93, Tryd.ntmps93
    go_wp2_with (go_at_call 101; refine (H1.out _).mono ?_; rintro e w1 ⟨rfl, rfl⟩)
    go_ret
    exact ⟨ret_bool HF.out.symm, Drawn.refl _⟩
theorem row_take {xs : List Int} {n q : Nat} (hn : n ≤ 7) (_hq : q ≤ 16) (h1 : ∀ j, j < q → 0 < nth (rowL xs n n) j) (h2 : q = 16 ∨ ¬ 0 < nth (rowL xs n n) q) : (rowL xs n n).take q = bareS xs n := by
  have hz := zer_one xs n
  have hl : (shpL xs n).length = oneN xs n := shpL_len xs n
  have h3 : ∀ j, j < q → 0 < nth (shpL xs n) j := fun j hj => by have := h1 j hj; rwa [rowL_nth] at this
  have h4 : ¬ 0 < nth (shpL xs n) q := by
    rcases h2 with h | h
    · subst h; rw [nth_out (by omega)]; decide
    · rwa [rowL_nth] at h
  have hb := bare_one hl (fun j => (shpL_range xs n j).1) (fun i j h => shpL_down xs n i j h) h3 h4
  have hq2 : q ≤ oneN xs n := by rw [hb]; exact bareN_le _ _
  unfold bareS
  rw [← hb, rowL_end, List.take_append_of_le_length (by omega)]
theorem gR_none : ∀ v, (gR [] v).length = v
  | 0 => rfl
  | v + 1 => by
    have e : gR [] (v + 1) = gR [] v ++ [(v : Int)] := if_neg (by simp [hasB])
    rw [e, List.length_append, gR_none v]; rfl
theorem gL_pos {xs : List Int} {k m : Nat} (hm : 1 ≤ m) : 1 ≤ (gL xs k m).length := by
  unfold gL
  cases k with
  | zero =>
    have e : gF xs 0 0 = [] := rfl
    rw [e, List.nil_append, gR_none]; exact hm
  | succ k => rw [List.length_append, gF_len]; omega
theorem SI.kept {w w' : World} {A : Option Addr} {n : Nat} {xs : List Int} {row : Option Nat} (h : SI w A n xs) (hg : w.grownBy w' row) (hr : ∀ b o, A = some ⟨b, o, none⟩ → some b ≠ row) : SI w' A n xs :=
  ⟨h.1, fun hn => by
    obtain ⟨b, o, e, hb, hc⟩ := h.2 hn
    have hs := hg.size
    exact ⟨b, o, e, by omega, fun k hk => hg.cell (hc k hk) (hr b o e)⟩⟩
theorem eql_nil (w : World) : (binOp .eql 24 (.slice none 0 0) (.slice none 0 0)).run Tryd.prog w = .ok (.bool true) w := by
  have h : ∀ d : Nat, (Op.equalIn (d + 1) 24 (.slice none 0 0) (.slice none 0 0)).run Tryd.prog w = .ok true w := fun d => by simp [Op.equalIn, run_underlying Tryd.underlying24]
  simp only [binOp]
  simp [Op.equal, Op.maxDepth, h 9999]
theorem eql_some (a : Addr) (n c : Nat) (w : World) : (binOp .eql 24 (.slice (some a) n c) (.slice none 0 0)).run Tryd.prog w = .ok (.bool false) w := by
  have h : ∀ d : Nat, (Op.equalIn (d + 1) 24 (.slice (some a) n c) (.slice none 0 0)).run Tryd.prog w = .ok false w := fun d => by simp [Op.equalIn, run_underlying Tryd.underlying24]
  simp only [binOp]
  simp [Op.equal, Op.maxDepth, h 9999]
theorem gL_len (xs : List Int) (k m : Nat) (h : k ≤ (gL xs k m).length) {i : Nat} (hi : i < k) : nth (gL xs k m) i = (i : Int) + nth xs (k - 1 - i) := by
  have hl := gF_len xs k k
  rw [nth_get (by omega)]
  simp only [gL]
  rw [List.getElem_append_left (by omega)]
  simp [gF]
end Go.Proofs.YtdiiaallklkomaaDoor

/-
  The lists and the sides of a puzzle, the program's side. Conditions: lengths below 2^40.
-/


namespace Go.Proofs.YtdiiaallklkomaaDoor
open Go.RowKit

theorem lensB_false {s : Int} {x1 x2 x3 : List Int} (h : ¬ lensP s x1 x2 x3) : lensB s x1 x2 x3 = false := by
  cases hb : lensB s x1 x2 x3 with
  | false => rfl
  | true => exact absurd ((lensB_iff _ _ _ _).1 hb) h
set_option maxHeartbeats 1000000 in
theorem hasLists_any (s : Int) (A1 A2 A3 : Option Addr) (n1 c1 n2 c2 n3 c3 : Nat) (x1 x2 x3 : List Int) (w : World) (h1 : SI w A1 n1 x1) (h2 : SI w A2 n2 x2) (h3 : SI w A3 n3 x3) :
    Calls Tryd.prog 91 #[.agg #[.int .i64 s, .slice A1 n1 c1, .slice A2 n2 c2, .slice A3 n3 c3]] w fun e w' => e = .returned (.bool (lensB s x1 x2 x3)) ∧ Below w.heap.size w w' := by
  obtain ⟨w1, hw1⟩ : ∃ w1, w1 = w.alloc (.cells #[.int .i64 s, .slice A1 n1 c1, .slice A2 n2 c2, .slice A3 n3 c3] 54) := ⟨_, rfl⟩
  obtain ⟨g, hg⟩ : ∃ g, g = w.heap.size := ⟨_, rfl⟩
  have hk : Blk w1 g 54 #[.int .i64 s, .slice A1 n1 c1, .slice A2 n2 c2, .slice A3 n3 c3] := by rw [hw1, hg]; exact Blk.new _ _ _
  have HB : Hid (Below w.heap.size w w1) := Lib.hid (by rw [hw1]; exact Below.alloc_self _ _)
  have HW := Lib.hid hw1
  have HG := Lib.hid hg
  have HL := Lib.hid (And.intro h1.1 (And.intro h2.1 h3.1))
  obtain ⟨q0, q1, q2, q3⟩ := cells4 hk
  clear hw1 hg hk h1 h2 h3
  by_cases hs : 1 ≤ s ∧ s ≤ 7
  case neg =>
    have H1 := Lib.hid (fun w => isPermSize_no (a := s) (by omega) w)
    have HF := Lib.hid (lensB_false (s := s) (x1 := x1) (x2 := x2) (x3 := x3) (fun h => hs ⟨h.1, h.2.1⟩))
    clear hs
    go_enter Tryd.func91, Tryd.ntmps91
    go_upto_region 1 with fail
    rw [← HW.out, ← HG.out]
    go_wp2_with (go_at_call 101; refine (H1.out _).mono ?_; rintro e w2 ⟨rfl, rfl⟩)
    go_ret
    exact ⟨ret_bool HF.out.symm, HB.out⟩
  case pos =>
    obtain ⟨m, rfl⟩ : ∃ m : Nat, s = (m : Int) := ⟨s.toNat, by omega⟩
    have H1 := Lib.hid (fun w => isPermSize_yes (a := (m : Int)) hs.1 hs.2 w)
    have HPL := Lib.hid (fun w => smallPlace_at (i := (m : Int)) (j := 0) m 0 (tri m) rfl rfl rfl w (by omega) (by omega))
    have HLP : Hid (lensB (m : Int) x1 x2 x3 = (decide (n1 = tri m) && decide (n2 = tri m) && decide (n3 = tri m))) := Lib.hid (by
      unfold lensB
      rw [HL.out.1, HL.out.2.1, HL.out.2.2, Int.toNat_natCast, decide_eq_true (by omega : (1 : Int) ≤ (m : Int)), decide_eq_true (by omega : (m : Int) ≤ 7)]
      simp)
    obtain ⟨T, hT⟩ : ∃ T, T = tri m := ⟨_, rfl⟩
    rw [← hT] at HPL HLP
    clear hs hT
    by_cases e1 : n1 = T
    case neg =>
      have b1 : ((n1 : Int) == (T : Int)) = false := by simp; omega
      have HF : Hid (false = lensB (m : Int) x1 x2 x3) := Lib.hid (by rw [HLP.out, decide_eq_false e1]; simp)
      clear e1
      go_enter Tryd.func91, Tryd.ntmps91
      go_upto_region 1 with fail
      rw [← HW.out, ← HG.out]
      go_wp2_with (first | (go_at_call 101; refine (H1.out _).mono ?_; rintro e w2 ⟨rfl, rfl⟩) | (go_at_call 104; refine (HPL.out _).mono ?_; rintro e w3 ⟨rfl, rfl⟩))
      go_ret
      exact ⟨ret_bool HF.out, HB.out⟩
    case pos =>
      have b1 : ((n1 : Int) == (T : Int)) = true := by simp; omega
      by_cases e2 : n2 = T
      case neg =>
        have b2 : ((n2 : Int) == (T : Int)) = false := by simp; omega
        have HF : Hid (false = lensB (m : Int) x1 x2 x3) := Lib.hid (by rw [HLP.out, decide_eq_false e2]; simp)
        clear e1 e2
        go_enter Tryd.func91, Tryd.ntmps91
        go_upto_region 1 with fail
        rw [← HW.out, ← HG.out]
        go_wp2_with (first | (go_at_call 101; refine (H1.out _).mono ?_; rintro e w2 ⟨rfl, rfl⟩) | (go_at_call 104; refine (HPL.out _).mono ?_; rintro e w3 ⟨rfl, rfl⟩))
        go_ret
        exact ⟨ret_bool HF.out, HB.out⟩
      case pos =>
        have b2 : ((n2 : Int) == (T : Int)) = true := by simp; omega
        obtain ⟨bb, hbb⟩ : ∃ bb, bb = ((n3 : Int) == (T : Int)) := ⟨_, rfl⟩
        have HF : Hid (bb = lensB (m : Int) x1 x2 x3) := Lib.hid (by
          rw [HLP.out, hbb, decide_eq_true e1, decide_eq_true e2]
          by_cases e3 : n3 = T
          · rw [decide_eq_true e3]; simp; omega
          · rw [decide_eq_false e3]; simp; omega)
        have b3 := hbb.symm
        clear e1 e2 hbb
        go_enter Tryd.func91, Tryd.ntmps91
        go_upto_region 1 with fail
        rw [← HW.out, ← HG.out]
        go_wp2_with (first | (go_at_call 101; refine (H1.out _).mono ?_; rintro e w2 ⟨rfl, rfl⟩) | (go_at_call 104; refine (HPL.out _).mono ?_; rintro e w3 ⟨rfl, rfl⟩))
        go_ret
        exact ⟨ret_bool HF.out, HB.out⟩
end Go.Proofs.YtdiiaallklkomaaDoor

/-
  The sides of a puzzle, the program's side. Conditions: a puzzle with lists of the right lengths.
-/

namespace Go.Proofs.YtdiiaallklkomaaDoor
open Go.RowKit

/-- 'make([]int, n)' in a region that draws. -/
theorem run_mk (n : Nat) (w : World) (hn : n ≤ 1099511627776) : ∃ g w', g = w.heap.size ∧ (Instr.makeSlice 24 (.int .i64 n) (.int .i64 n)).run Tryd.prog w = .ok (.slice (some ⟨g, 0, none⟩) n n) w' ∧
    Own w' g (g + 1) (some ⟨g, 0, none⟩) n n (List.replicate n 0) ∧ w.grownBy w' none ∧ g < w'.heap.size := by
  obtain ⟨i0, hi, hz0, hz1, hz2⟩ := info_parts Tryd.infoInt
  obtain ⟨w', hrun, r1, r2⟩ := run_make_full (P := Tryd.prog) w w.heap.size 24 3 i0 (.int .i64 0) 1 Tryd.underlying24 hi hz0 hz1 .i64 .i64 n (by rw [hz2]; omega) (by unfold maxLen; omega) (Nat.le_refl _)
  have e : (madeCells (Value.int .i64 0).cells (n * 1)).toList = (List.replicate n (0 : Int)).map (Value.int .i64) := by
    rw [show (Value.int .i64 0).cells = #[Value.int .i64 0] from rfl, Nat.mul_one, toList_madeCells_one]; simp
  rw [e] at r1
  exact ⟨w.heap.size, w', rfl, hrun, ⟨r1, fun k hk => by simp [Value.ownBlock] at hk; omega⟩, r2, (r1.lt w.heap.size rfl).2⟩
/-- The left side and the right side when i rows are done. -/
def lfL (m : Nat) (x1 : List Int) (i : Nat) : List Int := (List.range m).map fun j => if m ≤ j + i then nth x1 (tri (m - 1 - j)) else 0
def rgL (m : Nat) (x2 : List Int) (i : Nat) : List Int := (List.range m).map fun j => if j < i then nth x2 (tri j + j) else 0
theorem lfL_len (m : Nat) (x : List Int) (i : Nat) : (lfL m x i).length = m := by simp [lfL]
theorem rgL_len (m : Nat) (x : List Int) (i : Nat) : (rgL m x i).length = m := by simp [rgL]
theorem lfL_nth {m : Nat} {x : List Int} {i j : Nat} (h : j < m) : nth (lfL m x i) j = if m ≤ j + i then nth x (tri (m - 1 - j)) else 0 := by rw [nth_get (by rw [lfL_len]; exact h)]; simp [lfL]
theorem rgL_nth {m : Nat} {x : List Int} {i j : Nat} (h : j < m) : nth (rgL m x i) j = if j < i then nth x (tri j + j) else 0 := by rw [nth_get (by rw [rgL_len]; exact h)]; simp [rgL]
theorem lfL_zero (m : Nat) (x : List Int) : lfL m x 0 = List.replicate m 0 := by
  refine list_ext_nth (by simp [lfL]) fun k hk => ?_
  rw [lfL_len] at hk
  rw [lfL_nth hk, if_neg (by omega), nth_get (by simpa using hk)]; simp
theorem rgL_zero (m : Nat) (x : List Int) : rgL m x 0 = List.replicate m 0 := by
  refine list_ext_nth (by simp [rgL]) fun k hk => ?_
  rw [rgL_len] at hk
  rw [rgL_nth hk, if_neg (by omega), nth_get (by simpa using hk)]; simp
theorem lfL_set {m : Nat} {x : List Int} {i : Nat} (h : i < m) : (lfL m x i).set (m - 1 - i) (nth x (tri i)) = lfL m x (i + 1) := by
  refine list_ext_nth (by simp [lfL_len]) fun k hk => ?_
  have hk' : k < m := by simpa [lfL_len] using hk
  rw [nth_set _ (by rw [lfL_len]; omega), lfL_nth hk', lfL_nth hk']
  by_cases e : k = m - 1 - i
  · rw [if_pos e, if_pos (by omega), e, show m - 1 - (m - 1 - i) = i by omega]
  · rw [if_neg e]
    by_cases e2 : m ≤ k + i
    · rw [if_pos e2, if_pos (by omega)]
    · rw [if_neg e2, if_neg (by omega)]
theorem rgL_set {m : Nat} {x : List Int} {i : Nat} (h : i < m) : (rgL m x i).set i (nth x (tri i + i)) = rgL m x (i + 1) := by
  refine list_ext_nth (by simp [rgL_len]) fun k hk => ?_
  have hk' : k < m := by simpa [rgL_len] using hk
  rw [nth_set _ (by rw [rgL_len]; omega), rgL_nth hk', rgL_nth hk']
  by_cases e : k = i
  · rw [if_pos e, if_pos (by omega), e]
  · rw [if_neg e]
    by_cases e2 : k < i
    · rw [if_pos e2, if_pos (by omega)]
    · rw [if_neg e2, if_neg (by omega)]
theorem lfL_all (m : Nat) (x : List Int) : lfL m x m = sdA m x := by
  refine list_ext_nth (by rw [lfL_len, sdA_len]) fun k hk => ?_
  rw [lfL_len] at hk
  rw [lfL_nth hk, if_pos (by omega), sdA_nth hk]
theorem rgL_all (m : Nat) (x : List Int) : rgL m x m = sdB m x := by
  refine list_ext_nth (by rw [rgL_len, sdB_len]) fun k hk => ?_
  rw [rgL_len] at hk
  rw [rgL_nth hk, if_pos hk, sdB_nth hk]
theorem grown_setD (w : World) (a : Addr) (u : Value) : w.grownBy (w.setCell a u).drew (some a.block) := ⟨rfl, rfl, rfl, (grown_setP w a u).size, (grown_setP w a u).block⟩
theorem nth_dropJ (xs : List Int) (T k : Nat) : nth (xs.drop T) k = nth xs (T + k) := by simp [nth, List.getD]
theorem SI.drop {w : World} {A : Option Addr} {n k : Nat} {xs : List Int} (h : SI w A n xs) (hk : k ≤ n) : ∀ b o, A = some ⟨b, o, none⟩ → SI w (some ⟨b, o + k, none⟩) (n - k) (xs.drop k) := fun b o e => by
  refine ⟨by rw [List.length_drop, h.1], fun hn => ?_⟩
  obtain ⟨b', o', e', hb, hc⟩ := h.2 (by omega)
  rw [e'] at e
  injection e with e
  injection e with e1 e2
  subst e1 e2
  exact ⟨b', o' + k, rfl, hb, fun j hj => by rw [nth_dropJ, Nat.add_assoc]; exact hc (k + j) (by omega)⟩
/-- What a call that makes three sides hands back. -/
def FreshSd (w w' : World) (e : Ending) (a b c : List Int) : Prop :=
  ∃ gl gr Ac nc cc n, e = .returned (.tuple #[.slice (some ⟨gl, 0, none⟩) n n, .slice (some ⟨gr, 0, none⟩) n n, .slice Ac nc cc]) ∧ gl ≠ gr ∧ w.heap.size ≤ gl ∧ w.heap.size ≤ gr ∧
    Own w' gl (gl + 1) (some ⟨gl, 0, none⟩) n n a ∧ Own w' gr (gr + 1) (some ⟨gr, 0, none⟩) n n b ∧ (∃ lo, gl < lo ∧ gr < lo ∧ Own w' lo w'.heap.size Ac nc cc c) ∧ Below w.heap.size w w'
set_option maxRecDepth 100000 in
set_option maxHeartbeats 4000000 in
theorem pzSides_any (m : Nat) (A1 A2 A3 : Option Addr) (n1 c1 n2 c2 n3 c3 : Nat) (x1 x2 x3 : List Int) (w : World) (h1 : SI w A1 n1 x1) (h2 : SI w A2 n2 x2) (h3 : SI w A3 n3 x3) (hm : 1 ≤ m ∧ m ≤ 7) (hl : n1 = tri m ∧ n2 = tri m ∧ n3 = tri m) (hc3 : n3 ≤ c3) :
    Calls Tryd.prog 92 #[.agg #[.int .i64 m, .slice A1 n1 c1, .slice A2 n2 c2, .slice A3 n3 c3]] w fun e w' => FreshSd w w' e (sdA m x1) (sdB m x2) (sdC m x3) := by
  obtain ⟨w1, hw1⟩ : ∃ w1, w1 = w.alloc (.cells #[.int .i64 m, .slice A1 n1 c1, .slice A2 n2 c2, .slice A3 n3 c3] 54) := ⟨_, rfl⟩
  obtain ⟨g, hg⟩ : ∃ g, g = w.heap.size := ⟨_, rfl⟩
  have hk : Blk w1 g 54 #[.int .i64 m, .slice A1 n1 c1, .slice A2 n2 c2, .slice A3 n3 c3] := by rw [hw1, hg]; exact Blk.new _ _ _
  have hb : Below w.heap.size w w1 := by rw [hw1]; exact Below.alloc_self _ _
  have HB1 := Lib.hid hb
  have HW := Lib.hid hw1
  have HG := Lib.hid hg
  have HK1 := Lib.hid hk
  have HS := Lib.hid (And.intro (h1.below hb (Nat.le_refl _)) (And.intro (h2.below hb (Nat.le_refl _)) (h3.below hb (Nat.le_refl _))))
  obtain ⟨q0, q1, q2, q3⟩ := cells4 hk
  have HLL := Lib.hid hl
  have HM := Lib.hid hm
  have HC3 := Lib.hid hc3
  have HSZ : Hid (w1.heap.size = g + 1) := Lib.hid (by rw [hw1, hg]; simp)
  have hm7 : m ≤ 7 := hm.2
  clear hw1 hg hk hl hm h1 h2 h3 hb hc3
  go_enter Tryd.func92, Tryd.ntmps92
  go_upto_region 1 with fail
  rw [← HW.out, ← HG.out]
  go_upto_region 2 with fail
  clear q0 q1 q2 q3
  go_region_held3 (fun w' => w1.heap.size ≤ w'.heap.size)
    (first | (exact Nat.le_refl _) | (show w1.heap.size ≤ w1.drew.heap.size; exact Nat.le_refl _) | exact K4 | exact K5)
    (first
      | (show Oper.upon _ { dst := some 12, op := _, type := _, pos := _, after := _, guard := _ } _ _ _ _
         obtain ⟨gl, wz, hgl, hrun, ho, hb, hlt⟩ := run_mk m wy (by omega)
         rw [hrun]
         simp only [Result.andThen, Oper.upon_value]
         have HF : Hid (Own wz gl (gl + 1) (some ⟨gl, 0, none⟩) m m (List.replicate m 0) ∧ Own wz gr (gr + 1) (some ⟨gr, 0, none⟩) m m (List.replicate m 0) ∧ (g + 1 ≤ gl ∧ g + 1 ≤ gr ∧ gl ≠ gr ∧ gl < wz.heap.size ∧ gr < wz.heap.size) ∧ Below (g + 1) w1 wz) := Lib.hid ⟨ho, HR1.out.1.grown hb (fun _ e => by cases e), by have := HR1.out.2.1; have := HR1.out.2.2.2; have := HSZ.out; have := hb.size; omega, (HR1.out.2.2.1.mono (by have := HSZ.out; omega)).grown hb (by have := HR1.out.2.2.1.size; have := HSZ.out; omega) (fun _ e => by cases e)⟩
         have K5 : w1.heap.size ≤ wz.heap.size := by have := HF.out.2.2.2.size; omega
         clear hgl ho hb hlt hrun)
      | (show Oper.upon _ { dst := some 14, op := _, type := _, pos := _, after := _, guard := _ } _ _ _ _
         obtain ⟨gr, wz, hgr, hrun, ho, hb, hlt⟩ := run_mk m wy (by omega)
         rw [hrun]
         simp only [Result.andThen, Oper.upon_value]
         have HF : Hid (Own wz gl (gl + 1) (some ⟨gl, 0, none⟩) m m (List.replicate m 0) ∧ Own wz gr (gr + 1) (some ⟨gr, 0, none⟩) m m (List.replicate m 0) ∧ (g + 1 ≤ gl ∧ g + 1 ≤ gr ∧ gl ≠ gr ∧ gl < wz.heap.size ∧ gr < wz.heap.size) ∧ Below (g + 1) w1 wz) := Lib.hid ⟨HL1.out.1.grown hb (fun _ e => by cases e), ho, by have := HL1.out.2.1; have := HL1.out.2.2.2; have := HSZ.out; have := hb.size; omega, (HL1.out.2.2.1.mono (by have := HSZ.out; omega)).grown hb (by have := HL1.out.2.2.1.size; have := HSZ.out; omega) (fun _ e => by cases e)⟩
         have K5 : w1.heap.size ≤ wz.heap.size := by have := HF.out.2.2.2.size; omega
         clear hgr ho hb hlt hrun)
      | (show Oper.upon _ { dst := some 12, op := _, type := _, pos := _, after := _, guard := _ } _ _ _ _
         obtain ⟨gl, wy, hgl, hrun, ho, hb, hlt⟩ := run_mk m w1.drew (by omega)
         rw [hrun]
         simp only [Result.andThen, Oper.upon_value]
         have HL1 : Hid (Own wy gl (gl + 1) (some ⟨gl, 0, none⟩) m m (List.replicate m 0) ∧ w1.heap.size ≤ gl ∧ Below w1.heap.size w1 wy ∧ gl < wy.heap.size) := Lib.hid ⟨ho, by rw [hgl]; exact Nat.le_refl _, ((Below.refl _ _).drew).grown hb (Nat.le_refl _) (fun _ e => by cases e), hlt⟩
         have K4 : w1.heap.size ≤ wy.heap.size := HL1.out.2.2.1.size
         clear hgl ho hb hlt hrun)
      | (show Oper.upon _ { dst := some 14, op := _, type := _, pos := _, after := _, guard := _ } _ _ _ _
         obtain ⟨gr, wy, hgr, hrun, ho, hb, hlt⟩ := run_mk m w1.drew (by omega)
         rw [hrun]
         simp only [Result.andThen, Oper.upon_value]
         have HR1 : Hid (Own wy gr (gr + 1) (some ⟨gr, 0, none⟩) m m (List.replicate m 0) ∧ w1.heap.size ≤ gr ∧ Below w1.heap.size w1 wy ∧ gr < wy.heap.size) := Lib.hid ⟨ho, by rw [hgr]; exact Nat.le_refl _, ((Below.refl _ _).drew).grown hb (Nat.le_refl _) (fun _ e => by cases e), hlt⟩
         have K4 : w1.heap.size ≤ wy.heap.size := HR1.out.2.2.1.size
         clear hgr ho hb hlt hrun)
      | fail)
  all_goals
  (clear K4 K5
   go_wp2_with fail
   go_loopw [16] (fun iv wr => ∃ i : Nat, i ≤ m ∧ iv = .int .i64 i ∧ Own wr gl (gl + 1) (some ⟨gl, 0, none⟩) m m (lfL m x1 i) ∧ Own wr gr (gr + 1) (some ⟨gr, 0, none⟩) m m (rgL m x2 i) ∧ Below (g + 1) w1 wr)
     (fun iv _ => m - (intOf iv).toNat)
   case atStart => exact ⟨0, Nat.zero_le _, rfl, by rw [lfL_zero]; exact HF.out.1, by rw [rgL_zero]; exact HF.out.2.1, HF.out.2.2.2⟩
   case round =>
     obtain ⟨i, hi, rfl, hol, hor, hbw⟩ := hrel
     have HOL := Lib.hid hol
     have HOR := Lib.hid hor
     have HB := Lib.hid hbw
     have HX := Lib.hid (HF.out.2.2.1)
     clear hol hor hbw
     have HK := Lib.hid (HK1.out.below HB.out (by omega))
     have HSI := Lib.hid (And.intro (HS.out.1.below HB.out (by have := HSZ.out; omega)) (And.intro (HS.out.2.1.below HB.out (by have := HSZ.out; omega)) (HS.out.2.2.below HB.out (by have := HSZ.out; omega))))
     obtain ⟨q0, q1, q2, q3⟩ := cells4 HK.out
     by_cases hlt : i < m
     case neg =>
       have him : i = m := by omega
       subst him
       clear q0 q1 q2
       have hm1 : 1 ≤ i := HM.out.1
       obtain ⟨j, hj⟩ : ∃ j, j = i - 1 := ⟨_, rfl⟩
       have w1i : IntKind.i64.wrap ((i : Int) - 1) = (i : Int) - 1 := IntWalk.i64_in _ (by omega)
       have HPL := Lib.hid (fun w => smallPlace_at (i := (i : Int) - 1) (j := 0) j 0 (tri j) (by omega) rfl rfl w (by omega) (by omega))
       obtain ⟨T, hT⟩ : ∃ T, T = tri j := ⟨_, rfl⟩
       have hTn : T + i = n3 := by
         have h5 := HLL.out.2.2
         have h6 := tri_succ j
         rw [show j + 1 = i by omega] at h6
         omega
       rw [← hT] at HPL
       have HC : Hid ((x3.drop T) = sdC i x3) := Lib.hid (by
         have h5 := HSI.out.2.2.1
         refine list_ext_nth (by rw [List.length_drop, sdC_len]; omega) fun k hk => ?_
         have hk' : k < i := by rw [List.length_drop] at hk; omega
         rw [sdC_nth hk', ← hj, ← hT, nth_dropJ])
       have HSD := Lib.hid (HSI.out.2.2.drop (k := T) (by omega))
       have HTN := Lib.hid hTn
       have hTI : (T : Int) ≤ (n3 : Int) := by omega
       have hcT : ¬ c3 = T := by have := HC3.out; omega
       have hcI : (T : Int) ≤ (c3 : Int) := by have := HC3.out; omega
       obtain ⟨b3, o3, rfl, _, _⟩ := HSI.out.2.2.at_ (by omega)
       have HCL := Lib.hid (fun w' (hb' : Below wr.heap.size wr w') c' => clone_any (some ⟨b3, o3 + T, none⟩) (n3 - T) c' (x3.drop T) w' ((HSD.out b3 o3 rfl).below hb' (Nat.le_refl _)) (fun h => by cases h) (by have := HTN.out; omega))
       have hqd : wr.drew.cell? ⟨g, 3, none⟩ = some (.slice (some ⟨b3, o3, none⟩) n3 c3) := q3
       have HGW : Hid (g < wr.heap.size ∧ gl < wr.heap.size ∧ gr < wr.heap.size) := Lib.hid ⟨by have := HB.out.size; have := HSZ.out; omega, (HOL.out.1.lt gl rfl).2, (HOR.out.1.lt gr rfl).2⟩
       have HQD := Lib.hid (And.intro q3 hqd)
       clear hj hT hTn q3 hqd
       go_wp2_with fail
       go_region_held3 (fun w' => w'.cell? ⟨g, 3, none⟩ = some (.slice (some ⟨b3, o3, none⟩) n3 c3))
         (first | exact HQD.out.1 | exact HQD.out.2 | exact K5)
         (first
           | (go_at_call 104; with_reducible refine (HPL.out _).mono ?_; rintro e w3 ⟨rfl, rfl⟩)
           | (go_at_call 103
              with_reducible refine (HCL.out _ ((Below.refl _ _).drew) _).mono ?_
              rintro e w4 ⟨A4, n4, c4, rfl, ho4, hb4⟩
              have hb4' : Below wr.heap.size wr w4 := ((Below.refl _ _).drew).trans hb4
              have K5 : w4.cell? ⟨g, 3, none⟩ = some (.slice (some ⟨b3, o3, none⟩) n3 c3) := (hb4'.cell (p := ⟨g, 3, none⟩) HGW.out.1).trans HQD.out.1
              have HO4 : Hid (Own w4 wr.heap.size w4.heap.size A4 n4 c4 (sdC i x3)) := Lib.hid (by rw [← HC.out]; exact ho4)
              have HB4 := Lib.hid hb4'
              clear ho4 hb4 hb4'))
       go_wp2
       go_returns
       have l1 := HX.out
       have l2 := HGW.out
       have l3 := HG.out
       refine ⟨gl, gr, A4, n4, c4, i, rfl, l1.2.2.1, by omega, by omega, ?_, ?_, ⟨wr.heap.size, l2.2.1, l2.2.2, HO4.out⟩, (HB1.out.trans (HB.out.mono (by omega))).trans (HB4.out.mono (by have := HB.out.size; have := HSZ.out; omega))⟩
       · rw [← lfL_all]; exact HOL.out.below HB4.out (by omega)
       · rw [← rgL_all]; exact HOR.out.below HB4.out (by omega)
     case pos =>
       have hltI : (i : Int) < (m : Int) := by omega
       obtain ⟨t, ht⟩ : ∃ t, t = m - 1 - i := ⟨_, rfl⟩
       have hti : (m : Int) - 1 - (i : Int) = (t : Int) := by omega
       have wm1 : IntKind.i64.wrap ((m : Int) - 1) = (m : Int) - 1 := IntWalk.i64_in _ (by omega)
       have wmi : IntKind.i64.wrap ((m : Int) - 1 - (i : Int)) = (t : Int) := by rw [hti]; exact IntWalk.i64_in _ (by omega)
       obtain ⟨a, ha⟩ : ∃ a, a = tri i := ⟨_, rfl⟩
       obtain ⟨d, hd⟩ : ∃ d, d = tri i + i := ⟨_, rfl⟩
       have HP1 := Lib.hid (fun w => smallPlace_st (i := (i : Int)) (j := 0) i 0 a rfl rfl ha w (by omega) (by omega))
       have HP2 := Lib.hid (fun w => smallPlace_st (i := (i : Int)) (j := (i : Int)) i i d rfl rfl hd w (by omega) (by omega))
       have had : a < n1 ∧ d < n2 := by
         have h5 := HLL.out
         have h6 := tri_lt (a := i) (b := m) (k := i) hlt (Nat.le_refl _)
         omega
       obtain ⟨b1, o1, rfl, _, hc1⟩ := HSI.out.1.at_ (by omega)
       obtain ⟨b2, o2, rfl, _, hc2⟩ := HSI.out.2.1.at_ (by omega)
       have HOLD : Hid (b2 < w1.heap.size ∧ b2 ≠ gl) := Lib.hid (by
         obtain ⟨b', o', e, hb', _⟩ := HS.out.2.1.at_ (by omega)
         injection e with e; injection e with e1 e2
         have := HX.out; have := HSZ.out
         omega)
       have hd1 := hc1 a had.1
       obtain ⟨u, hu⟩ : ∃ u, u = nth x1 a := ⟨_, rfl⟩
       obtain ⟨v, hv⟩ : ∃ v, v = nth x2 d := ⟨_, rfl⟩
       rw [← hu] at hd1
       have HC2 : Hid (∀ wv : World, Drawn wr wv → wv.cell? ⟨b2, o2 + d, none⟩ = some (.int .i64 v)) := Lib.hid (fun wv h => by obtain ⟨z, rfl⟩ := h; rw [hv]; exact hc2 d had.2)
       have i1 : (a : Int) < (n1 : Int) := by omega
       have i2 : (d : Int) < (n2 : Int) := by omega
       have htm : t < m := by omega
       have htI : (t : Int) < (m : Int) := by omega
       have hcl := HOL.out.cellAt (k := t) htm
       have hfl := HOL.out.frozenAt t
       have HSL : Hid (∀ wv : World, Drawn wr wv → Own (wv.setCell ⟨gl, t, none⟩ (.int .i64 u)) gl (gl + 1) (some ⟨gl, 0, none⟩) m m (lfL m x1 (i + 1))) := Lib.hid (fun wv h => by
         have h5 := ((HOL.out.drawn h).set_ (k := t) u).1
         rw [ht, hu, ha, lfL_set hlt] at h5
         rw [ht, hu, ha]; exact h5)
       have HSR : Hid (∀ wv : World, Own wv gr (gr + 1) (some ⟨gr, 0, none⟩) m m (rgL m x2 i) → Own (wv.setCell ⟨gr, i, none⟩ (.int .i64 v)) gr (gr + 1) (some ⟨gr, 0, none⟩) m m (rgL m x2 (i + 1))) := Lib.hid (fun wv h => by
         have h5 := (h.set_ (k := i) v).1
         rw [hv, hd, rgL_set hlt] at h5
         rw [hv, hd]; exact h5)
       clear hc1 hc2 ht hti ha hd had hu hv
       go_upto_region 6 with fail
       refine wp_region_still_tail 12 (by kernel_rfl) (by kernel_rfl) ?_
       simp only [List.take_succ_cons, List.take_zero, List.drop_succ_cons, List.drop_zero]
       repeat (first | still_step | still_call (HP1.out _))
       refine wpStill_nil ?_
       change wpList _ _ _ _ _ wr.drew
       go_upto_region 7 with fail
       obtain ⟨ws, hws⟩ : ∃ ws, ws = (wr.setCell ⟨gl, t, none⟩ (.int .i64 u)).drew := ⟨_, rfl⟩
       rw [← hws]
       have HOL2 : Hid (Own ws gl (gl + 1) (some ⟨gl, 0, none⟩) m m (lfL m x1 (i + 1))) := Lib.hid (by rw [hws]; exact (HSL.out _ (Drawn.refl _)).drawn ⟨1, rfl⟩)
       have hgs : wr.grownBy ws (some gl) := by rw [hws]; exact grown_setD _ _ _
       have HOR2 : Hid (Own ws gr (gr + 1) (some ⟨gr, 0, none⟩) m m (rgL m x2 i)) := Lib.hid (HOR.out.grown hgs (fun q e => by injection e with e; have := HX.out; omega))
       have HB2 : Hid (Below (g + 1) w1 ws) := Lib.hid (by rw [hws]; exact (HB.out.setCell (by have := HX.out; show g + 1 ≤ gl; omega) _).drew)
       have hk2 : Blk ws g 54 #[.int .i64 m, .slice (some ⟨b1, o1, none⟩) n1 c1, .slice (some ⟨b2, o2, none⟩) n2 c2, .slice A3 n3 c3] := by rw [hws]; exact (Blk.far HK.out (by have := HX.out; show g ≠ gl; omega) _).drawn ⟨1, rfl⟩
       have hcx : ws.cell? ⟨b2, o2 + d, none⟩ = some (.int .i64 v) := hgs.cell (HC2.out wr (Drawn.refl _)) (fun e => by injection e with e; exact HOLD.out.2 e)
       clear q0 q1 q2 q3 hd1 hcl hfl hws
       obtain ⟨q0, q1, q2, q3⟩ := cells4 hk2
       have hcr := HOR2.out.cellAt (k := i) hlt
       have hfr := HOR2.out.frozenAt i
       have HGS := Lib.hid hgs
       clear hk2 hgs
       refine wp_region_still_tail 10 (by kernel_rfl) (by kernel_rfl) ?_
       simp only [List.take_succ_cons, List.take_zero, List.drop_succ_cons, List.drop_zero]
       repeat (first | still_step | still_call (HP2.out _))
       refine wpStill_nil ?_
       change wpList _ _ _ _ _ ws.drew
       go_wp2
       go_roundw
       case rel => exact ⟨i + 1, by omega, by go_num, HOL2.out.grown (grown_setD ws ⟨gr, i, none⟩ _) (fun q e => by injection e with e; have := HX.out; simp at e; omega), (HSR.out ws HOR2.out).drawn ⟨1, rfl⟩, (HB2.out.setCell (by have := HX.out; show g + 1 ≤ gr; omega) _).drew⟩
       case measure => simp [intOf]; omega)
end Go.Proofs.YtdiiaallklkomaaDoor

/-
  Whether a puzzle is made of right small triangles, the program's side. Conditions: lengths below 2^40.
-/



namespace Go.Proofs.YtdiiaallklkomaaDoor
open Go.RowKit

theorem tr_mem {L : List Tr} {t : Tr} : t ∈ L ↔ ∃ j, j < L.length ∧ tr L j = t := by
  constructor
  · intro h
    obtain ⟨j, hj, e⟩ := List.mem_iff_getElem.1 h
    exact ⟨j, hj, by rw [tr_get hj]; exact e⟩
  · rintro ⟨j, hj, e⟩
    rw [← e, tr_get hj]; exact List.getElem_mem hj
theorem right_len (wt : Bool) : (rightL wt).length = if wt then 6 else 5 := by cases wt <;> rfl
theorem pz_parts {wt : Bool} {m : Nat} {x1 x2 x3 : List Int} (hl : lensP (m : Int) x1 x2 x3) : pzP wt (m : Int) x1 x2 x3 ↔ (strP (sdA m x1) ∧ strP (sdB m x2) ∧ strP (sdC m x3)) ∧ ∀ t ∈ smR x1 x2 x3 m, t ∈ rightL wt := by
  have hs := side_strings hl
  rw [Int.toNat_natCast] at hs
  unfold pzP
  rw [hs, Int.toNat_natCast]
  constructor
  · rintro ⟨_, h1, h2⟩
    refine ⟨h2, fun t ht => ?_⟩
    obtain ⟨r, hr, k, hk, h | ⟨h0, h⟩⟩ := (smR_mem t m).1 ht
    · rw [h]; exact (h1 r hr k hk).1
    · rw [h]; exact (h1 r hr k hk).2 h0
  · rintro ⟨h2, h1⟩
    exact ⟨hl, fun r hr k hk => ⟨h1 _ ((smR_mem _ m).2 ⟨r, hr, k, hk, .inl rfl⟩), fun h0 => h1 _ ((smR_mem _ m).2 ⟨r, hr, k, hk, .inr ⟨h0, rfl⟩⟩)⟩, h2⟩
set_option maxRecDepth 100000 in
set_option maxHeartbeats 8000000 in
theorem isMadeOf_any (wt : Bool) (s : Int) (A1 A2 A3 : Option Addr) (n1 c1 n2 c2 n3 c3 : Nat) (AR : Option Addr) (nR cR : Nat) (x1 x2 x3 : List Int) (w : World) (h1 : SI w A1 n1 x1) (h2 : SI w A2 n2 x2) (h3 : SI w A3 n3 x3) (hc3 : n3 ≤ c3) (hR : RS w AR nR (rightL wt)) :
    Calls Tryd.prog 78 #[.agg #[.int .i64 s, .slice A1 n1 c1, .slice A2 n2 c2, .slice A3 n3 c3], .slice AR nR cR] w fun e w' => e = .returned (.bool (pzB wt s x1 x2 x3)) ∧ Below w.heap.size w w' := by
  obtain ⟨w1, hw1⟩ : ∃ w1, w1 = w.alloc (.cells #[.int .i64 s, .slice A1 n1 c1, .slice A2 n2 c2, .slice A3 n3 c3] 54) := ⟨_, rfl⟩
  obtain ⟨g, hg⟩ : ∃ g, g = w.heap.size := ⟨_, rfl⟩
  have hk : Blk w1 g 54 #[.int .i64 s, .slice A1 n1 c1, .slice A2 n2 c2, .slice A3 n3 c3] := by rw [hw1, hg]; exact Blk.new _ _ _
  have hb : Below w.heap.size w w1 := by rw [hw1]; exact Below.alloc_self _ _
  have HB1 := Lib.hid hb
  have HW := Lib.hid hw1
  have HG := Lib.hid hg
  have HK1 := Lib.hid hk
  have HS := Lib.hid (And.intro (h1.below hb (Nat.le_refl _)) (And.intro (h2.below hb (Nat.le_refl _)) (h3.below hb (Nat.le_refl _))))
  have HRR := Lib.hid (hR.below hb (Nat.le_refl _))
  have HSZ : Hid (w1.heap.size = g + 1) := Lib.hid (by rw [hw1, hg]; simp)
  have HLN := Lib.hid (And.intro h1.1 (And.intro h2.1 h3.1))
  have HC3 := Lib.hid hc3
  obtain ⟨q0, q1, q2, q3⟩ := cells4 hk
  have HHL := Lib.hid (hasLists_any s A1 A2 A3 n1 c1 n2 c2 n3 c3 x1 x2 x3 w1 HS.out.1 HS.out.2.1 HS.out.2.2)
  clear hw1 hg hk h1 h2 h3 hb hc3 hR
  cases hu : lensB s x1 x2 x3 with
  | false =>
    rw [hu] at HHL
    have HF := Lib.hid (pzB_false (wt := wt) (s := s) (x1 := x1) (x2 := x2) (x3 := x3) (fun h => by have := (lensB_iff s x1 x2 x3).2 h.1; rw [hu] at this; cases this))
    clear hu
    go_enter Tryd.func78, Tryd.ntmps78
    go_upto_region 1 with fail
    rw [← HW.out, ← HG.out]
    refine wp_scope_straight ?_
    go_wp2_with (go_at_call 91; refine HHL.out.mono ?_; rintro e w2 ⟨rfl, hb2⟩; have HB2 := Lib.hid hb2; clear hb2)
    rw [Exit.noGoto_ret]
    go_ret
    exact ⟨ret_bool HF.out.symm, HB1.out.trans (HB2.out.mono (by have := HSZ.out; have := HG.out; omega))⟩
  | true =>
    rw [hu] at HHL
    have hlp := (lensB_iff s x1 x2 x3).1 hu
    obtain ⟨m, rfl⟩ : ∃ m : Nat, s = (m : Int) := ⟨s.toNat, by have := hlp.1; omega⟩
    have hm : 1 ≤ m ∧ m ≤ 7 := by have := hlp.1; have := hlp.2.1; omega
    have hll : n1 = tri m ∧ n2 = tri m ∧ n3 = tri m := by
      have h5 := hlp.2.2
      rw [Int.toNat_natCast, HLN.out.1, HLN.out.2.1, HLN.out.2.2] at h5
      exact h5
    have HPP := Lib.hid (pz_parts (wt := wt) hlp)
    have HSD := Lib.hid (fun w' (hb' : Below w1.heap.size w1 w') => pzSides_any m A1 A2 A3 n1 c1 n2 c2 n3 c3 x1 x2 x3 w' (HS.out.1.below hb' (Nat.le_refl _)) (HS.out.2.1.below hb' (Nat.le_refl _)) (HS.out.2.2.below hb' (Nat.le_refl _)) hm hll HC3.out)
    have HST := Lib.hid (fun w' (hb' : Below w1.heap.size w1 w') => smallTriangles_any m A1 A2 A3 n1 c1 n2 c2 n3 c3 x1 x2 x3 w' (HS.out.1.below hb' (Nat.le_refl _)) (HS.out.2.1.below hb' (Nat.le_refl _)) (HS.out.2.2.below hb' (Nat.le_refl _)) hm hll)
    have hglt : g < w1.heap.size := by have := HSZ.out; omega
    have HGLT := Lib.hid hglt
    have HM := Lib.hid hm
    clear hu hlp hll hm hglt
    cases hv0 : strB (sdA m x1) with
    | false =>
      have HF := Lib.hid (pzB_false (wt := wt) (s := (m : Int)) (x1 := x1) (x2 := x2) (x3 := x3) (fun h => by have h5 := strB_true ((HPP.out.1 h).1.1); rw [hv0] at h5; cases h5))
      have HV0 := Lib.hid hv0
      clear hv0
      go_enter Tryd.func78, Tryd.ntmps78
      go_upto_region 1 with fail
      rw [← HW.out, ← HG.out]
      refine wp_scope_straight ?_
      go_upto_region 3 with (go_at_call 91; refine HHL.out.mono ?_; rintro e w2 ⟨rfl, hb2⟩; have HB2 := Lib.hid hb2; obtain ⟨q0, q1, q2, q3⟩ := cells4 (HK1.out.below hb2 HGLT.out); clear hb2)
      go_upto_region 4 with (first
        | (go_at_call 92
           refine (HSD.out _ HB2.out).mono ?_
           rintro e w3 ⟨gl, gr, Ac, nc, cc, k, rfl, hgn, hgl, hgr, hol, hor, ⟨lo, hlo1, hlo2, hoc⟩, hb3⟩
           have HB3 : Hid (Below w1.heap.size w1 w3) := Lib.hid (HB2.out.trans (hb3.mono HB2.out.size))
           have hkm : m = k := by have := hol.len; rw [sdA_len] at this; exact this
           have hcm : m = nc := by have := hoc.len; rw [sdC_len] at this; exact this
           subst hkm
           subst hcm
           have HIA := Lib.hid (fun w' (hd : Drawn w3 w') => implIsString_any (some ⟨gl, 0, none⟩) m m (sdA m x1) w' (hd.si hol.si) (by have := HM.out; omega))
           have HIB := Lib.hid (fun w' (hd : Drawn w3 w') => implIsString_any (some ⟨gr, 0, none⟩) m m (sdB m x2) w' (hd.si hor.si) (by have := HM.out; omega))
           have HIC := Lib.hid (fun w' (hd : Drawn w3 w') => implIsString_any Ac m cc (sdC m x3) w' (hd.si hoc.si) (by have := HM.out; omega))
           clear hgn hgl hgr hol hor hlo1 hlo2 hoc hb3 q0 q1 q2 q3))
      rw [HV0.out] at HIA
      go_wp2_with (first | (go_at_call 93; with_reducible refine (HIA.out _ (Drawn.refl _)).mono ?_; rintro e w4 ⟨rfl, hd⟩; have HDa : Hid (Drawn w3 w4) := Lib.hid (hd); clear hd))
      try rw [Exit.noGoto_ret]
      go_ret
      exact ⟨ret_bool HF.out.symm, HB1.out.trans ((HB3.out.trans (HDa.out.below _)).mono (by have := HSZ.out; have := HG.out; omega))⟩
    | true =>
      cases hv1 : strB (sdB m x2) with
      | false =>
        have HF := Lib.hid (pzB_false (wt := wt) (s := (m : Int)) (x1 := x1) (x2 := x2) (x3 := x3) (fun h => by have h5 := strB_true ((HPP.out.1 h).1.2.1); rw [hv1] at h5; cases h5))
        have HV0 := Lib.hid hv0
        have HV1 := Lib.hid hv1
        clear hv0 hv1
        go_enter Tryd.func78, Tryd.ntmps78
        go_upto_region 1 with fail
        rw [← HW.out, ← HG.out]
        refine wp_scope_straight ?_
        go_upto_region 3 with (go_at_call 91; refine HHL.out.mono ?_; rintro e w2 ⟨rfl, hb2⟩; have HB2 := Lib.hid hb2; obtain ⟨q0, q1, q2, q3⟩ := cells4 (HK1.out.below hb2 HGLT.out); clear hb2)
        go_upto_region 4 with (first
          | (go_at_call 92
             refine (HSD.out _ HB2.out).mono ?_
             rintro e w3 ⟨gl, gr, Ac, nc, cc, k, rfl, hgn, hgl, hgr, hol, hor, ⟨lo, hlo1, hlo2, hoc⟩, hb3⟩
             have HB3 : Hid (Below w1.heap.size w1 w3) := Lib.hid (HB2.out.trans (hb3.mono HB2.out.size))
             have hkm : m = k := by have := hol.len; rw [sdA_len] at this; exact this
             have hcm : m = nc := by have := hoc.len; rw [sdC_len] at this; exact this
             subst hkm
             subst hcm
             have HIA := Lib.hid (fun w' (hd : Drawn w3 w') => implIsString_any (some ⟨gl, 0, none⟩) m m (sdA m x1) w' (hd.si hol.si) (by have := HM.out; omega))
             have HIB := Lib.hid (fun w' (hd : Drawn w3 w') => implIsString_any (some ⟨gr, 0, none⟩) m m (sdB m x2) w' (hd.si hor.si) (by have := HM.out; omega))
             have HIC := Lib.hid (fun w' (hd : Drawn w3 w') => implIsString_any Ac m cc (sdC m x3) w' (hd.si hoc.si) (by have := HM.out; omega))
             clear hgn hgl hgr hol hor hlo1 hlo2 hoc hb3 q0 q1 q2 q3))
        rw [HV0.out] at HIA
        rw [HV1.out] at HIB
        go_wp2_with (first | (go_at_call 93; with_reducible refine (HIA.out _ (Drawn.refl _)).mono ?_; rintro e w4 ⟨rfl, hd⟩; have HDa : Hid (Drawn w3 w4) := Lib.hid (hd); clear hd) | (go_at_call 93; with_reducible refine (HIB.out _ HDa.out).mono ?_; rintro e w5 ⟨rfl, hd⟩; have HDb : Hid (Drawn w3 w5) := Lib.hid (HDa.out.trans hd); clear hd))
        try rw [Exit.noGoto_ret]
        go_ret
        exact ⟨ret_bool HF.out.symm, HB1.out.trans ((HB3.out.trans (HDb.out.below _)).mono (by have := HSZ.out; have := HG.out; omega))⟩
      | true =>
        cases hv2 : strB (sdC m x3) with
        | false =>
          have HF := Lib.hid (pzB_false (wt := wt) (s := (m : Int)) (x1 := x1) (x2 := x2) (x3 := x3) (fun h => by have h5 := strB_true ((HPP.out.1 h).1.2.2); rw [hv2] at h5; cases h5))
          have HV0 := Lib.hid hv0
          have HV1 := Lib.hid hv1
          have HV2 := Lib.hid hv2
          clear hv0 hv1 hv2
          go_enter Tryd.func78, Tryd.ntmps78
          go_upto_region 1 with fail
          rw [← HW.out, ← HG.out]
          refine wp_scope_straight ?_
          go_upto_region 3 with (go_at_call 91; refine HHL.out.mono ?_; rintro e w2 ⟨rfl, hb2⟩; have HB2 := Lib.hid hb2; obtain ⟨q0, q1, q2, q3⟩ := cells4 (HK1.out.below hb2 HGLT.out); clear hb2)
          go_upto_region 4 with (first
            | (go_at_call 92
               refine (HSD.out _ HB2.out).mono ?_
               rintro e w3 ⟨gl, gr, Ac, nc, cc, k, rfl, hgn, hgl, hgr, hol, hor, ⟨lo, hlo1, hlo2, hoc⟩, hb3⟩
               have HB3 : Hid (Below w1.heap.size w1 w3) := Lib.hid (HB2.out.trans (hb3.mono HB2.out.size))
               have hkm : m = k := by have := hol.len; rw [sdA_len] at this; exact this
               have hcm : m = nc := by have := hoc.len; rw [sdC_len] at this; exact this
               subst hkm
               subst hcm
               have HIA := Lib.hid (fun w' (hd : Drawn w3 w') => implIsString_any (some ⟨gl, 0, none⟩) m m (sdA m x1) w' (hd.si hol.si) (by have := HM.out; omega))
               have HIB := Lib.hid (fun w' (hd : Drawn w3 w') => implIsString_any (some ⟨gr, 0, none⟩) m m (sdB m x2) w' (hd.si hor.si) (by have := HM.out; omega))
               have HIC := Lib.hid (fun w' (hd : Drawn w3 w') => implIsString_any Ac m cc (sdC m x3) w' (hd.si hoc.si) (by have := HM.out; omega))
               clear hgn hgl hgr hol hor hlo1 hlo2 hoc hb3 q0 q1 q2 q3))
          rw [HV0.out] at HIA
          rw [HV1.out] at HIB
          rw [HV2.out] at HIC
          go_wp2_with (first | (go_at_call 93; with_reducible refine (HIA.out _ (Drawn.refl _)).mono ?_; rintro e w4 ⟨rfl, hd⟩; have HDa : Hid (Drawn w3 w4) := Lib.hid (hd); clear hd) | (go_at_call 93; with_reducible refine (HIB.out _ HDa.out).mono ?_; rintro e w5 ⟨rfl, hd⟩; have HDb : Hid (Drawn w3 w5) := Lib.hid (HDa.out.trans hd); clear hd) | (go_at_call 93; with_reducible refine (HIC.out _ HDb.out).mono ?_; rintro e w6 ⟨rfl, hd⟩; have HDc : Hid (Drawn w3 w6) := Lib.hid (HDb.out.trans hd); clear hd))
          try rw [Exit.noGoto_ret]
          go_ret
          exact ⟨ret_bool HF.out.symm, HB1.out.trans ((HB3.out.trans (HDc.out.below _)).mono (by have := HSZ.out; have := HG.out; omega))⟩
        | true =>
          have HSP := Lib.hid (And.intro (strB_P hv0) (And.intro (strB_P hv1) (strB_P hv2)))
          have HV0 := Lib.hid hv0
          have HV1 := Lib.hid hv1
          have HV2 := Lib.hid hv2
          clear hv0 hv1 hv2
          go_enter Tryd.func78, Tryd.ntmps78
          go_upto_region 1 with fail
          rw [← HW.out, ← HG.out]
          refine wp_scope_straight ?_
          go_upto_region 3 with (go_at_call 91; refine HHL.out.mono ?_; rintro e w2 ⟨rfl, hb2⟩; have HB2 := Lib.hid hb2; obtain ⟨q0, q1, q2, q3⟩ := cells4 (HK1.out.below hb2 HGLT.out); clear hb2)
          go_upto_region 4 with (first
            | (go_at_call 92
               refine (HSD.out _ HB2.out).mono ?_
               rintro e w3 ⟨gl, gr, Ac, nc, cc, k, rfl, hgn, hgl, hgr, hol, hor, ⟨lo, hlo1, hlo2, hoc⟩, hb3⟩
               have HB3 : Hid (Below w1.heap.size w1 w3) := Lib.hid (HB2.out.trans (hb3.mono HB2.out.size))
               have hkm : m = k := by have := hol.len; rw [sdA_len] at this; exact this
               have hcm : m = nc := by have := hoc.len; rw [sdC_len] at this; exact this
               subst hkm
               subst hcm
               have HIA := Lib.hid (fun w' (hd : Drawn w3 w') => implIsString_any (some ⟨gl, 0, none⟩) m m (sdA m x1) w' (hd.si hol.si) (by have := HM.out; omega))
               have HIB := Lib.hid (fun w' (hd : Drawn w3 w') => implIsString_any (some ⟨gr, 0, none⟩) m m (sdB m x2) w' (hd.si hor.si) (by have := HM.out; omega))
               have HIC := Lib.hid (fun w' (hd : Drawn w3 w') => implIsString_any Ac m cc (sdC m x3) w' (hd.si hoc.si) (by have := HM.out; omega))
               clear hgn hgl hgr hol hor hlo1 hlo2 hoc hb3 q0 q1 q2 q3))
          rw [HV0.out] at HIA
          rw [HV1.out] at HIB
          rw [HV2.out] at HIC
          go_upto_region 6 with (first | (go_at_call 93; with_reducible refine (HIA.out _ (Drawn.refl _)).mono ?_; rintro e w4 ⟨rfl, hd⟩; have HDa : Hid (Drawn w3 w4) := Lib.hid (hd); clear hd) | (go_at_call 93; with_reducible refine (HIB.out _ HDa.out).mono ?_; rintro e w5 ⟨rfl, hd⟩; have HDb : Hid (Drawn w3 w5) := Lib.hid (HDa.out.trans hd); clear hd) | (go_at_call 93; with_reducible refine (HIC.out _ HDb.out).mono ?_; rintro e w6 ⟨rfl, hd⟩; have HDc : Hid (Drawn w3 w6) := Lib.hid (HDb.out.trans hd); clear hd))
          refine wp_label ?_
          have HBW : Hid (Below w1.heap.size w1 w6) := Lib.hid (HB3.out.trans (HDc.out.below _))
          obtain ⟨q0, q1, q2, q3⟩ := cells4 (HK1.out.below HBW.out HGLT.out)
          go_wp2_with (first
            | (go_at_call 94
               refine (HST.out _ HBW.out).mono ?_
               rintro e w7 ⟨AT, nT, cT, rfl, hot, hb7⟩
               have HRT := Lib.hid hot.si
               have HB7 : Hid (Below w1.heap.size w1 w7) := Lib.hid (HBW.out.trans (hb7.mono HBW.out.size))
               clear hot hb7))
          clear q0 q1 q2 q3
          obtain ⟨TL, hTL⟩ : ∃ TL, TL = smR x1 x2 x3 m := ⟨_, rfl⟩
          have hnT : nT ≤ 100 := by
            have h5 := HRT.out.1
            have h6 := smR_len x1 x2 x3 m
            have h7 := tri_small (r := m) (by have := HM.out; omega)
            omega
          have hnR : nR ≤ 6 := by
            have h5 := HRR.out.1
            rw [right_len] at h5
            split at h5 <;> omega
          rw [← hTL] at HRT HPP
          have HNT := Lib.hid HRT.out.1
          have HRW := Lib.hid (HRR.out.below HB7.out (Nat.le_refl _))
          have HNR := Lib.hid HRR.out.1
          have HFI : Hid (∀ t, t ∈ TL → t ∉ rightL wt → pzB wt (m : Int) x1 x2 x3 = false) := Lib.hid (fun t ht hn => pzB_false (fun h => hn ((HPP.out.1 h).2 t ht)))
          have HTR : Hid ((∀ t, t ∈ TL → t ∈ rightL wt) → pzB wt (m : Int) x1 x2 x3 = true) := Lib.hid (fun h => pzB_true (HPP.out.2 ⟨HSP.out, h⟩))
          clear hTL
          go_loopw [37] (fun iv wr => ∃ i : Nat, i ≤ nT ∧ iv = .int .i64 i ∧ Below w7.heap.size w7 wr ∧ ∀ j, j < i → tr TL j ∈ rightL wt)
            (fun iv _ => nT - (intOf iv).toNat)
          case atStart => exact ⟨0, Nat.zero_le _, rfl, Below.refl _ _, fun j hj => absurd hj (by omega)⟩
          case round =>
            obtain ⟨i, hi, rfl, hbw, hall⟩ := hrel
            have HB := Lib.hid hbw
            have HA := Lib.hid hall
            clear hbw hall
            by_cases hlt : i < nT
            case neg =>
              have hin : i = nT := by omega
              have HE : Hid (pzB wt (m : Int) x1 x2 x3 = true) := Lib.hid (HTR.out (fun t ht => by
                obtain ⟨j, hj, e⟩ := tr_mem.1 ht
                rw [← e]; exact HA.out j (by have := HNT.out; omega)))
              clear hin
              go_wp2
              try rw [Exit.noGoto_ret]
              go_ret
              exact ⟨ret_bool HE.out.symm, HB1.out.trans ((HB7.out.trans (HB.out.mono HB7.out.size)).mono (by have := HSZ.out; have := HG.out; omega))⟩
            case pos =>
              have hltI : (i : Int) < (nT : Int) := by omega
              have hrt := HRT.out.below HB.out (Nat.le_refl _)
              obtain ⟨bt, ot, rfl, hbt, hct⟩ := hrt.2 (by omega)
              obtain ⟨e0, e1, e2⟩ := hct i hlt
              obtain ⟨t, ht⟩ : ∃ t, t = tr TL i := ⟨_, rfl⟩
              rw [← ht] at e0 e1 e2
              have HT := Lib.hid ht
              obtain ⟨ta, tb, tc⟩ := t
              simp only [] at e0 e1 e2
              clear hrt hct ht
              go_upto_region 9 with fail
              obtain ⟨wt9, hwt9⟩ : ∃ wt9, wt9 = wr.alloc (.cells #[.int .i64 ta, .int .i64 tb, .int .i64 tc] 123) := ⟨_, rfl⟩
              obtain ⟨gt, hgt⟩ : ∃ gt, gt = wr.heap.size := ⟨_, rfl⟩
              rw [← hwt9, ← hgt]
              have HB9 : Hid (Below w7.heap.size w7 wt9) := Lib.hid (by rw [hwt9]; exact HB.out.alloc HB.out.size _)
              have HK9 : Hid (Blk wt9 gt 123 #[.int .i64 ta, .int .i64 tb, .int .i64 tc]) := Lib.hid (by rw [hwt9, hgt]; exact Blk.new _ _ _)
              have HGT : Hid (w7.heap.size ≤ gt) := Lib.hid (by rw [hgt]; exact HB.out.size)
              clear hwt9 hgt e0 e1 e2
              go_wp2_with fail
              go_loopw [43] (fun kv wx => ∃ k : Nat, k ≤ nR ∧ kv = .int .i64 k ∧ Below w7.heap.size w7 wx ∧ Blk wx gt 123 #[.int .i64 ta, .int .i64 tb, .int .i64 tc] ∧ ∀ j, j < k → tr (rightL wt) j ≠ (ta, tb, tc))
                (fun kv _ => nR - (intOf kv).toNat)
              case atStart => exact ⟨0, Nat.zero_le _, rfl, HB9.out, HK9.out, fun j hj => absurd hj (by omega)⟩
              case round =>
                obtain ⟨k, hk, rfl, hbw, hbk, hall⟩ := hrel
                clear HB9 HK9
                have HB9 := Lib.hid hbw
                have HK9 := Lib.hid hbk
                have HAK := Lib.hid hall
                clear hbw hbk hall
                by_cases hkl : k < nR
                case neg =>
                  have HE : Hid (pzB wt (m : Int) x1 x2 x3 = false) := Lib.hid (HFI.out (ta, tb, tc) (tr_mem.2 ⟨i, by have := HNT.out; omega, HT.out.symm⟩) (fun h => by
                    obtain ⟨j, hj, e⟩ := tr_mem.1 h
                    exact HAK.out j (by have := HNR.out; omega) e))
                  have hkI : ¬ (k : Int) < (nR : Int) := by omega
                  go_wp2
                  try rw [Exit.noGoto_ret]
                  go_ret
                  exact ⟨ret_bool HE.out.symm, HB1.out.trans ((HB7.out.trans (HB9.out.mono HB7.out.size)).mono (by have := HSZ.out; have := HG.out; omega))⟩
                case pos =>
                  have hkI : (k : Int) < (nR : Int) := by omega
                  have hrr := HRW.out.below HB9.out (Nat.le_refl _)
                  obtain ⟨br, or, rfl, hbr, hcr⟩ := hrr.2 (by omega)
                  obtain ⟨f0, f1, f2⟩ := hcr k hkl
                  obtain ⟨u, hu⟩ : ∃ u, u = tr (rightL wt) k := ⟨_, rfl⟩
                  rw [← hu] at f0 f1 f2
                  have HU := Lib.hid hu
                  obtain ⟨ua, ub, uc⟩ := u
                  simp only [] at f0 f1 f2
                  clear hrr hcr hu
                  go_upto_region 12 with fail
                  obtain ⟨wu, hwu⟩ : ∃ wu, wu = wr.alloc (.cells #[.int .i64 ua, .int .i64 ub, .int .i64 uc] 123) := ⟨_, rfl⟩
                  obtain ⟨gu, hgu⟩ : ∃ gu, gu = wr.heap.size := ⟨_, rfl⟩
                  rw [← hwu, ← hgu]
                  have HBU : Hid (Below w7.heap.size w7 wu) := Lib.hid (by rw [hwu]; exact HB9.out.alloc HB9.out.size _)
                  have hkt : Blk wu gt 123 #[.int .i64 ta, .int .i64 tb, .int .i64 tc] := by rw [hwu]; exact HK9.out.alloc _
                  have hku : Blk wu gu 123 #[.int .i64 ua, .int .i64 ub, .int .i64 uc] := by rw [hwu, hgu]; exact Blk.new _ _ _
                  have HKT := Lib.hid hkt
                  have g0 : wu.cell? ⟨gt, 0, none⟩ = some (.int .i64 ta) := hkt.cell 0
                  have g1 : wu.cell? ⟨gt, 1, none⟩ = some (.int .i64 tb) := hkt.cell 1
                  have g2 : wu.cell? ⟨gt, 2, none⟩ = some (.int .i64 tc) := hkt.cell 2
                  have k0 : wu.cell? ⟨gu, 0, none⟩ = some (.int .i64 ua) := hku.cell 0
                  have k1 : wu.cell? ⟨gu, 1, none⟩ = some (.int .i64 ub) := hku.cell 1
                  have k2 : wu.cell? ⟨gu, 2, none⟩ = some (.int .i64 uc) := hku.cell 2
                  have hguard := fun w x y => run_guard_tri w x y #[.int .i64 ta, .int .i64 tb, .int .i64 tc] #[.int .i64 ua, .int .i64 ub, .int .i64 uc]
                  have heql := fun w => run_eql_tri w ta tb tc ua ub uc
                  clear hkt hku hwu hgu f0 f1 f2
                  by_cases heq : (ta, tb, tc) = (ua, ub, uc)
                  case pos =>
                    simp only [decide_eq_true heq] at heql
                    have HIN : Hid (tr TL i ∈ rightL wt) := Lib.hid (by
                      rw [← HT.out, heq, HU.out]
                      exact tr_mem.2 ⟨k, by have := HNR.out; omega, rfl⟩)
                    clear heq
                    go_wp2_with fail
                    go_roundw
                    case rel => exact ⟨i + 1, by omega, by go_num, HBU.out, fun j hj => by
                      rcases Nat.lt_or_ge j i with h | h
                      · exact HA.out j h
                      · obtain rfl : j = i := by omega
                        exact HIN.out⟩
                    case measure => simp [intOf]; omega
                  case neg =>
                    simp only [decide_eq_false heq] at heql
                    have HNE : Hid (tr (rightL wt) k ≠ (ta, tb, tc)) := Lib.hid (by rw [← HU.out]; exact fun h => heq h.symm)
                    clear heq
                    go_wp2_with fail
                    go_roundw
                    case rel => exact ⟨k + 1, by omega, by go_num, HBU.out, HKT.out, fun j hj => by
                      rcases Nat.lt_or_ge j k with h | h
                      · exact HAK.out j h
                      · obtain rfl : j = k := by omega
                        exact HNE.out⟩
                    case measure => simp [intOf]; omega

end Go.Proofs.YtdiiaallklkomaaDoor

/-
  What the document asks of a puzzle. Conditions: lengths below 2^40.
-/

namespace Go.Proofs.YtdiiaallklkomaaDoor
open Go.RowKit

set_option maxHeartbeats 1600000 in
theorem l5Place_at {i j : Int} (r k a : Nat) (hi : i = (r : Int)) (hj : j = (k : Int)) (ha : a = tri r + k) (w : World) (hr : r ≤ 8) (hk : k ≤ 100) :
    Calls Tryd.prog 88 #[.int .i64 i, .int .i64 j] w fun e w' => e = .returned (.int .i64 a) ∧ w = w' := by
  subst hi hj ha
  have h : r = 0 ∨ r = 1 ∨ r = 2 ∨ r = 3 ∨ r = 4 ∨ r = 5 ∨ r = 6 ∨ r = 7 ∨ r = 8 := by omega
  clear hr
  rcases h with rfl | rfl | rfl | rfl | rfl | rfl | rfl | rfl | rfl
  · have hw : IntKind.i64.wrap ((0 : Int) + (k : Int)) = (k : Int) := by rw [Int.zero_add]; exact IntWalk.i64_in _ (by omega)
    have hw2 : IntKind.i64.wrap (k : Int) = (k : Int) := IntWalk.i64_in _ (by omega)
    have HE : Hid (((tri 0 + k : Nat) : Int) = (k : Int)) := Lib.hid (by have : tri 0 = 0 := rfl; omega)
    go_enter Tryd.func88, Tryd.ntmps88
    go_wp2
    go_ret
    exact ⟨ret_int (by rw [HE.out]), rfl⟩
  · have hw : IntKind.i64.wrap ((1 : Int) + (k : Int)) = (1 : Int) + (k : Int) := IntWalk.i64_in _ (by omega)
    have hw2 : IntKind.i64.wrap (k : Int) = (k : Int) := IntWalk.i64_in _ (by omega)
    have HE : Hid (((tri 1 + k : Nat) : Int) = 1 + (k : Int)) := Lib.hid (by have : tri 1 = 1 := rfl; omega)
    go_enter Tryd.func88, Tryd.ntmps88
    go_wp2
    go_ret
    exact ⟨ret_int (by rw [HE.out]), rfl⟩
  · have hw : IntKind.i64.wrap ((3 : Int) + (k : Int)) = (3 : Int) + (k : Int) := IntWalk.i64_in _ (by omega)
    have hw2 : IntKind.i64.wrap (k : Int) = (k : Int) := IntWalk.i64_in _ (by omega)
    have HE : Hid (((tri 2 + k : Nat) : Int) = 3 + (k : Int)) := Lib.hid (by have : tri 2 = 3 := rfl; omega)
    go_enter Tryd.func88, Tryd.ntmps88
    go_wp2
    go_ret
    exact ⟨ret_int (by rw [HE.out]), rfl⟩
  · have hw : IntKind.i64.wrap ((6 : Int) + (k : Int)) = (6 : Int) + (k : Int) := IntWalk.i64_in _ (by omega)
    have hw2 : IntKind.i64.wrap (k : Int) = (k : Int) := IntWalk.i64_in _ (by omega)
    have HE : Hid (((tri 3 + k : Nat) : Int) = 6 + (k : Int)) := Lib.hid (by have : tri 3 = 6 := rfl; omega)
    go_enter Tryd.func88, Tryd.ntmps88
    go_wp2
    go_ret
    exact ⟨ret_int (by rw [HE.out]), rfl⟩
  · have hw : IntKind.i64.wrap ((10 : Int) + (k : Int)) = (10 : Int) + (k : Int) := IntWalk.i64_in _ (by omega)
    have hw2 : IntKind.i64.wrap (k : Int) = (k : Int) := IntWalk.i64_in _ (by omega)
    have HE : Hid (((tri 4 + k : Nat) : Int) = 10 + (k : Int)) := Lib.hid (by have : tri 4 = 10 := rfl; omega)
    go_enter Tryd.func88, Tryd.ntmps88
    go_wp2
    go_ret
    exact ⟨ret_int (by rw [HE.out]), rfl⟩
  · have hw : IntKind.i64.wrap ((15 : Int) + (k : Int)) = (15 : Int) + (k : Int) := IntWalk.i64_in _ (by omega)
    have hw2 : IntKind.i64.wrap (k : Int) = (k : Int) := IntWalk.i64_in _ (by omega)
    have HE : Hid (((tri 5 + k : Nat) : Int) = 15 + (k : Int)) := Lib.hid (by have : tri 5 = 15 := rfl; omega)
    go_enter Tryd.func88, Tryd.ntmps88
    go_wp2
    go_ret
    exact ⟨ret_int (by rw [HE.out]), rfl⟩
  · have hw : IntKind.i64.wrap ((21 : Int) + (k : Int)) = (21 : Int) + (k : Int) := IntWalk.i64_in _ (by omega)
    have hw2 : IntKind.i64.wrap (k : Int) = (k : Int) := IntWalk.i64_in _ (by omega)
    have HE : Hid (((tri 6 + k : Nat) : Int) = 21 + (k : Int)) := Lib.hid (by have : tri 6 = 21 := rfl; omega)
    go_enter Tryd.func88, Tryd.ntmps88
    go_wp2
    go_ret
    exact ⟨ret_int (by rw [HE.out]), rfl⟩
  · have hw : IntKind.i64.wrap ((28 : Int) + (k : Int)) = (28 : Int) + (k : Int) := IntWalk.i64_in _ (by omega)
    have hw2 : IntKind.i64.wrap (k : Int) = (k : Int) := IntWalk.i64_in _ (by omega)
    have HE : Hid (((tri 7 + k : Nat) : Int) = 28 + (k : Int)) := Lib.hid (by have : tri 7 = 28 := rfl; omega)
    go_enter Tryd.func88, Tryd.ntmps88
    go_wp2
    go_ret
    exact ⟨ret_int (by rw [HE.out]), rfl⟩
  · have hw : IntKind.i64.wrap ((36 : Int) + (k : Int)) = (36 : Int) + (k : Int) := IntWalk.i64_in _ (by omega)
    have hw2 : IntKind.i64.wrap (k : Int) = (k : Int) := IntWalk.i64_in _ (by omega)
    have HE : Hid (((tri 8 + k : Nat) : Int) = 36 + (k : Int)) := Lib.hid (by have : tri 8 = 36 := rfl; omega)
    go_enter Tryd.func88, Tryd.ntmps88
    go_wp2
    go_ret
    exact ⟨ret_int (by rw [HE.out]), rfl⟩
set_option maxHeartbeats 1600000 in
theorem l5Up_any (l r : Int) (wt : Bool) (w : World) (hl : 0 ≤ l ∧ l ≤ 2) (hr : 0 ≤ r ∧ r ≤ 2) :
    Calls Tryd.prog 89 #[.int .i64 l, .int .i64 r, .bool wt] w fun e w' => e = .returned (.int .i64 (upF l r wt)) ∧ w = w' := by
  have h1 : l = 0 ∨ l = 1 ∨ l = 2 := by omega
  have h2 : r = 0 ∨ r = 1 ∨ r = 2 := by omega
  clear hl hr
  rcases h1 with rfl | rfl | rfl <;> rcases h2 with rfl | rfl | rfl <;> cases wt <;>
    (go_enter Tryd.func89, Tryd.ntmps89
     go_wp2
     go_ret
     exact ⟨ret_int (by decide), rfl⟩)
set_option maxHeartbeats 1600000 in
theorem l5Down_any (l t : Int) (w : World) (hl : 0 ≤ l ∧ l ≤ 2) (ht : 0 ≤ t ∧ t ≤ 3) :
    Calls Tryd.prog 90 #[.int .i64 l, .int .i64 t] w fun e w' => e = .returned (.int .i64 (dnF l t)) ∧ w = w' := by
  have h1 : l = 0 ∨ l = 1 ∨ l = 2 := by omega
  have h2 : t = 0 ∨ t = 1 ∨ t = 2 ∨ t = 3 := by omega
  clear hl ht
  rcases h1 with rfl | rfl | rfl <;> rcases h2 with rfl | rfl | rfl | rfl <;>
    (go_enter Tryd.func90, Tryd.ntmps90
     go_wp2
     go_ret
     exact ⟨ret_int (by decide), rfl⟩)
theorem l5Up_d (l r : Int) (wt : Bool) (w : World) (hl : 0 ≤ l ∧ l ≤ 2) (hr : 0 ≤ r ∧ r ≤ 2) :
    Calls Tryd.prog 89 #[.int .i64 l, .int .i64 r, .bool wt] w fun e w' => e = .returned (.int .i64 (upF l r wt)) ∧ Drawn w w' :=
  (l5Up_any l r wt w hl hr).mono fun _ _ ⟨he, hw⟩ => ⟨he, hw ▸ Drawn.refl _⟩
theorem l5Down_d (l t : Int) (w : World) (hl : 0 ≤ l ∧ l ≤ 2) (ht : 0 ≤ t ∧ t ≤ 3) :
    Calls Tryd.prog 90 #[.int .i64 l, .int .i64 t] w fun e w' => e = .returned (.int .i64 (dnF l t)) ∧ Drawn w w' :=
  (l5Down_any l t w hl ht).mono fun _ _ ⟨he, hw⟩ => ⟨he, hw ▸ Drawn.refl _⟩
theorem l5Place_d {i j : Int} (r k a : Nat) (hi : i = (r : Int)) (hj : j = (k : Int)) (ha : a = tri r + k) (w : World) (hr : r ≤ 8) (hk : k ≤ 100) :
    Calls Tryd.prog 88 #[.int .i64 i, .int .i64 j] w fun e w' => e = .returned (.int .i64 a) ∧ Drawn w w' :=
  (l5Place_at r k a hi hj ha w hr hk).mono fun _ _ ⟨he, hw⟩ => ⟨he, hw ▸ Drawn.refl _⟩
theorem tri_half {m : Nat} (h : m ≤ 8) : IntKind.i64.wrap ((m : Int) + 1) = (m : Int) + 1 ∧ IntKind.i64.wrap ((m : Int) * ((m : Int) + 1)) = (m : Int) * ((m : Int) + 1) ∧ IntKind.i64.wrap (((m : Int) * ((m : Int) + 1)).tdiv 2) = (tri m : Int) := by
  have h : m = 0 ∨ m = 1 ∨ m = 2 ∨ m = 3 ∨ m = 4 ∨ m = 5 ∨ m = 6 ∨ m = 7 ∨ m = 8 := by omega
  rcases h with rfl | rfl | rfl | rfl | rfl | rfl | rfl | rfl | rfl <;> decide
set_option maxRecDepth 100000 in
set_option maxHeartbeats 8000000 in
theorem l5Ok_any (s : Int) (A1 A2 A3 : Option Addr) (n1 c1 n2 c2 n3 c3 : Nat) (x1 x2 x3 : List Int) (wt : Bool) (w : World) (h1 : SI w A1 n1 x1) (h2 : SI w A2 n2 x2) (h3 : SI w A3 n3 x3) (hn : n1 ≤ 1099511627776 ∧ n2 ≤ 1099511627776 ∧ n3 ≤ 1099511627776) :
    Calls Tryd.prog 77 #[.agg #[.int .i64 s, .slice A1 n1 c1, .slice A2 n2 c2, .slice A3 n3 c3], .bool wt] w fun e w' => e = .returned (.bool (pzB wt s x1 x2 x3)) ∧ Below w.heap.size w w' := by
  obtain ⟨w1, hw1⟩ : ∃ w1, w1 = w.alloc (.cells #[.int .i64 s, .slice A1 n1 c1, .slice A2 n2 c2, .slice A3 n3 c3] 54) := ⟨_, rfl⟩
  obtain ⟨g, hg⟩ : ∃ g, g = w.heap.size := ⟨_, rfl⟩
  have hk : Blk w1 g 54 #[.int .i64 s, .slice A1 n1 c1, .slice A2 n2 c2, .slice A3 n3 c3] := by rw [hw1, hg]; exact Blk.new _ _ _
  have hb : Below w.heap.size w w1 := by rw [hw1]; exact Below.alloc_self _ _
  have HB := Lib.hid hb
  have HW := Lib.hid hw1
  have HG := Lib.hid hg
  have HK := Lib.hid hk
  have HL := Lib.hid (And.intro h1.1 (And.intro h2.1 h3.1))
  have HS := Lib.hid (And.intro (h1.below hb (Nat.le_refl _)) (And.intro (h2.below hb (Nat.le_refl _)) (h3.below hb (Nat.le_refl _))))
  obtain ⟨q0, q1, q2, q3⟩ := cells4 hk
  obtain ⟨hn1, hn2, hn3⟩ := hn
  clear hb hw1 hg hk h1 h2 h3
  by_cases hs : 1 ≤ s ∧ s ≤ 7
  case neg =>
    have H1 := Lib.hid (fun w => l1In_no' (a := s) (lo := 1) (hi := 7) (by omega) w)
    have HF := Lib.hid (pzB_false (wt := wt) (s := s) (x1 := x1) (x2 := x2) (x3 := x3) (fun h => hs ⟨h.1.1, h.1.2.1⟩))
    clear hs
    go_enter Tryd.func77, Tryd.ntmps77
    go_upto_region 1 with fail
    rw [← HW.out, ← HG.out]
    go_wp2_with (go_at_call 71; refine (H1.out _).mono ?_; rintro e w2 ⟨rfl, rfl⟩)
    go_ret
    exact ⟨ret_bool HF.out.symm, HB.out⟩
  case pos =>
    obtain ⟨m, rfl⟩ : ∃ m : Nat, s = (m : Int) := ⟨s.toNat, by omega⟩
    have H1 := Lib.hid (fun w => l1In_yes' (a := (m : Int)) (lo := 1) (hi := 7) hs.1 hs.2 w)
    have hm1 : 1 ≤ m := by omega
    have hm7 : m ≤ 7 := by omega
    obtain ⟨t1, t2, t3⟩ := tri_half (m := m) (by omega)
    have HT36 := Lib.hid (tri_small (r := m) (by omega))
    have HLP : Hid (lensP (m : Int) x1 x2 x3 ↔ n1 = tri m ∧ n2 = tri m ∧ n3 = tri m) := Lib.hid (by
      unfold lensP
      rw [HL.out.1, HL.out.2.1, HL.out.2.2, Int.toNat_natCast]
      exact ⟨fun h => h.2.2, fun h => ⟨by omega, by omega, h⟩⟩)
    have hlt0 : (2 : Int) ≠ 0 := by decide
    clear hs
    by_cases e1 : n1 = tri m
    case neg =>
      have b1 : ((n1 : Int) != (tri m : Int)) = true := by simp; omega
      have HF := Lib.hid (pzB_false (wt := wt) (s := (m : Int)) (x1 := x1) (x2 := x2) (x3 := x3) (fun h => e1 (HLP.out.1 h.1).1))
      clear e1
      go_enter Tryd.func77, Tryd.ntmps77
      go_upto_region 1 with fail
      rw [← HW.out, ← HG.out]
      go_wp2_with (go_at_call 71; refine (H1.out _).mono ?_; rintro e w2 ⟨rfl, rfl⟩)
      go_ret
      exact ⟨ret_bool HF.out.symm, HB.out⟩
    case pos =>
      by_cases e2 : n2 = tri m
      case neg =>
        have b1 : ((n1 : Int) != (tri m : Int)) = false := by rw [e1]; simp
        have b2 : ((n2 : Int) != (tri m : Int)) = true := by simp; omega
        have HF := Lib.hid (pzB_false (wt := wt) (s := (m : Int)) (x1 := x1) (x2 := x2) (x3 := x3) (fun h => e2 (HLP.out.1 h.1).2.1))
        clear e1 e2
        go_enter Tryd.func77, Tryd.ntmps77
        go_upto_region 1 with fail
        rw [← HW.out, ← HG.out]
        go_wp2_with (go_at_call 71; refine (H1.out _).mono ?_; rintro e w2 ⟨rfl, rfl⟩)
        go_ret
        exact ⟨ret_bool HF.out.symm, HB.out⟩
      case pos =>
        by_cases e3 : n3 = tri m
        case neg =>
          have b1 : ((n1 : Int) != (tri m : Int)) = false := by rw [e1]; simp
          have b2 : ((n2 : Int) != (tri m : Int)) = false := by rw [e2]; simp
          have b3 : ((n3 : Int) != (tri m : Int)) = true := by simp; omega
          have HF := Lib.hid (pzB_false (wt := wt) (s := (m : Int)) (x1 := x1) (x2 := x2) (x3 := x3) (fun h => e3 (HLP.out.1 h.1).2.2))
          clear e1 e2 e3
          go_enter Tryd.func77, Tryd.ntmps77
          go_upto_region 1 with fail
          rw [← HW.out, ← HG.out]
          go_wp2_with (go_at_call 71; refine (H1.out _).mono ?_; rintro e w2 ⟨rfl, rfl⟩)
          go_ret
          exact ⟨ret_bool HF.out.symm, HB.out⟩
        case pos =>
          have LP := Lib.hid (HLP.out.2 ⟨e1, e2, e3⟩)
          have HE := Lib.hid (And.intro e1 (And.intro e2 e3))
          have b1 : ((n1 : Int) != (tri m : Int)) = false := by rw [e1]; simp
          have b2 : ((n2 : Int) != (tri m : Int)) = false := by rw [e2]; simp
          have b3 : ((n3 : Int) != (tri m : Int)) = false := by rw [e3]; simp
          clear e1 e2 e3
          go_enter Tryd.func77, Tryd.ntmps77
          go_upto_region 1 with fail
          rw [← HW.out, ← HG.out]
          go_wp2_with (go_at_call 71; refine (H1.out _).mono ?_; rintro e w2 ⟨rfl, rfl⟩)
          clear b1 b2 b3 t1 t2 t3 q0 q1 q2 q3 hn1 hn2 hn3
          go_loopw [6] (fun rv wr => ∃ r : Nat, r ≤ m ∧ rv = .int .i64 r ∧ Drawn w1 wr ∧ ∀ r', r' < r → ∀ k, k ≤ r' → atP wt m x1 x2 x3 r' k)
            (fun rv _ => m - (intOf rv).toNat)
          case atStart => exact ⟨0, Nat.zero_le _, rfl, Drawn.refl _, fun j hj => absurd hj (by omega)⟩
          case round =>
            obtain ⟨r, hr, rfl, hD, hall⟩ := hrel
            have HA := Lib.hid hall
            have HDR := Lib.hid hD
            obtain ⟨q0, q1, q2, q3⟩ := cells4 (HK.out.drawn hD)
            clear hall hD
            by_cases hlt : r < m
            case neg =>
              have hrm : r = m := by omega
              subst hrm
              go_wp2
              go_ret
              exact ⟨ret_bool (pzB_true (pz_of_at LP.out (by rw [Int.toNat_natCast]; exact HA.out))).symm, HB.out.trans (HDR.out.below _)⟩
            case pos =>
              have hltI : (r : Int) < (m : Int) := by omega
              go_wp2_with fail
              clear q0 q1 q2 q3
              obtain ⟨wo, rfl⟩ : ∃ wo, wo = wr := ⟨wr, rfl⟩
              go_loopw [7] (fun kv wx => ∃ k : Nat, k ≤ r + 1 ∧ kv = .int .i64 k ∧ Drawn w1 wx ∧ ∀ j, j < k → atP wt m x1 x2 x3 r j)
                (fun kv _ => r + 1 - (intOf kv).toNat)
              case atStart => exact ⟨0, Nat.zero_le _, rfl, HDR.out, fun j hj => absurd hj (by omega)⟩
              case round =>
                obtain ⟨k, hk, rfl, hD, hall⟩ := hrel
                have HAK := Lib.hid hall
                clear HDR
                have HDR := Lib.hid hD
                obtain ⟨q0, q1, q2, q3⟩ := cells4 (HK.out.drawn hD)
                clear hall hD
                by_cases hkr : k ≤ r
                case neg =>
                  have hkI : ¬ (k : Int) ≤ (r : Int) := by omega
                  have HN : Hid (∀ r', r' < r + 1 → ∀ k, k ≤ r' → atP wt m x1 x2 x3 r' k) := Lib.hid (fun r' hr' k' hk' => by
                    rcases Nat.lt_or_ge r' r with h | h
                    · exact HA.out r' h k' hk'
                    · obtain rfl : r' = r := by omega
                      exact HAK.out k' (by omega))
                  go_wp2
                  go_roundw
                  case rel => exact ⟨r + 1, by omega, by go_num, HDR.out, HN.out⟩
                  case measure => simp [intOf]; omega
                case pos =>
                  have hkI : (k : Int) ≤ (r : Int) := by omega
                  have HNA : Hid (¬ atP wt m x1 x2 x3 r k → pzB wt (m : Int) x1 x2 x3 = false) := Lib.hid (fun h => pzB_false (fun hp => h (by have := at_of_pz hp (r := r) (k := k) (by rw [Int.toNat_natCast]; exact hlt) hkr; rwa [Int.toNat_natCast] at this)))
                  obtain ⟨a, ha⟩ : ∃ a, a = tri r + k := ⟨_, rfl⟩
                  have HPL := Lib.hid (fun w => l5Place_at (i := (r : Int)) (j := (k : Int)) r k a rfl rfl ha w (by omega) (by omega))
                  have hat : a < tri m := by rw [ha]; exact tri_lt hlt hkr
                  have ha1 : a < n1 := by rw [HE.out.1]; exact hat
                  have ha2 : a < n2 := by rw [HE.out.2.1]; exact hat
                  have ha3 : a < n3 := by rw [HE.out.2.2]; exact hat
                  have hx1 := HDR.out.si HS.out.1
                  have hx2 := HDR.out.si HS.out.2.1
                  have hx3 := HDR.out.si HS.out.2.2
                  have HX := Lib.hid (And.intro hx1 (And.intro hx2 hx3))
                  obtain ⟨b1, o1, rfl, _, hc1⟩ := hx1.at_ (by omega)
                  obtain ⟨b2, o2, rfl, _, hc2⟩ := hx2.at_ (by omega)
                  obtain ⟨b3, o3, rfl, _, hc3⟩ := hx3.at_ (by omega)
                  have hd1 := hc1 a ha1
                  have hd2 := hc2 a ha2
                  have hd3 := hc3 a ha3
                  have HC := Lib.hid (And.intro hc1 hc3)
                  obtain ⟨l, hl⟩ : ∃ l, l = nth x1 a := ⟨_, rfl⟩
                  obtain ⟨y, hy⟩ : ∃ y, y = nth x2 a := ⟨_, rfl⟩
                  obtain ⟨b, hb⟩ : ∃ b, b = nth x3 a := ⟨_, rfl⟩
                  rw [← hl] at hd1
                  rw [← hy] at hd2
                  rw [← hb] at hd3
                  have HV : Hid (l = nth x1 (tri r + k) ∧ y = nth x2 (tri r + k) ∧ b = nth x3 (tri r + k)) := Lib.hid (by rw [← ha]; exact ⟨hl, hy, hb⟩)
                  have i1 : (a : Int) < (n1 : Int) := by omega
                  have i2 : (a : Int) < (n2 : Int) := by omega
                  have i3 : (a : Int) < (n3 : Int) := by omega
                  have HM := Lib.hid (And.intro hat ha)
                  clear hc1 hc2 hc3 hx1 hx2 hx3 hl hy hb ha hat ha1 ha2 ha3
                  go_upto_region 13 with (go_at_call 88; refine (HPL.out _).mono ?_; rintro e w3 ⟨rfl, rfl⟩)
                  by_cases p1 : 0 ≤ l ∧ l ≤ 2
                  case neg =>
                    have Q1 := Lib.hid (fun w => l1In_no (a := l) (lo := 0) (hi := 2) (by omega) w)
                    have HF := Lib.hid (HNA.out (fun h => p1 (by rw [HV.out.1]; exact h.1)))
                    clear p1
                    go_quiet ((go_at_call 71; with_reducible exact Calls.quiet_of (Q1.out _)))
                    go_wp2
                    go_ret
                    exact ⟨ret_bool HF.out.symm, HB.out.trans ((HDR.out.drewN _).below _)⟩
                  case pos =>
                    have Q1 := Lib.hid (fun w => l1In_yes (a := l) (lo := 0) (hi := 2) p1.1 p1.2 w)
                    by_cases p2 : 0 ≤ y ∧ y ≤ 2
                    case neg =>
                      have Q2 := Lib.hid (fun w => l1In_no (a := y) (lo := 0) (hi := 2) (by omega) w)
                      have HF := Lib.hid (HNA.out (fun h => p2 (by rw [HV.out.2.1]; exact h.2.1)))
                      clear p1 p2
                      go_quiet ((go_at_call 71; first | with_reducible exact Calls.quiet_of (Q1.out _) | with_reducible exact Calls.quiet_of (Q2.out _)))
                      go_wp2
                      go_ret
                      exact ⟨ret_bool HF.out.symm, HB.out.trans ((HDR.out.drewN _).below _)⟩
                    case pos =>
                      have Q2 := Lib.hid (fun w => l1In_yes (a := y) (lo := 0) (hi := 2) p2.1 p2.2 w)
                      by_cases p3 : b < 0
                      case pos =>
                        have HF := Lib.hid (HNA.out (fun h => by have h5 := h.2.2.1; rw [← HV.out.2.2] at h5; omega))
                        clear p1 p2
                        go_quiet ((go_at_call 71; first | with_reducible exact Calls.quiet_of (Q1.out _) | with_reducible exact Calls.quiet_of (Q2.out _)))
                        go_wp2
                        go_ret
                        exact ⟨ret_bool HF.out.symm, HB.out.trans ((HDR.out.drewN _).below _)⟩
                      case neg =>
                        have Q3 := Lib.hid (fun w => l5Up_d l y wt w p1 p2)
                        have HP1 := Lib.hid p1
                        have HP2 := Lib.hid p2
                        have HP3 := Lib.hid p3
                        obtain ⟨u, hu⟩ : ∃ u, u = upF l y wt := ⟨_, rfl⟩
                        rw [← hu] at Q3
                        by_cases p4 : u = b
                        case neg =>
                          have HF := Lib.hid (HNA.out (fun h => p4 (by have h5 := h.2.2.2.1; rw [← HV.out.1, ← HV.out.2.1, ← HV.out.2.2, ← hu] at h5; exact h5)))
                          have hne : (u != b) = true := by simpa using p4
                          clear p1 p2 p4 hu
                          go_quiet ((first
                            | (go_at_call 71; first | with_reducible exact Calls.quiet_of (Q1.out _) | with_reducible exact Calls.quiet_of (Q2.out _))
                            | (go_at_call 89; with_reducible exact Calls.quiet_of (Q3.out _))))
                          go_wp2
                          go_ret
                          exact ⟨ret_bool HF.out.symm, HB.out.trans ((HDR.out.drewN _).below _)⟩
                        case pos =>
                          have HUP : Hid (upF l y wt = b) := Lib.hid (by rw [← hu, p4])
                          have hne : (u != b) = false := by rw [p4]; simp
                          clear p1 p2 p4 hu
                          go_quiet ((first
                            | (go_at_call 71; first | with_reducible exact Calls.quiet_of (Q1.out _) | with_reducible exact Calls.quiet_of (Q2.out _))
                            | (go_at_call 89; with_reducible exact Calls.quiet_of (Q3.out _))))
                          go_upto_region 15 with fail
                          obtain ⟨wq, hwq⟩ : ∃ wq, wq = wr.drewN nq := ⟨_, rfl⟩
                          rw [← hwq]
                          have HDQ : Hid (Drawn w1 wq) := Lib.hid (by rw [hwq]; exact HDR.out.drewN _)
                          have hd1 : wq.cell? ⟨b1, o1 + a, none⟩ = some (.int .i64 l) := by rw [hwq]; exact hd1
                          have hd2 : wq.cell? ⟨b2, o2 + a, none⟩ = some (.int .i64 y) := by rw [hwq]; exact hd2
                          have hd3 : wq.cell? ⟨b3, o3 + a, none⟩ = some (.int .i64 b) := by rw [hwq]; exact hd3
                          have HCQ : Hid ((∀ k, k < n1 → wq.cell? ⟨b1, o1 + k, none⟩ = some (.int .i64 (nth x1 k))) ∧ (∀ k, k < n3 → wq.cell? ⟨b3, o3 + k, none⟩ = some (.int .i64 (nth x3 k)))) := Lib.hid (by rw [hwq]; exact HC.out)
                          clear q0 q1 q2 q3 HC hwq HDR
                          have HDR := HDQ
                          have HC := HCQ
                          obtain ⟨q0, q1, q2, q3⟩ := cells4 (HK.out.drawn HDR.out)
                          by_cases hkr2 : k < r
                          case neg =>
                            have hkI2 : ¬ (k : Int) < (r : Int) := by omega
                            have HDNF : Hid (k < r → dnF y (nth x3 (tri (r - 1) + k)) = nth x1 (tri r + (k + 1))) := Lib.hid (fun h => absurd h hkr2)
                            have hkre : k = r := by omega
                            have HKRE := Lib.hid hkre
                            clear hkr2 hkre
                            go_quiet (fail)
                            go_upto_region 17 with fail
                            have tA : IntKind.i64.wrap ((m : Int) - 1) = (m : Int) - 1 := IntWalk.i64_in _ (by omega)
                            by_cases uA : r = m - 1
                            case neg =>
                              have sA : ((r : Int) == (m : Int) - 1) = false := by simp; omega
                              have HA1 : Hid (r = m - 1 → b ≤ 1) := Lib.hid (fun h => absurd h uA)
                              have HUA := Lib.hid uA
                              clear uA
                              by_cases uC : k = 0
                              case neg =>
                                have sC : ((k : Int) == 0) = false := by simp; omega
                                have HC1 : Hid (k = 0 → l ≤ 1) := Lib.hid (fun h => absurd h uC)
                                have HUC := Lib.hid uC
                                clear uC
                                have sE : ((k : Int) == (r : Int)) = true := by have := HKRE.out; simp; omega
                                by_cases vE : 1 < y
                                case pos =>
                                  have HF := Lib.hid (HNA.out (fun h => by have h5 := h.2.2.2.2.2.2.2 HKRE.out; rw [← HV.out.2.1] at h5; omega))
                                  go_wp2
                                  go_ret
                                  exact ⟨ret_bool HF.out.symm, HB.out.trans ((HDR.out.drewN _).below _)⟩
                                case neg =>
                                  have HE1 : Hid (k = r → y ≤ 1) := Lib.hid (fun _ => by omega)
                                  have HATP : Hid (atP wt m x1 x2 x3 r k) := Lib.hid (by unfold atP; rw [← HV.out.1, ← HV.out.2.1, ← HV.out.2.2]; exact ⟨HP1.out, HP2.out, by have := HP3.out; omega, HUP.out, HDNF.out, HA1.out, HC1.out, HE1.out⟩)
                                  go_wp2
                                  go_roundw
                                  case rel => exact ⟨k + 1, by omega, by go_num, HDR.out.drewN _, fun j hj => by
                                    rcases Nat.lt_or_ge j k with h | h
                                    · exact HAK.out j h
                                    · obtain rfl : j = k := by omega
                                      exact HATP.out⟩
                                  case measure => simp [intOf]; omega
                              case pos =>
                                have sC : ((k : Int) == 0) = true := by simp; omega
                                have HUC := Lib.hid uC
                                clear uC
                                by_cases vC : 1 < l
                                case pos =>
                                  have HF := Lib.hid (HNA.out (fun h => by have h5 := h.2.2.2.2.2.2.1 HUC.out; rw [← HV.out.1] at h5; omega))
                                  go_wp2
                                  go_ret
                                  exact ⟨ret_bool HF.out.symm, HB.out.trans ((HDR.out.drewN _).below _)⟩
                                case neg =>
                                  have HC1 : Hid (k = 0 → l ≤ 1) := Lib.hid (fun _ => by omega)
                                  have sE : ((k : Int) == (r : Int)) = true := by have := HKRE.out; simp; omega
                                  by_cases vE : 1 < y
                                  case pos =>
                                    have HF := Lib.hid (HNA.out (fun h => by have h5 := h.2.2.2.2.2.2.2 HKRE.out; rw [← HV.out.2.1] at h5; omega))
                                    go_wp2
                                    go_ret
                                    exact ⟨ret_bool HF.out.symm, HB.out.trans ((HDR.out.drewN _).below _)⟩
                                  case neg =>
                                    have HE1 : Hid (k = r → y ≤ 1) := Lib.hid (fun _ => by omega)
                                    have HATP : Hid (atP wt m x1 x2 x3 r k) := Lib.hid (by unfold atP; rw [← HV.out.1, ← HV.out.2.1, ← HV.out.2.2]; exact ⟨HP1.out, HP2.out, by have := HP3.out; omega, HUP.out, HDNF.out, HA1.out, HC1.out, HE1.out⟩)
                                    go_wp2
                                    go_roundw
                                    case rel => exact ⟨k + 1, by omega, by go_num, HDR.out.drewN _, fun j hj => by
                                      rcases Nat.lt_or_ge j k with h | h
                                      · exact HAK.out j h
                                      · obtain rfl : j = k := by omega
                                        exact HATP.out⟩
                                    case measure => simp [intOf]; omega
                            case pos =>
                              have sA : ((r : Int) == (m : Int) - 1) = true := by simp; omega
                              have HUA := Lib.hid uA
                              clear uA
                              by_cases vA : 1 < b
                              case pos =>
                                have HF := Lib.hid (HNA.out (fun h => by have h5 := h.2.2.2.2.2.1 HUA.out; rw [← HV.out.2.2] at h5; omega))
                                go_wp2
                                go_ret
                                exact ⟨ret_bool HF.out.symm, HB.out.trans ((HDR.out.drewN _).below _)⟩
                              case neg =>
                                have HA1 : Hid (r = m - 1 → b ≤ 1) := Lib.hid (fun _ => by omega)
                                by_cases uC : k = 0
                                case neg =>
                                  have sC : ((k : Int) == 0) = false := by simp; omega
                                  have HC1 : Hid (k = 0 → l ≤ 1) := Lib.hid (fun h => absurd h uC)
                                  have HUC := Lib.hid uC
                                  clear uC
                                  have sE : ((k : Int) == (r : Int)) = true := by have := HKRE.out; simp; omega
                                  by_cases vE : 1 < y
                                  case pos =>
                                    have HF := Lib.hid (HNA.out (fun h => by have h5 := h.2.2.2.2.2.2.2 HKRE.out; rw [← HV.out.2.1] at h5; omega))
                                    go_wp2
                                    go_ret
                                    exact ⟨ret_bool HF.out.symm, HB.out.trans ((HDR.out.drewN _).below _)⟩
                                  case neg =>
                                    have HE1 : Hid (k = r → y ≤ 1) := Lib.hid (fun _ => by omega)
                                    have HATP : Hid (atP wt m x1 x2 x3 r k) := Lib.hid (by unfold atP; rw [← HV.out.1, ← HV.out.2.1, ← HV.out.2.2]; exact ⟨HP1.out, HP2.out, by have := HP3.out; omega, HUP.out, HDNF.out, HA1.out, HC1.out, HE1.out⟩)
                                    go_wp2
                                    go_roundw
                                    case rel => exact ⟨k + 1, by omega, by go_num, HDR.out.drewN _, fun j hj => by
                                      rcases Nat.lt_or_ge j k with h | h
                                      · exact HAK.out j h
                                      · obtain rfl : j = k := by omega
                                        exact HATP.out⟩
                                    case measure => simp [intOf]; omega
                                case pos =>
                                  have sC : ((k : Int) == 0) = true := by simp; omega
                                  have HUC := Lib.hid uC
                                  clear uC
                                  by_cases vC : 1 < l
                                  case pos =>
                                    have HF := Lib.hid (HNA.out (fun h => by have h5 := h.2.2.2.2.2.2.1 HUC.out; rw [← HV.out.1] at h5; omega))
                                    go_wp2
                                    go_ret
                                    exact ⟨ret_bool HF.out.symm, HB.out.trans ((HDR.out.drewN _).below _)⟩
                                  case neg =>
                                    have HC1 : Hid (k = 0 → l ≤ 1) := Lib.hid (fun _ => by omega)
                                    have sE : ((k : Int) == (r : Int)) = true := by have := HKRE.out; simp; omega
                                    by_cases vE : 1 < y
                                    case pos =>
                                      have HF := Lib.hid (HNA.out (fun h => by have h5 := h.2.2.2.2.2.2.2 HKRE.out; rw [← HV.out.2.1] at h5; omega))
                                      go_wp2
                                      go_ret
                                      exact ⟨ret_bool HF.out.symm, HB.out.trans ((HDR.out.drewN _).below _)⟩
                                    case neg =>
                                      have HE1 : Hid (k = r → y ≤ 1) := Lib.hid (fun _ => by omega)
                                      have HATP : Hid (atP wt m x1 x2 x3 r k) := Lib.hid (by unfold atP; rw [← HV.out.1, ← HV.out.2.1, ← HV.out.2.2]; exact ⟨HP1.out, HP2.out, by have := HP3.out; omega, HUP.out, HDNF.out, HA1.out, HC1.out, HE1.out⟩)
                                      go_wp2
                                      go_roundw
                                      case rel => exact ⟨k + 1, by omega, by go_num, HDR.out.drewN _, fun j hj => by
                                        rcases Nat.lt_or_ge j k with h | h
                                        · exact HAK.out j h
                                        · obtain rfl : j = k := by omega
                                          exact HATP.out⟩
                                      case measure => simp [intOf]; omega
                          case pos =>
                            have hkI2 : (k : Int) < (r : Int) := by omega
                            obtain ⟨r1, hr1⟩ : ∃ r1, r1 = r - 1 := ⟨_, rfl⟩
                            have hri : (r : Int) - 1 = (r1 : Int) := by omega
                            have w1r : IntKind.i64.wrap ((r : Int) - 1) = (r : Int) - 1 := IntWalk.i64_in _ (by omega)
                            have w1k : IntKind.i64.wrap ((k : Int) + 1) = (k : Int) + 1 := IntWalk.i64_in _ (by omega)
                            obtain ⟨t, ht⟩ : ∃ t, t = tri r1 + k := ⟨_, rfl⟩
                            obtain ⟨a', ha'⟩ : ∃ a', a' = tri r + (k + 1) := ⟨_, rfl⟩
                            have Q4 := Lib.hid (fun w => l5Place_d (i := (r : Int) - 1) (j := (k : Int)) r1 k t hri rfl ht w (by omega) (by omega))
                            have Q5 := Lib.hid (fun w => l5Place_d (i := (r : Int)) (j := (k : Int) + 1) r (k + 1) a' rfl (by omega) ha' w (by omega) (by omega))
                            have htm : t < tri m := by rw [ht]; exact tri_lt (by omega) (by omega)
                            have ham : a' < tri m := by rw [ha']; exact tri_lt hlt (by omega)
                            have ht3 : t < n3 := by rw [HE.out.2.2]; exact htm
                            have ha3 : a' < n1 := by rw [HE.out.1]; exact ham
                            have hd4 := HC.out.2 t ht3
                            have hd5 := HC.out.1 a' ha3
                            have i4 : (t : Int) < (n3 : Int) := by omega
                            have i5 : (a' : Int) < (n1 : Int) := by omega
                            have hat4 := HA.out r1 (by omega) k (by omega)
                            have htop := (mem_right (up_right hat4.1 hat4.2.1 hat4.2.2.1 hat4.2.2.2.1)).2.2.1
                            rw [← ht] at htop
                            obtain ⟨z, hz⟩ : ∃ z, z = nth x3 t := ⟨_, rfl⟩
                            obtain ⟨l', hl'⟩ : ∃ l', l' = nth x1 a' := ⟨_, rfl⟩
                            rw [← hz] at hd4 htop
                            rw [← hl'] at hd5
                            have Q6 := Lib.hid (fun w => l5Down_d y z w HP2.out htop)
                            obtain ⟨v, hv⟩ : ∃ v, v = dnF y z := ⟨_, rfl⟩
                            rw [← hv] at Q6
                            have HVV : Hid (z = nth x3 (tri (r - 1) + k) ∧ l' = nth x1 (tri r + (k + 1)) ∧ v = dnF y z) := Lib.hid (by rw [← hr1, ← ht, ← ha']; exact ⟨hz, hl', hv⟩)
                            clear hr1 hri ht ha' htm ham ht3 ha3 hat4 htop hz hl' hv
                            by_cases hvl : v = l'
                            case neg =>
                              have HF := Lib.hid (HNA.out (fun h => hvl (by have h5 := h.2.2.2.2.1 hkr2; rw [← HV.out.2.1, ← HVV.out.1, ← HVV.out.2.1, ← HVV.out.2.2] at h5; exact h5)))
                              have hne2 : (v != l') = true := by simpa using hvl
                              clear hvl
                              go_quiet ((first
                                | (go_at_call 88; first | with_reducible exact Calls.quiet_of (Q4.out _) | with_reducible exact Calls.quiet_of (Q5.out _))
                                | (go_at_call 90; with_reducible exact Calls.quiet_of (Q6.out _))))
                              go_wp2
                              go_ret
                              exact ⟨ret_bool HF.out.symm, HB.out.trans ((HDR.out.drewN _).below _)⟩
                            case pos =>
                              have HDNF : Hid (k < r → dnF y (nth x3 (tri (r - 1) + k)) = nth x1 (tri r + (k + 1))) := Lib.hid (fun _ => by rw [← HVV.out.1, ← HVV.out.2.1, ← HVV.out.2.2]; exact hvl)
                              have hne2 : (v != l') = false := by rw [hvl]; simp
                              clear hvl
                              go_quiet ((first
                                | (go_at_call 88; first | with_reducible exact Calls.quiet_of (Q4.out _) | with_reducible exact Calls.quiet_of (Q5.out _))
                                | (go_at_call 90; with_reducible exact Calls.quiet_of (Q6.out _))))
                              go_upto_region 17 with fail
                              have tA : IntKind.i64.wrap ((m : Int) - 1) = (m : Int) - 1 := IntWalk.i64_in _ (by omega)
                              by_cases uA : r = m - 1
                              case neg =>
                                have sA : ((r : Int) == (m : Int) - 1) = false := by simp; omega
                                have HA1 : Hid (r = m - 1 → b ≤ 1) := Lib.hid (fun h => absurd h uA)
                                have HUA := Lib.hid uA
                                clear uA
                                by_cases uC : k = 0
                                case neg =>
                                  have sC : ((k : Int) == 0) = false := by simp; omega
                                  have HC1 : Hid (k = 0 → l ≤ 1) := Lib.hid (fun h => absurd h uC)
                                  have HUC := Lib.hid uC
                                  clear uC
                                  have sE : ((k : Int) == (r : Int)) = false := by simp; omega
                                  have HE1 : Hid (k = r → y ≤ 1) := Lib.hid (fun h => by omega)
                                  have HATP : Hid (atP wt m x1 x2 x3 r k) := Lib.hid (by unfold atP; rw [← HV.out.1, ← HV.out.2.1, ← HV.out.2.2]; exact ⟨HP1.out, HP2.out, by have := HP3.out; omega, HUP.out, HDNF.out, HA1.out, HC1.out, HE1.out⟩)
                                  go_wp2
                                  go_roundw
                                  case rel => exact ⟨k + 1, by omega, by go_num, HDR.out.drewN _, fun j hj => by
                                    rcases Nat.lt_or_ge j k with h | h
                                    · exact HAK.out j h
                                    · obtain rfl : j = k := by omega
                                      exact HATP.out⟩
                                  case measure => simp [intOf]; omega
                                case pos =>
                                  have sC : ((k : Int) == 0) = true := by simp; omega
                                  have HUC := Lib.hid uC
                                  clear uC
                                  by_cases vC : 1 < l
                                  case pos =>
                                    have HF := Lib.hid (HNA.out (fun h => by have h5 := h.2.2.2.2.2.2.1 HUC.out; rw [← HV.out.1] at h5; omega))
                                    go_wp2
                                    go_ret
                                    exact ⟨ret_bool HF.out.symm, HB.out.trans ((HDR.out.drewN _).below _)⟩
                                  case neg =>
                                    have HC1 : Hid (k = 0 → l ≤ 1) := Lib.hid (fun _ => by omega)
                                    have sE : ((k : Int) == (r : Int)) = false := by simp; omega
                                    have HE1 : Hid (k = r → y ≤ 1) := Lib.hid (fun h => by omega)
                                    have HATP : Hid (atP wt m x1 x2 x3 r k) := Lib.hid (by unfold atP; rw [← HV.out.1, ← HV.out.2.1, ← HV.out.2.2]; exact ⟨HP1.out, HP2.out, by have := HP3.out; omega, HUP.out, HDNF.out, HA1.out, HC1.out, HE1.out⟩)
                                    go_wp2
                                    go_roundw
                                    case rel => exact ⟨k + 1, by omega, by go_num, HDR.out.drewN _, fun j hj => by
                                      rcases Nat.lt_or_ge j k with h | h
                                      · exact HAK.out j h
                                      · obtain rfl : j = k := by omega
                                        exact HATP.out⟩
                                    case measure => simp [intOf]; omega
                              case pos =>
                                have sA : ((r : Int) == (m : Int) - 1) = true := by simp; omega
                                have HUA := Lib.hid uA
                                clear uA
                                by_cases vA : 1 < b
                                case pos =>
                                  have HF := Lib.hid (HNA.out (fun h => by have h5 := h.2.2.2.2.2.1 HUA.out; rw [← HV.out.2.2] at h5; omega))
                                  go_wp2
                                  go_ret
                                  exact ⟨ret_bool HF.out.symm, HB.out.trans ((HDR.out.drewN _).below _)⟩
                                case neg =>
                                  have HA1 : Hid (r = m - 1 → b ≤ 1) := Lib.hid (fun _ => by omega)
                                  by_cases uC : k = 0
                                  case neg =>
                                    have sC : ((k : Int) == 0) = false := by simp; omega
                                    have HC1 : Hid (k = 0 → l ≤ 1) := Lib.hid (fun h => absurd h uC)
                                    have HUC := Lib.hid uC
                                    clear uC
                                    have sE : ((k : Int) == (r : Int)) = false := by simp; omega
                                    have HE1 : Hid (k = r → y ≤ 1) := Lib.hid (fun h => by omega)
                                    have HATP : Hid (atP wt m x1 x2 x3 r k) := Lib.hid (by unfold atP; rw [← HV.out.1, ← HV.out.2.1, ← HV.out.2.2]; exact ⟨HP1.out, HP2.out, by have := HP3.out; omega, HUP.out, HDNF.out, HA1.out, HC1.out, HE1.out⟩)
                                    go_wp2
                                    go_roundw
                                    case rel => exact ⟨k + 1, by omega, by go_num, HDR.out.drewN _, fun j hj => by
                                      rcases Nat.lt_or_ge j k with h | h
                                      · exact HAK.out j h
                                      · obtain rfl : j = k := by omega
                                        exact HATP.out⟩
                                    case measure => simp [intOf]; omega
                                  case pos =>
                                    have sC : ((k : Int) == 0) = true := by simp; omega
                                    have HUC := Lib.hid uC
                                    clear uC
                                    by_cases vC : 1 < l
                                    case pos =>
                                      have HF := Lib.hid (HNA.out (fun h => by have h5 := h.2.2.2.2.2.2.1 HUC.out; rw [← HV.out.1] at h5; omega))
                                      go_wp2
                                      go_ret
                                      exact ⟨ret_bool HF.out.symm, HB.out.trans ((HDR.out.drewN _).below _)⟩
                                    case neg =>
                                      have HC1 : Hid (k = 0 → l ≤ 1) := Lib.hid (fun _ => by omega)
                                      have sE : ((k : Int) == (r : Int)) = false := by simp; omega
                                      have HE1 : Hid (k = r → y ≤ 1) := Lib.hid (fun h => by omega)
                                      have HATP : Hid (atP wt m x1 x2 x3 r k) := Lib.hid (by unfold atP; rw [← HV.out.1, ← HV.out.2.1, ← HV.out.2.2]; exact ⟨HP1.out, HP2.out, by have := HP3.out; omega, HUP.out, HDNF.out, HA1.out, HC1.out, HE1.out⟩)
                                      go_wp2
                                      go_roundw
                                      case rel => exact ⟨k + 1, by omega, by go_num, HDR.out.drewN _, fun j hj => by
                                        rcases Nat.lt_or_ge j k with h | h
                                        · exact HAK.out j h
                                        · obtain rfl : j = k := by omega
                                          exact HATP.out⟩
                                      case measure => simp [intOf]; omega
end Go.Proofs.YtdiiaallklkomaaDoor

/-
  Opening a puzzle that came in. No conditions.
-/


namespace Go.Proofs.YtdiiaallklkomaaDoor
open Go.ChangeShapes Go.WideShapes Go.ChangeAt Go.RowKit

theorem Blk.within_ {w w' : World} {g lo hi : Nat} {t : TypeId} {cs : Array Value} (h : Blk w g t cs) (hw : Within lo hi w w') (hd : g < lo ∨ hi ≤ g) : Blk w' g t cs := (hw.2.2.2.2 g h.lt hd).trans h
/-- Three slices that read as lists. -/
def PS (w : World) (A1 A2 A3 : Option Addr) (n1 n2 n3 : Nat) (x1 x2 x3 : List Int) : Prop := SI w A1 n1 x1 ∧ SI w A2 n2 x2 ∧ SI w A3 n3 x3
theorem PS.below {w w' : World} {A1 A2 A3 : Option Addr} {n1 n2 n3 B : Nat} {x1 x2 x3 : List Int} (h : PS w A1 A2 A3 n1 n2 n3 x1 x2 x3) (hb : Below B w w') (hB : w.heap.size ≤ B) : PS w' A1 A2 A3 n1 n2 n3 x1 x2 x3 := ⟨h.1.below hb hB, h.2.1.below hb hB, h.2.2.below hb hB⟩
theorem PS.lens {w : World} {A1 A2 A3 : Option Addr} {n1 n2 n3 : Nat} {x1 x2 x3 : List Int} (h : PS w A1 A2 A3 n1 n2 n3 x1 x2 x3) : x1.length = n1 ∧ x2.length = n2 ∧ x3.length = n3 := ⟨h.1.1, h.2.1.1, h.2.2.1⟩
theorem OwnP.len {w : World} {lo hi n1 c1 n2 c2 n3 c3 : Nat} {A1 A2 A3 : Option Addr} {x1 x2 x3 : List Int} (h : OwnP w lo hi A1 A2 A3 n1 c1 n2 c2 n3 c3 x1 x2 x3) : x1.length = n1 ∧ x2.length = n2 ∧ x3.length = n3 := h.lens
theorem OwnP.caps {w : World} {lo hi n1 c1 n2 c2 n3 c3 : Nat} {A1 A2 A3 : Option Addr} {x1 x2 x3 : List Int} (h : OwnP w lo hi A1 A2 A3 n1 c1 n2 c2 n3 c3 x1 x2 x3) : n1 ≤ c1 ∧ n2 ≤ c2 ∧ n3 ≤ c3 := by
  obtain ⟨p, q, _, _, _, h1, h2, h3⟩ := h; exact ⟨h1.cap, h2.cap, h3.cap⟩
theorem toPuzzle_ps (s : Int) (A1 A2 A3 : Option Addr) (n1 c1 n2 c2 n3 c3 : Nat) (x1 x2 x3 : List Int) (w : World) (h : PS w A1 A2 A3 n1 n2 n3 x1 x2 x3) (hn : n1 ≤ 1099511627776 ∧ n2 ≤ 1099511627776 ∧ n3 ≤ 1099511627776) :
    Calls Tryd.prog 32 #[.agg #[.int .i64 s, .slice A1 n1 c1, .slice A2 n2 c2, .slice A3 n3 c3]] w fun e w' => FreshP w w' e s x1 x2 x3 :=
  toPuzzle_any s A1 A2 A3 n1 c1 n2 c2 n3 c3 x1 x2 x3 w h.1 h.2.1 h.2.2 hn.1 hn.2.1 hn.2.2
theorem PS.of_trod {H : Type} {enc : TypeId × Value → H} {W : World} {q : Nat} {f : Nat → Bool} {cs : Array Value} {d : DataW H} {p : List MemPlace} (hsz : cs.size = 4)
    (h0 : DataW.Trod enc Tryd.prog W q f true 51 (.agg cs) d p) : ∃ (s : Int) (A1 A2 A3 : Option Addr) (n1 c1 n2 c2 n3 c3 : Nat) (x1 x2 x3 : List Int), cs = #[.int .i64 s, .slice A1 n1 c1, .slice A2 n2 c2, .slice A3 n3 c3] ∧ PS W A1 A2 A3 n1 n2 n3 x1 x2 x3 ∧
      (n1 ≤ 9223372036854775807 ∧ n2 ≤ 9223372036854775807 ∧ n3 ≤ 9223372036854775807) := by
  obtain ⟨v0, v1, v2, v3, rfl⟩ : ∃ v0 v1 v2 v3, cs = #[v0, v1, v2, v3] := by
    obtain ⟨l⟩ := cs
    match l, hsz with
    | [a, b, c, d], _ => exact ⟨a, b, c, d, rfl⟩
  obtain ⟨fuel, hf⟩ := h0
  obtain ⟨xs, n, _, _, _, hlen, hx⟩ := DataW.trod_struct Tryd.underlying51 hf
  have e0 := hx 0 _ rfl
  have e1 := hx 1 _ rfl
  have e2 := hx 2 _ rfl
  have e3 := hx 3 _ rfl
  have oneInts : ∀ (v : Value) (y : DataW H × List MemPlace), DataW.trod enc Tryd.prog W q f true n 24 [v] = some y → ∃ A n' c' l, v = .slice A n' c' ∧ SI W A n' l ∧ n' ≤ 9223372036854775807 := fun v y hy => by
    rcases open_ints Tryd.underlying24 Tryd.underlying3 (by kernel_rfl) hy with ⟨hcs, _⟩ | ⟨x, l, c, zs, hcs, _, hl, hm, hzs, _, hcell, _⟩
    · exact ⟨none, 0, 0, [], by simpa using hcs, SI.nil _ _, by omega⟩
    · exact ⟨some x, l, c, zs.take l, by simpa using hcs, SI.of_cells (by rw [hzs]; split <;> omega) hcell, by unfold maxLen at hm; omega⟩
  obtain ⟨y0, y1, y2, y3, rfl⟩ : ∃ y0 y1 y2 y3, xs = [y0, y1, y2, y3] := by
    match xs, hlen with
    | [a, b, c, d], _ => exact ⟨a, b, c, d, rfl⟩
  have ci : Tryd.prog.cellsOf 3 = 1 := by kernel_rfl
  have cs : Tryd.prog.cellsOf 24 = 1 := by kernel_rfl
  have k0 : DataW.trod enc Tryd.prog W q f true n 3 [v0] = some y0 := by simpa [ci, Value.cells] using e0
  have k1 : DataW.trod enc Tryd.prog W q f true n 24 [v1] = some y1 := by simpa [cs, Value.cells] using e1
  have k2 : DataW.trod enc Tryd.prog W q f true n 24 [v2] = some y2 := by simpa [cs, Value.cells] using e2
  have k3 : DataW.trod enc Tryd.prog W q f true n 24 [v3] = some y3 := by simpa [cs, Value.cells] using e3
  obtain ⟨z, hz, _, _⟩ := DataW.trod_int Tryd.underlying3 k0
  obtain ⟨B1, m1, d1, l1, h1, s1, b1⟩ := oneInts v1 y1 k1
  obtain ⟨B2, m2, d2, l2, h2, s2, b2⟩ := oneInts v2 y2 k2
  obtain ⟨B3, m3, d3, l3, h3, s3, b3⟩ := oneInts v3 y3 k3
  have hz' : v0 = .int .i64 z := by simpa using hz
  subst hz' h1 h2 h3
  exact ⟨z, B1, B2, B3, m1, d1, m2, d2, m3, d3, l1, l2, l3, rfl, ⟨s1, s2, s3⟩, b1, b2, b3⟩
end Go.Proofs.YtdiiaallklkomaaDoor

/-
  PuzzleOk and WeightedOk on both sides. Conditions: lengths below 2^40.
-/



namespace Go.Proofs.YtdiiaallklkomaaDoor
open Go.RowKit
set_option maxHeartbeats 1000000 in
theorem specWeightedOk_any (s : Int) (A1 A2 A3 : Option Addr) (n1 c1 n2 c2 n3 c3 : Nat) (x1 x2 x3 : List Int) (w : World) (h : PS w A1 A2 A3 n1 n2 n3 x1 x2 x3) (_hc3 : n3 ≤ c3) (hn : n1 ≤ 1099511627776 ∧ n2 ≤ 1099511627776 ∧ n3 ≤ 1099511627776) :
    Calls Tryd.prog 60 #[.agg #[.int .i64 s, .slice A1 n1 c1, .slice A2 n2 c2, .slice A3 n3 c3]] w fun e w' => e = .returned (.bool (pzB true s x1 x2 x3)) ∧ Below w.heap.size w w' := by
  obtain ⟨w1, hw1⟩ : ∃ w1, w1 = w.alloc (.cells #[.int .i64 s, .slice A1 n1 c1, .slice A2 n2 c2, .slice A3 n3 c3] 54) := ⟨_, rfl⟩
  obtain ⟨g, hg⟩ : ∃ g, g = w.heap.size := ⟨_, rfl⟩
  have hk : Blk w1 g 54 #[.int .i64 s, .slice A1 n1 c1, .slice A2 n2 c2, .slice A3 n3 c3] := by rw [hw1, hg]; exact Blk.new _ _ _
  have hb : Below w.heap.size w w1 := by rw [hw1]; exact Below.alloc_self _ _
  have hsz : w.heap.size ≤ w1.heap.size := hb.size
  have HB1 := Lib.hid hb
  have HW := Lib.hid hw1
  have HG := Lib.hid hg
  have HK := Lib.hid hk
  have hs := h.below hb (Nat.le_refl _)
  have HSZ := Lib.hid hsz
  have HGL := Lib.hid hk.lt
  have HC := Lib.hid (l5Ok_any s A1 A2 A3 n1 c1 n2 c2 n3 c3 x1 x2 x3 true w1 hs.1 hs.2.1 hs.2.2 hn)
  obtain ⟨q0, q1, q2, q3⟩ := cells4 hk
  clear hk hb hs hsz hw1 hg h _hc3 hn
  go_enter Tryd.func60, Tryd.ntmps60
  go_upto_region 1 with fail
  rw [← HW.out, ← HG.out]
  go_wp2_with (go_at_call 77; refine HC.out.mono ?_; rintro e w2 ⟨rfl, hb2⟩; have HB2 := Lib.hid hb2; clear hb2)
  go_ret
  exact ⟨rfl, HB1.out.trans (HB2.out.mono HSZ.out)⟩
set_option maxHeartbeats 1000000 in
theorem implWeightedOk_any (s : Int) (A1 A2 A3 : Option Addr) (n1 c1 n2 c2 n3 c3 : Nat) (x1 x2 x3 : List Int) (w : World) (h : PS w A1 A2 A3 n1 n2 n3 x1 x2 x3) (hc3 : n3 ≤ c3) (_hn : n1 ≤ 1099511627776 ∧ n2 ≤ 1099511627776 ∧ n3 ≤ 1099511627776) :
    Calls Tryd.prog 61 #[.agg #[.int .i64 s, .slice A1 n1 c1, .slice A2 n2 c2, .slice A3 n3 c3]] w fun e w' => e = .returned (.bool (pzB true s x1 x2 x3)) ∧ Below w.heap.size w w' := by
  obtain ⟨w1, hw1⟩ : ∃ w1, w1 = w.alloc (.cells #[.int .i64 s, .slice A1 n1 c1, .slice A2 n2 c2, .slice A3 n3 c3] 54) := ⟨_, rfl⟩
  obtain ⟨g, hg⟩ : ∃ g, g = w.heap.size := ⟨_, rfl⟩
  have hk : Blk w1 g 54 #[.int .i64 s, .slice A1 n1 c1, .slice A2 n2 c2, .slice A3 n3 c3] := by rw [hw1, hg]; exact Blk.new _ _ _
  have hb : Below w.heap.size w w1 := by rw [hw1]; exact Below.alloc_self _ _
  have hsz : w.heap.size ≤ w1.heap.size := hb.size
  have HB1 := Lib.hid hb
  have HW := Lib.hid hw1
  have HG := Lib.hid hg
  have HK := Lib.hid hk
  have hs := h.below hb (Nat.le_refl _)
  have HSZ := Lib.hid hsz
  have HGL := Lib.hid hk.lt
  have HS : Hid (SI w1 A1 n1 x1 ∧ SI w1 A2 n2 x2 ∧ SI w1 A3 n3 x3) := Lib.hid hs
  have HC3 := Lib.hid hc3
  have hq := cells4 hk
  have hqd : w1.drew.cell? ⟨g, 0, none⟩ = some (.int .i64 s) ∧ w1.drew.cell? ⟨g, 1, none⟩ = some (.slice A1 n1 c1) ∧ w1.drew.cell? ⟨g, 2, none⟩ = some (.slice A2 n2 c2) ∧ w1.drew.cell? ⟨g, 3, none⟩ = some (.slice A3 n3 c3) := hq
  have HQ := Lib.hid hq
  have HQD := Lib.hid hqd
  clear hk hb hs hsz hw1 hg h hc3 _hn hq hqd
  go_enter Tryd.func61, Tryd.ntmps61
  go_upto_region 1 with fail
  rw [← HW.out, ← HG.out]
  go_region_held3 (fun w' => w'.cell? ⟨g, 0, none⟩ = some (.int .i64 s) ∧ w'.cell? ⟨g, 1, none⟩ = some (.slice A1 n1 c1) ∧ w'.cell? ⟨g, 2, none⟩ = some (.slice A2 n2 c2) ∧ w'.cell? ⟨g, 3, none⟩ = some (.slice A3 n3 c3))
    (first | exact HQD.out | exact HQ.out | exact K4 | exact K5)
    (first
      | (go_at_call 79
         with_reducible refine (weightedTriangles_any _).mono ?_
         rintro e w4 ⟨AR, rfl, hr4, hb4⟩
         have hb4' : Below w1.heap.size w1 w4 := ((Below.refl _ _).drew).trans hb4
         have K4 := cells4 (HK.out.below hb4' HGL.out)
         have HR4 := Lib.hid hr4
         have S1 := Lib.hid (HS.out.1.below hb4' (Nat.le_refl _))
         have S2 := Lib.hid (HS.out.2.1.below hb4' (Nat.le_refl _))
         have S3 := Lib.hid (HS.out.2.2.below hb4' (Nat.le_refl _))
         have HB4 := Lib.hid hb4'
         clear hr4 hb4 hb4')
      | (go_at_call 78
         with_reducible refine (isMadeOf_any true s A1 A2 A3 n1 c1 n2 c2 n3 c3 AR 6 6 x1 x2 x3 _ S1.out S2.out S3.out HC3.out HR4.out).mono ?_
         rintro e w5 ⟨rfl, hb5⟩
         have HB5 : Hid (Below w1.heap.size w1 w5) := Lib.hid (HB4.out.trans (hb5.mono HB4.out.size))
         have K5 := cells4 (HK.out.below HB5.out HGL.out)
         clear hb5))
  all_goals
    (go_wp2
     go_ret
     exact ⟨rfl, HB1.out.trans (HB5.out.mono HSZ.out)⟩)
end Go.Proofs.YtdiiaallklkomaaDoor

/-
  The helpers of the exact laws at terms: copying, measuring, comparing. Conditions: lengths below 2^40.
-/

namespace Go.Proofs.YtdiiaallklkomaaDoor
open Go.RowKit

theorem grown_set (w : World) (a : Addr) (u : Value) : w.grownBy (w.setCell a u) (some a.block) :=
  ⟨rfl, rfl, rfl, by simp [World.setCell], fun k _ hk => Below.heap_setCell w a u k (fun e => hk (by rw [e]))⟩
theorem results_row {P : Program} {fn : Func} {p : Tmp} {ty : TypeId} (h : fn.results = #[.cell p ty]) (tmps : Array Value) (w : World) (g : Nat) (t : TypeId) (cs : Array Value) (d : TypeDesc)
    (hp : tmps.getD p undef = .pointer (some ⟨g, 0, none⟩)) (hg : Blk w g t cs) (hu : P.underlying ty = some d) (hd : (match d with | .struct _ | .array _ _ => true | _ => false) = true) (hi : (P.info? ty).map (·.size) = some cs.size) :
    (results fn tmps).run P w = .ok (.agg cs) w :=
  results_cell_row h tmps w g t cs (0, 0) d hp hg hu hd hi

/-- The terms copied after k rounds. -/
def copT (ts : List Tm) (k : Nat) : List Tm := ts.take k ++ zeroT (ts.length - k)
theorem copT_zero (ts : List Tm) : copT ts 0 = zeroT ts.length := by simp [copT]
theorem copT_all (ts : List Tm) : copT ts ts.length = ts := by simp [copT, zeroT]
theorem copT_succ {ts : List Tm} {k : Nat} (h : k < ts.length) : (copT ts k).set k ((tm ts k).1, (tm ts k).2) = copT ts (k + 1) := by
  unfold copT zeroT
  have hl : (ts.take k).length = k := by simp; omega
  rw [List.set_append_right _ _ (by omega), hl]
  have e : ts.length - k = (ts.length - (k + 1)) + 1 := by omega
  rw [e, List.replicate_succ, Nat.sub_self, List.set_cons_zero, take_tm h, List.append_assoc]
  rfl

end Go.Proofs.YtdiiaallklkomaaDoor

/-
  The helpers of the exact laws at terms: measuring and comparing. Conditions: lengths below 2^40.
-/




namespace Go.Proofs.YtdiiaallklkomaaDoor
open Go.RowKit

section
variable {P : Program} {ops : Array Oper} {C : World → Prop} {Q : Act → Prop} {a : Act} {o : Oper} {rest : List Oper}
theorem tq_class {id : Nat} {Q : Exit → Act → World → Prop} {w : World} {l : List Oper} (C : World → Prop) (hm : P.follows .mixedOrders = true) (hB : Region.lexB .any l.toArray = true) (hC : C w.drew)
    (h : wpQuiet P l.toArray C (fun a' => ∀ w', C w' → Q .normal a' w') l a) : (Code.region id l.toArray true).wp P Q a w :=
  wp_region_quiet hm hB hC (by simpa using h)
theorem tq_move (hg : o.guard = none) (x : Operand) (ho : o.op = .move x) (h : wpQuiet P ops C Q rest (a.put o.dst (a.eval x))) : wpQuiet P ops C Q (o :: rest) a := by
  refine wpQuiet_step fun K hK => ?_
  simp only [Region.wanted, hg, if_true]
  refine ⟨a.eval x, fun w _ => ?_, hK _ h⟩
  unfold Oper.quietAt execOp
  simp only [ho]
  exact ⟨rfl, rfl⟩
theorem tq_load (hg : o.guard = none) (ty : TypeId) (x : Operand) (ho : o.op = .load ty x) (b off : Nat) (hx : a.eval x = .pointer (some ⟨b, off, none⟩)) (cs : List Value) (d : TypeDesc)
    (hb : ∀ w, C w → w.rangeAt b off cs) (hu : P.underlying ty = some d) (hd : d.isRow = true) (hi : (P.info? ty).map (·.size) = some cs.length) (h : wpQuiet P ops C Q rest (a.put o.dst (.agg cs.toArray))) : wpQuiet P ops C Q (o :: rest) a := by
  refine wpQuiet_step fun K hK => ?_
  simp only [Region.wanted, hg, if_true]
  refine ⟨.agg cs.toArray, fun w hw => ?_, hK _ h⟩
  unfold Oper.quietAt execOp
  simp only [ho, hx, Instr.loadAt, Instr.sureAddr, Sem.run_bind, Sem.run_pure, Result.andThen_ok, run_loadVar_mid w b off ty cs d (hb w hw) hu hd hi]
  exact ⟨rfl, rfl⟩
end
/-- Worlds in which nothing has turned that was there. -/
def AfterT (wr w' : World) : Prop := Below wr.heap.size wr w'

/-- Equality of two lists of terms as a Bool. -/
def eqTs (ts us : List Tm) : Bool := decide (ts = us)
theorem eqTs_self (ts : List Tm) : eqTs ts ts = true := by simp [eqTs]
theorem eqTs_len {ts us : List Tm} (h : ts.length ≠ us.length) : eqTs ts us = false := by
  simp only [eqTs, decide_eq_false_iff_not]; intro e; exact h (by rw [e])
theorem eqTs_all {ts us : List Tm} (hl : ts.length = us.length) (h : ∀ j, j < ts.length → tm ts j = tm us j) : eqTs ts us = true := by
  simp only [eqTs, decide_eq_true_eq]
  exact tm_ext hl h
theorem eqTs_ne {ts us : List Tm} {k : Nat} (h : tm ts k ≠ tm us k) : eqTs ts us = false := by
  simp only [eqTs, decide_eq_false_iff_not]; intro e; exact h (by rw [e])
theorem TS.range {w : World} {b o k : Nat} {v : Value} {x : Int} (h0 : w.cell? ⟨b, o + k * 2, none⟩ = some v) (h1 : w.cell? ⟨b, o + k * 2 + 1, none⟩ = some (.int .i64 x)) : w.rangeAt b (o + k * 2) [v, .int .i64 x] := by
  intro j u hj
  match j, hj with
  | 0, hj => simp at hj; subst hj; exact h0
  | 1, hj => simp at hj; subst hj; exact h1

end Go.Proofs.YtdiiaallklkomaaDoor

/-
  Keys of exponents and comparison of terms, on both sides. No conditions but the exponents' bounds.
-/




namespace Go.Proofs.YtdiiaallklkomaaDoor
open Go.RowKit

theorem nth_drop (e : List Int) (m k : Nat) : nth (e.drop m) k = nth e (m + k) := by simp [nth, List.getD]
theorem keyD {e : List Int} (hl : e.length = 7) (hs : smallE e = true) (m : Nat) : 0 ≤ key7 (e.drop m) ∧ key7 (e.drop m) ≤ 562949953421312 := by
  have h := key7_bound (e.drop m) (fun k hk => by rw [nth_drop]; exact smallE_nth hs (by simp at hk; omega))
  have h1 : (128 : Int) ^ (e.drop m).length ≤ 562949953421312 := by
    have : (e.drop m).length ≤ 7 := by simp; omega
    generalize (e.drop m).length = q at this
    match q, this with
    | 0, _ | 1, _ | 2, _ | 3, _ | 4, _ | 5, _ | 6, _ | 7, _ => decide
  omega
/-- What comparing two numbers answers. -/
def cmpI (x y : Int) : Int := if x < y then -1 else if y < x then 1 else 0
theorem isNaN_any (x : Int) (w : World) : Calls Tryd.prog 114 #[.int .i64 x] w fun r w' => r = .returned (.bool false) ∧ w' = w := by
  go_enter Tryd.func114, Tryd.ntmps114
  go_wp2
  go_ret
  exact ⟨rfl, rfl⟩
theorem compare_any (x y : Int) (w : World) : Calls Tryd.prog 99 #[.int .i64 x, .int .i64 y] w fun r w' => r = .returned (.int .i64 (cmpI x y)) ∧ w' = w := by
  unfold cmpI
  by_cases h1 : x < y
  · rw [if_pos h1]
    go_enter Tryd.func99, Tryd.ntmps99
    go_wp2_with (go_at_call 114; refine (isNaN_any _ _).mono ?_; rintro e w1 ⟨rfl, rfl⟩)
    go_ret
    exact ⟨rfl, rfl⟩
  · rw [if_neg h1]
    by_cases h2 : y < x
    · rw [if_pos h2]
      go_enter Tryd.func99, Tryd.ntmps99
      go_wp2_with (go_at_call 114; refine (isNaN_any _ _).mono ?_; rintro e w1 ⟨rfl, rfl⟩)
      go_ret
      exact ⟨rfl, rfl⟩
    · rw [if_neg h2]
      go_enter Tryd.func99, Tryd.ntmps99
      go_wp2_with (go_at_call 114; refine (isNaN_any _ _).mono ?_; rintro e w1 ⟨rfl, rfl⟩)
      go_ret
      exact ⟨rfl, rfl⟩

theorem compare_q (x y : Int) (w : World) : Calls Tryd.prog 99 #[.int .i64 x, .int .i64 y] w fun r w' => r = .returned (.int .i64 (cmpI x y)) ∧ Drawn w w' :=
  (compare_any x y w).mono fun _ _ ⟨he, hw⟩ => ⟨he, hw ▸ Drawn.refl _⟩
/-- What comparing two terms answers: the greater key stands first. -/
def cmpK (a b : List Int) : Int := if key7 b < key7 a then -1 else if key7 a < key7 b then 1 else 0
theorem smallE_P {e : List Int} (h : smallE e = true) : ∀ k, k < e.length → 0 ≤ nth e k ∧ nth e k ≤ 127 := fun _ hk => by have := smallE_nth h hk; omega
/-- What comparing two lists of exponents answers: from the last one, the greater one stands first. -/
def cmpX (xs ys : List Int) : Nat → Int
  | 0 => 0
  | m + 1 => if nth xs m = nth ys m then cmpX xs ys m else cmpI (nth ys m) (nth xs m)
theorem cmpX_eq {xs ys : List Int} {m : Nat} (h : nth xs m = nth ys m) : cmpX xs ys (m + 1) = cmpX xs ys m := by
  show (if nth xs m = nth ys m then cmpX xs ys m else cmpI (nth ys m) (nth xs m)) = _; rw [if_pos h]
theorem cmpX_ne {xs ys : List Int} {m : Nat} (h : ¬ nth xs m = nth ys m) : cmpX xs ys (m + 1) = cmpI (nth ys m) (nth xs m) := by
  show (if nth xs m = nth ys m then cmpX xs ys m else cmpI (nth ys m) (nth xs m)) = _; rw [if_neg h]
theorem cmpK_eq {a b : List Int} (hl : a.length = b.length) (h : ∀ j, j < a.length → nth a j = nth b j) : cmpK a b = 0 := by
  have e : a = b := by
    apply List.ext_getElem hl
    intro j h1 h2
    have := h j h1
    rwa [nth_get h1, nth_get h2] at this
  subst e
  unfold cmpK
  rw [if_neg (by omega), if_neg (by omega)]
theorem cmpK_ne {a b : List Int} {i : Nat} (ha : a.length = 7) (hb : b.length = 7) (sa : ∀ k, k < 7 → 0 ≤ nth a k ∧ nth a k ≤ 127) (sb : ∀ k, k < 7 → 0 ≤ nth b k ∧ nth b k ≤ 127) (hi : i < 7) (h : ∀ j, i < j → j < 7 → nth a j = nth b j) (hne : nth a i ≠ nth b i) :
    cmpK a b = cmpI (nth b i) (nth a i) := by
  unfold cmpK cmpI
  by_cases h1 : nth b i < nth a i
  · have := key7_lt b a i (by omega) (by rw [hb]; exact sb) (by rw [ha]; exact sa) (by omega) (fun j h1 h2 => (h j h1 (by omega)).symm) h1
    rw [if_pos this, if_pos h1]
  · have := key7_lt a b i (by omega) (by rw [ha]; exact sa) (by rw [hb]; exact sb) (by omega) (fun j h1 h2 => h j h1 (by omega)) (by omega)
    rw [if_neg (by omega), if_pos this, if_neg h1, if_pos (by omega)]
theorem cmpX_key {a b : List Int} (ha : a.length = 7) (hb : b.length = 7) (sa : ∀ k, k < 7 → 0 ≤ nth a k ∧ nth a k ≤ 127) (sb : ∀ k, k < 7 → 0 ≤ nth b k ∧ nth b k ≤ 127) :
    ∀ m, m ≤ 7 → (∀ j, m ≤ j → j < 7 → nth a j = nth b j) → cmpX a b m = cmpK a b
  | 0, _, h => (cmpK_eq (by omega) fun j hj => h j (by omega) (by omega)).symm
  | m + 1, hm, h => by
    by_cases e : nth a m = nth b m
    · rw [cmpX_eq e]
      exact cmpX_key ha hb sa sb m (by omega) fun j h1 h2 => by
        rcases Nat.lt_or_ge m j with h3 | h3
        · exact h j (by omega) h2
        · obtain rfl : j = m := by omega
          exact e
    · rw [cmpX_ne e]
      exact (cmpK_ne ha hb sa sb (by omega) (fun j h1 h2 => h j (by omega) h2) e).symm

theorem arrC_map {l : List Int} (hl : l.length = 7) : arrC l = (l.map (Value.int .i64)).toArray := by
  match l, hl with
  | [a, b, c, d, e, f, g], _ => rfl
theorem quiet_loadcell1 {C : World → Prop} {a : Act} {o : Oper} {K : Act → Prop} (ty : TypeId) (x : Operand) (ho : o.op = .load ty x) (b off : Nat) (hx : a.eval x = .pointer (some ⟨b, off, none⟩)) (v : Value)
    (hb : ∀ w, C w → w.cell? ⟨b, off, none⟩ = some v) (hu : ty = 24) (hk : K (a.put o.dst v)) : o.quiet Tryd.prog a C K :=
  ⟨_, fun w hw => by
    subst hu
    have hc := hb w hw
    have hl : (loadVar 24 ⟨b, off, none⟩).run Tryd.prog w = .ok v w := by
      simp [loadVar, isAgg, underlying, Tryd.underlying24, hc, Result.andThen]
    unfold Oper.quietAt execOp
    simp only [ho, hx, Instr.loadAt, Instr.sureAddr, Sem.run_bind, Sem.run_pure, Result.andThen_ok, hl]
    exact ⟨rfl, rfl⟩, hk⟩
/-- A load at a class of worlds, the load's own run given. -/
theorem quiet_loadrun {C : World → Prop} {a : Act} {o : Oper} {K : Act → Prop} (ty : TypeId) (x : Operand) (ho : o.op = .load ty x) (b off : Nat) (hx : a.eval x = .pointer (some ⟨b, off, none⟩)) (v : Value)
    (hb : ∀ w, C w → (loadVar ty ⟨b, off, none⟩).run Tryd.prog w = .ok v w) (hk : K (a.put o.dst v)) : o.quiet Tryd.prog a C K :=
  ⟨_, fun w hw => by
    have hl := hb w hw
    unfold Oper.quietAt execOp
    simp only [ho, hx, Instr.loadAt, Instr.sureAddr, Sem.run_bind, Sem.run_pure, Result.andThen_ok, hl]
    exact ⟨rfl, rfl⟩, hk⟩
end Go.Proofs.YtdiiaallklkomaaDoor

/-
  Puzzles as texts: FormatPuzzle on both sides. Conditions: at most 2^20 numbers in a list, numbers that an int holds.
-/




namespace Go.Proofs.YtdiiaallklkomaaDoor
open Go.RowKit

/-- A puzzle's text, as bytes. -/
def fzL (s : Int) (x1 x2 x3 : List Int) : List Int := if pzB true s x1 x2 x3 = true then fmsL x1 ++ [47] ++ fmsL x2 ++ [47] ++ fmsL x3 else []
set_option maxRecDepth 100000 in
set_option maxHeartbeats 2000000 in
theorem specFpz_any (s : Int) (A1 A2 A3 : Option Addr) (n1 c1 n2 c2 n3 c3 : Nat) (x1 x2 x3 : List Int) (w : World) (h : PS w A1 A2 A3 n1 n2 n3 x1 x2 x3) (hc3 : n3 ≤ c3) (hn : n1 ≤ 1048576 ∧ n2 ≤ 1048576 ∧ n3 ≤ 1048576) (hf : FitI x1 ∧ FitI x2 ∧ FitI x3) :
    Calls Tryd.prog 31 #[.agg #[.int .i64 s, .slice A1 n1 c1, .slice A2 n2 c2, .slice A3 n3 c3]] w fun e w' => e = .returned (.string (strOfNums (fzL s x1 x2 x3))) ∧ Below w.heap.size w w' := by
  obtain ⟨w1, hw1⟩ : ∃ w1, w1 = w.alloc (.cells #[.int .i64 s, .slice A1 n1 c1, .slice A2 n2 c2, .slice A3 n3 c3] 54) := ⟨_, rfl⟩
  obtain ⟨g, hg⟩ : ∃ g, g = w.heap.size := ⟨_, rfl⟩
  have hk : Blk w1 g 54 #[.int .i64 s, .slice A1 n1 c1, .slice A2 n2 c2, .slice A3 n3 c3] := by rw [hw1, hg]; exact Blk.new _ _ _
  have hb : Below w.heap.size w w1 := by rw [hw1]; exact Below.alloc_self _ _
  have HB1 := Lib.hid hb
  have HW := Lib.hid hw1
  have HG := Lib.hid hg
  have HK := Lib.hid hk
  have hs := h.below hb (Nat.le_refl _)
  have HP1 := Lib.hid hs.1
  have HP2 := Lib.hid hs.2.1
  have HP3 := Lib.hid hs.2.2
  have HN1 := Lib.hid hn.1
  have HN2 := Lib.hid hn.2.1
  have HN3 := Lib.hid hn.2.2
  have HF1 := Lib.hid hf.1
  have HF2 := Lib.hid hf.2.1
  have HF3 := Lib.hid hf.2.2
  have HL := Lib.hid h.lens
  have HZ1 : Hid (w1.heap.size ≤ w1.heap.size) := Lib.hid (Nat.le_refl _)
  have HC := Lib.hid (specWeightedOk_any s A1 A2 A3 n1 c1 n2 c2 n3 c3 x1 x2 x3 w1 hs hc3 (by omega))
  obtain ⟨q0, q1, q2, q3⟩ := cells4 hk
  clear hk hb hs hw1 hg h hc3 hn hf
  cases hz : pzB true s x1 x2 x3 with
  | false =>
    rw [hz] at HC
    have HE : Hid (fzL s x1 x2 x3 = []) := Lib.hid (by unfold fzL; rw [if_neg (by rw [hz]; decide)])
    clear hz
    go_enter Tryd.func31, Tryd.ntmps31
    go_upto_region 1 with fail
    rw [← HW.out, ← HG.out]
    go_wp2_with (go_at_call 60; (with_reducible refine HC.out.mono ?_); rintro e w2 ⟨rfl, hb2⟩; have HB2 := Lib.hid hb2; clear hb2)
    go_ret
    exact ⟨by rw [HE.out]; rfl, HB1.out.trans (HB2.out.mono HB1.out.size)⟩
  | true =>
    rw [hz] at HC
    have HE : Hid (fzL s x1 x2 x3 = fmsL x1 ++ [47] ++ fmsL x2 ++ [47] ++ fmsL x3) := Lib.hid (by unfold fzL; rw [if_pos hz])
    clear hz
    go_enter Tryd.func31, Tryd.ntmps31
    go_upto_region 1 with fail
    rw [← HW.out, ← HG.out]
    go_upto_region 3 with (go_at_call 60; (with_reducible refine HC.out.mono ?_); rintro e w2 ⟨rfl, hb2⟩; have HB2 := Lib.hid hb2; clear hb2)
    have HBW : Hid (Below w.heap.size w w2) := Lib.hid (HB1.out.trans (HB2.out.mono HB1.out.size))
    have HBZ : Hid (w.heap.size ≤ w2.heap.size) := Lib.hid HBW.out.size
    have HK2 := Lib.hid (HK.out.below HB2.out HK.out.lt)
    obtain ⟨s1, hs1⟩ : ∃ s, s = strOfNums (fmsL x1) := ⟨_, rfl⟩
    have CA1 : Hid (∀ u, AfterT w2 u → Calls Tryd.prog 11 #[.slice A1 n1 c1] u (fun r u2 => r = .returned (.string s1) ∧ AfterT w2 u2)) := Lib.hid (fun u hu => by rw [hs1]; exact (specFms_any A1 n1 c1 x1 u ((HP1.out.below HB2.out HZ1.out).below hu (Nat.le_refl _)) HN1.out HF1.out).mono fun r u2 ⟨e1, e2⟩ => ⟨e1, Below.trans hu (e2.mono hu.size)⟩)
    have C1 : Hid (∀ u, AfterT w2 u → u.cell? ⟨g, 1, none⟩ = some (.slice A1 n1 c1)) := Lib.hid (fun u hu => (HK2.out.below hu HK2.out.lt).cell 1)
    have Z1 : Hid (s1.size ≤ 23068672) := Lib.hid (by rw [hs1, strOfNums_size]; have h1 := txP_len HF1.out x1.length (Nat.le_refl _); have h2 := HN1.out; have h3 := HL.out; unfold fmsL; omega)
    obtain ⟨s2, hs2⟩ : ∃ s, s = strOfNums (fmsL x2) := ⟨_, rfl⟩
    have CA2 : Hid (∀ u, AfterT w2 u → Calls Tryd.prog 11 #[.slice A2 n2 c2] u (fun r u2 => r = .returned (.string s2) ∧ AfterT w2 u2)) := Lib.hid (fun u hu => by rw [hs2]; exact (specFms_any A2 n2 c2 x2 u ((HP2.out.below HB2.out HZ1.out).below hu (Nat.le_refl _)) HN2.out HF2.out).mono fun r u2 ⟨e1, e2⟩ => ⟨e1, Below.trans hu (e2.mono hu.size)⟩)
    have C2 : Hid (∀ u, AfterT w2 u → u.cell? ⟨g, 2, none⟩ = some (.slice A2 n2 c2)) := Lib.hid (fun u hu => (HK2.out.below hu HK2.out.lt).cell 2)
    have Z2 : Hid (s2.size ≤ 23068672) := Lib.hid (by rw [hs2, strOfNums_size]; have h1 := txP_len HF2.out x2.length (Nat.le_refl _); have h2 := HN2.out; have h3 := HL.out; unfold fmsL; omega)
    obtain ⟨s3, hs3⟩ : ∃ s, s = strOfNums (fmsL x3) := ⟨_, rfl⟩
    have CA3 : Hid (∀ u, AfterT w2 u → Calls Tryd.prog 11 #[.slice A3 n3 c3] u (fun r u2 => r = .returned (.string s3) ∧ AfterT w2 u2)) := Lib.hid (fun u hu => by rw [hs3]; exact (specFms_any A3 n3 c3 x3 u ((HP3.out.below HB2.out HZ1.out).below hu (Nat.le_refl _)) HN3.out HF3.out).mono fun r u2 ⟨e1, e2⟩ => ⟨e1, Below.trans hu (e2.mono hu.size)⟩)
    have C3 : Hid (∀ u, AfterT w2 u → u.cell? ⟨g, 3, none⟩ = some (.slice A3 n3 c3)) := Lib.hid (fun u hu => (HK2.out.below hu HK2.out.lt).cell 3)
    have Z3 : Hid (s3.size ≤ 23068672) := Lib.hid (by rw [hs3, strOfNums_size]; have h1 := txP_len HF3.out x3.length (Nat.le_refl _); have h2 := HN3.out; have h3 := HL.out; unfold fmsL; omega)
    have HS : Hid (strOfNums (fzL s x1 x2 x3) = s1 ++ (⟨#[47]⟩ : ByteArray) ++ s2 ++ (⟨#[47]⟩ : ByteArray) ++ s3) := Lib.hid (by rw [HE.out, strOfNums_append, strOfNums_append, strOfNums_append, strOfNums_append, hs1, hs2, hs3]; rfl)
    have zz : ∀ a : ByteArray, (a ++ (⟨#[47]⟩ : ByteArray)).size = a.size + 1 := fun a => by rw [ByteArray.size_append]; rfl
    have D1 : Hid (s1.size + (⟨#[47]⟩ : ByteArray).size ≤ 9223372036854775807) := Lib.hid (by have := Z1.out; show s1.size + 1 ≤ _; omega)
    have D2 : Hid ((s1 ++ (⟨#[47]⟩ : ByteArray)).size + s2.size ≤ 9223372036854775807) := Lib.hid (by have := Z1.out; have := Z2.out; rw [zz]; omega)
    have D3 : Hid ((s1 ++ (⟨#[47]⟩ : ByteArray) ++ s2).size + (⟨#[47]⟩ : ByteArray).size ≤ 9223372036854775807) := Lib.hid (by have := Z1.out; have := Z2.out; rw [ByteArray.size_append, zz]; show s1.size + 1 + s2.size + 1 ≤ _; omega)
    have D4 : Hid ((s1 ++ (⟨#[47]⟩ : ByteArray) ++ s2 ++ (⟨#[47]⟩ : ByteArray)).size + s3.size ≤ 9223372036854775807) := Lib.hid (by have := Z1.out; have := Z2.out; have := Z3.out; rw [zz, ByteArray.size_append, zz]; omega)
    clear hs1 hs2 hs3 zz q0 q1 q2 q3
    refine tq_class (AfterT w2) (by kernel_rfl) (by kernel_rfl) (Below.refl _ _).drew ?_
    go_big_quiet_want
    go_big_quiet_op
    first | go_big_quiet_on | (refine ⟨_, fun _ _ => rfl, ?_⟩; go_big_quiet_on)
    go_big_quiet_want
    refine quiet_loadcell1 24 (.tmp 6) rfl g 1 rfl _ C1.out rfl ?_
    go_big_quiet_on
    go_simp
    go_big_quiet_want
    go_big_quiet_op
    refine ⟨.string s1, fun u hu => CA1.out u hu, ?_⟩
    go_big_quiet_on
    go_big_quiet_want
    go_big_quiet_op
    refine ⟨.string (s1 ++ (⟨#[47]⟩ : ByteArray)), fun u hu => by rw [if_neg (by have := Z1.out; have := Z2.out; have := Z3.out; have e47 : (⟨#[47]⟩ : ByteArray).size = 1 := rfl; (try simp only [ByteArray.size_append]); omega)]; exact ⟨rfl, rfl⟩, ?_⟩
    go_big_quiet_on
    go_big_quiet_want
    go_big_quiet_op
    first | go_big_quiet_on | (refine ⟨_, fun _ _ => rfl, ?_⟩; go_big_quiet_on)
    go_big_quiet_want
    refine quiet_loadcell1 24 (.tmp 10) rfl g 2 rfl _ C2.out rfl ?_
    go_big_quiet_on
    go_simp
    go_big_quiet_want
    go_big_quiet_op
    refine ⟨.string s2, fun u hu => CA2.out u hu, ?_⟩
    go_big_quiet_on
    go_big_quiet_want
    go_big_quiet_op
    refine ⟨.string (s1 ++ (⟨#[47]⟩ : ByteArray) ++ s2), fun u hu => by rw [if_neg (by have := Z1.out; have := Z2.out; have := Z3.out; have e47 : (⟨#[47]⟩ : ByteArray).size = 1 := rfl; (try simp only [ByteArray.size_append]); omega)]; exact ⟨rfl, rfl⟩, ?_⟩
    go_big_quiet_on
    go_big_quiet_want
    go_big_quiet_op
    refine ⟨.string (s1 ++ (⟨#[47]⟩ : ByteArray) ++ s2 ++ (⟨#[47]⟩ : ByteArray)), fun u hu => by rw [if_neg (by have := Z1.out; have := Z2.out; have := Z3.out; have e47 : (⟨#[47]⟩ : ByteArray).size = 1 := rfl; (try simp only [ByteArray.size_append]); omega)]; exact ⟨rfl, rfl⟩, ?_⟩
    go_big_quiet_on
    go_big_quiet_want
    go_big_quiet_op
    first | go_big_quiet_on | (refine ⟨_, fun _ _ => rfl, ?_⟩; go_big_quiet_on)
    go_big_quiet_want
    refine quiet_loadcell1 24 (.tmp 15) rfl g 3 rfl _ C3.out rfl ?_
    go_big_quiet_on
    go_simp
    go_big_quiet_want
    go_big_quiet_op
    refine ⟨.string s3, fun u hu => CA3.out u hu, ?_⟩
    go_big_quiet_on
    go_big_quiet_want
    go_big_quiet_op
    refine ⟨.string (s1 ++ (⟨#[47]⟩ : ByteArray) ++ s2 ++ (⟨#[47]⟩ : ByteArray) ++ s3), fun u hu => by rw [if_neg (by have := Z1.out; have := Z2.out; have := Z3.out; have e47 : (⟨#[47]⟩ : ByteArray).size = 1 := rfl; (try simp only [ByteArray.size_append]); omega)]; exact ⟨rfl, rfl⟩, ?_⟩
    go_big_quiet_on
    go_big_quiet_want
    go_big_quiet_op
    first | go_big_quiet_on | (refine ⟨_, fun _ _ => rfl, ?_⟩; go_big_quiet_on)
    refine wpQuiet_nil ?_
    intro w6 hw6
    have HB6 : Hid (Below w.heap.size w w6) := Lib.hid (HBW.out.trans (Below.mono hw6 HBZ.out))
    clear hw6
    go_wp2
    go_ret
    exact ⟨by rw [HS.out]; rfl, HB6.out⟩
set_option maxRecDepth 100000 in
set_option maxHeartbeats 2000000 in
theorem implFpz_any (s : Int) (A1 A2 A3 : Option Addr) (n1 c1 n2 c2 n3 c3 : Nat) (x1 x2 x3 : List Int) (w : World) (h : PS w A1 A2 A3 n1 n2 n3 x1 x2 x3) (hc3 : n3 ≤ c3) (hn : n1 ≤ 1048576 ∧ n2 ≤ 1048576 ∧ n3 ≤ 1048576) (hf : FitI x1 ∧ FitI x2 ∧ FitI x3) (htab : Lib.TabIs Tryd.prog w "internal/strconv.uint64pow10" .u64 Lib.pow10Tab) :
    Calls Tryd.prog 33 #[.agg #[.int .i64 s, .slice A1 n1 c1, .slice A2 n2 c2, .slice A3 n3 c3]] w fun e w' => e = .returned (.string (strOfNums (fzL s x1 x2 x3))) ∧ Below w.heap.size w w' := by
  obtain ⟨w1, hw1⟩ : ∃ w1, w1 = w.alloc (.cells #[.int .i64 s, .slice A1 n1 c1, .slice A2 n2 c2, .slice A3 n3 c3] 54) := ⟨_, rfl⟩
  obtain ⟨g, hg⟩ : ∃ g, g = w.heap.size := ⟨_, rfl⟩
  have hk : Blk w1 g 54 #[.int .i64 s, .slice A1 n1 c1, .slice A2 n2 c2, .slice A3 n3 c3] := by rw [hw1, hg]; exact Blk.new _ _ _
  have hb : Below w.heap.size w w1 := by rw [hw1]; exact Below.alloc_self _ _
  have HB1 := Lib.hid hb
  have HW := Lib.hid hw1
  have HG := Lib.hid hg
  have HK := Lib.hid hk
  have hs := h.below hb (Nat.le_refl _)
  have HP1 := Lib.hid hs.1
  have HP2 := Lib.hid hs.2.1
  have HP3 := Lib.hid hs.2.2
  have HN1 := Lib.hid hn.1
  have HN2 := Lib.hid hn.2.1
  have HN3 := Lib.hid hn.2.2
  have HF1 := Lib.hid hf.1
  have HF2 := Lib.hid hf.2.1
  have HF3 := Lib.hid hf.2.2
  have HL := Lib.hid h.lens
  have HZ1 : Hid (w1.heap.size ≤ w1.heap.size) := Lib.hid (Nat.le_refl _)
  have HTB := Lib.hid (fun (u : World) (hu : Below w.heap.size w u) => tab_below htab hu)
  have HC := Lib.hid (implWeightedOk_any s A1 A2 A3 n1 c1 n2 c2 n3 c3 x1 x2 x3 w1 hs hc3 (by omega))
  obtain ⟨q0, q1, q2, q3⟩ := cells4 hk
  clear hk hb hs hw1 hg h hc3 hn hf htab
  cases hz : pzB true s x1 x2 x3 with
  | false =>
    rw [hz] at HC
    have HE : Hid (fzL s x1 x2 x3 = []) := Lib.hid (by unfold fzL; rw [if_neg (by rw [hz]; decide)])
    clear hz
    go_enter Tryd.func33, Tryd.ntmps33
    go_upto_region 1 with fail
    rw [← HW.out, ← HG.out]
    go_wp2_with (go_at_call 61; (with_reducible refine HC.out.mono ?_); rintro e w2 ⟨rfl, hb2⟩; have HB2 := Lib.hid hb2; clear hb2)
    go_ret
    exact ⟨by rw [HE.out]; rfl, HB1.out.trans (HB2.out.mono HB1.out.size)⟩
  | true =>
    rw [hz] at HC
    have HE : Hid (fzL s x1 x2 x3 = fmsL x1 ++ [47] ++ fmsL x2 ++ [47] ++ fmsL x3) := Lib.hid (by unfold fzL; rw [if_pos hz])
    clear hz
    go_enter Tryd.func33, Tryd.ntmps33
    go_upto_region 1 with fail
    rw [← HW.out, ← HG.out]
    go_upto_region 3 with (go_at_call 61; (with_reducible refine HC.out.mono ?_); rintro e w2 ⟨rfl, hb2⟩; have HB2 := Lib.hid hb2; clear hb2)
    have HBW : Hid (Below w.heap.size w w2) := Lib.hid (HB1.out.trans (HB2.out.mono HB1.out.size))
    have HBZ : Hid (w.heap.size ≤ w2.heap.size) := Lib.hid HBW.out.size
    have HK2 := Lib.hid (HK.out.below HB2.out HK.out.lt)
    obtain ⟨s1, hs1⟩ : ∃ s, s = strOfNums (fmsL x1) := ⟨_, rfl⟩
    have CA1 : Hid (∀ u, AfterT w2 u → Calls Tryd.prog 13 #[.slice A1 n1 c1] u (fun r u2 => r = .returned (.string s1) ∧ AfterT w2 u2)) := Lib.hid (fun u hu => by rw [hs1]; exact (implFms_any A1 n1 c1 x1 u ((HP1.out.below HB2.out HZ1.out).below hu (Nat.le_refl _)) HN1.out HF1.out (HTB.out u (HBW.out.trans (Below.mono hu HBZ.out)))).mono fun r u2 ⟨e1, e2⟩ => ⟨e1, Below.trans hu (e2.mono hu.size)⟩)
    have C1 : Hid (∀ u, AfterT w2 u → u.cell? ⟨g, 1, none⟩ = some (.slice A1 n1 c1)) := Lib.hid (fun u hu => (HK2.out.below hu HK2.out.lt).cell 1)
    have Z1 : Hid (s1.size ≤ 23068672) := Lib.hid (by rw [hs1, strOfNums_size]; have h1 := txP_len HF1.out x1.length (Nat.le_refl _); have h2 := HN1.out; have h3 := HL.out; unfold fmsL; omega)
    obtain ⟨s2, hs2⟩ : ∃ s, s = strOfNums (fmsL x2) := ⟨_, rfl⟩
    have CA2 : Hid (∀ u, AfterT w2 u → Calls Tryd.prog 13 #[.slice A2 n2 c2] u (fun r u2 => r = .returned (.string s2) ∧ AfterT w2 u2)) := Lib.hid (fun u hu => by rw [hs2]; exact (implFms_any A2 n2 c2 x2 u ((HP2.out.below HB2.out HZ1.out).below hu (Nat.le_refl _)) HN2.out HF2.out (HTB.out u (HBW.out.trans (Below.mono hu HBZ.out)))).mono fun r u2 ⟨e1, e2⟩ => ⟨e1, Below.trans hu (e2.mono hu.size)⟩)
    have C2 : Hid (∀ u, AfterT w2 u → u.cell? ⟨g, 2, none⟩ = some (.slice A2 n2 c2)) := Lib.hid (fun u hu => (HK2.out.below hu HK2.out.lt).cell 2)
    have Z2 : Hid (s2.size ≤ 23068672) := Lib.hid (by rw [hs2, strOfNums_size]; have h1 := txP_len HF2.out x2.length (Nat.le_refl _); have h2 := HN2.out; have h3 := HL.out; unfold fmsL; omega)
    obtain ⟨s3, hs3⟩ : ∃ s, s = strOfNums (fmsL x3) := ⟨_, rfl⟩
    have CA3 : Hid (∀ u, AfterT w2 u → Calls Tryd.prog 13 #[.slice A3 n3 c3] u (fun r u2 => r = .returned (.string s3) ∧ AfterT w2 u2)) := Lib.hid (fun u hu => by rw [hs3]; exact (implFms_any A3 n3 c3 x3 u ((HP3.out.below HB2.out HZ1.out).below hu (Nat.le_refl _)) HN3.out HF3.out (HTB.out u (HBW.out.trans (Below.mono hu HBZ.out)))).mono fun r u2 ⟨e1, e2⟩ => ⟨e1, Below.trans hu (e2.mono hu.size)⟩)
    have C3 : Hid (∀ u, AfterT w2 u → u.cell? ⟨g, 3, none⟩ = some (.slice A3 n3 c3)) := Lib.hid (fun u hu => (HK2.out.below hu HK2.out.lt).cell 3)
    have Z3 : Hid (s3.size ≤ 23068672) := Lib.hid (by rw [hs3, strOfNums_size]; have h1 := txP_len HF3.out x3.length (Nat.le_refl _); have h2 := HN3.out; have h3 := HL.out; unfold fmsL; omega)
    have HS : Hid (strOfNums (fzL s x1 x2 x3) = s1 ++ (⟨#[47]⟩ : ByteArray) ++ s2 ++ (⟨#[47]⟩ : ByteArray) ++ s3) := Lib.hid (by rw [HE.out, strOfNums_append, strOfNums_append, strOfNums_append, strOfNums_append, hs1, hs2, hs3]; rfl)
    have zz : ∀ a : ByteArray, (a ++ (⟨#[47]⟩ : ByteArray)).size = a.size + 1 := fun a => by rw [ByteArray.size_append]; rfl
    have D1 : Hid (s1.size + (⟨#[47]⟩ : ByteArray).size ≤ 9223372036854775807) := Lib.hid (by have := Z1.out; show s1.size + 1 ≤ _; omega)
    have D2 : Hid ((s1 ++ (⟨#[47]⟩ : ByteArray)).size + s2.size ≤ 9223372036854775807) := Lib.hid (by have := Z1.out; have := Z2.out; rw [zz]; omega)
    have D3 : Hid ((s1 ++ (⟨#[47]⟩ : ByteArray) ++ s2).size + (⟨#[47]⟩ : ByteArray).size ≤ 9223372036854775807) := Lib.hid (by have := Z1.out; have := Z2.out; rw [ByteArray.size_append, zz]; show s1.size + 1 + s2.size + 1 ≤ _; omega)
    have D4 : Hid ((s1 ++ (⟨#[47]⟩ : ByteArray) ++ s2 ++ (⟨#[47]⟩ : ByteArray)).size + s3.size ≤ 9223372036854775807) := Lib.hid (by have := Z1.out; have := Z2.out; have := Z3.out; rw [zz, ByteArray.size_append, zz]; omega)
    clear hs1 hs2 hs3 zz q0 q1 q2 q3
    refine tq_class (AfterT w2) (by kernel_rfl) (by kernel_rfl) (Below.refl _ _).drew ?_
    go_big_quiet_want
    go_big_quiet_op
    first | go_big_quiet_on | (refine ⟨_, fun _ _ => rfl, ?_⟩; go_big_quiet_on)
    go_big_quiet_want
    refine quiet_loadcell1 24 (.tmp 6) rfl g 1 rfl _ C1.out rfl ?_
    go_big_quiet_on
    go_simp
    go_big_quiet_want
    go_big_quiet_op
    refine ⟨.string s1, fun u hu => CA1.out u hu, ?_⟩
    go_big_quiet_on
    go_big_quiet_want
    go_big_quiet_op
    refine ⟨.string (s1 ++ (⟨#[47]⟩ : ByteArray)), fun u hu => by rw [if_neg (by have := Z1.out; have := Z2.out; have := Z3.out; have e47 : (⟨#[47]⟩ : ByteArray).size = 1 := rfl; (try simp only [ByteArray.size_append]); omega)]; exact ⟨rfl, rfl⟩, ?_⟩
    go_big_quiet_on
    go_big_quiet_want
    go_big_quiet_op
    first | go_big_quiet_on | (refine ⟨_, fun _ _ => rfl, ?_⟩; go_big_quiet_on)
    go_big_quiet_want
    refine quiet_loadcell1 24 (.tmp 10) rfl g 2 rfl _ C2.out rfl ?_
    go_big_quiet_on
    go_simp
    go_big_quiet_want
    go_big_quiet_op
    refine ⟨.string s2, fun u hu => CA2.out u hu, ?_⟩
    go_big_quiet_on
    go_big_quiet_want
    go_big_quiet_op
    refine ⟨.string (s1 ++ (⟨#[47]⟩ : ByteArray) ++ s2), fun u hu => by rw [if_neg (by have := Z1.out; have := Z2.out; have := Z3.out; have e47 : (⟨#[47]⟩ : ByteArray).size = 1 := rfl; (try simp only [ByteArray.size_append]); omega)]; exact ⟨rfl, rfl⟩, ?_⟩
    go_big_quiet_on
    go_big_quiet_want
    go_big_quiet_op
    refine ⟨.string (s1 ++ (⟨#[47]⟩ : ByteArray) ++ s2 ++ (⟨#[47]⟩ : ByteArray)), fun u hu => by rw [if_neg (by have := Z1.out; have := Z2.out; have := Z3.out; have e47 : (⟨#[47]⟩ : ByteArray).size = 1 := rfl; (try simp only [ByteArray.size_append]); omega)]; exact ⟨rfl, rfl⟩, ?_⟩
    go_big_quiet_on
    go_big_quiet_want
    go_big_quiet_op
    first | go_big_quiet_on | (refine ⟨_, fun _ _ => rfl, ?_⟩; go_big_quiet_on)
    go_big_quiet_want
    refine quiet_loadcell1 24 (.tmp 15) rfl g 3 rfl _ C3.out rfl ?_
    go_big_quiet_on
    go_simp
    go_big_quiet_want
    go_big_quiet_op
    refine ⟨.string s3, fun u hu => CA3.out u hu, ?_⟩
    go_big_quiet_on
    go_big_quiet_want
    go_big_quiet_op
    refine ⟨.string (s1 ++ (⟨#[47]⟩ : ByteArray) ++ s2 ++ (⟨#[47]⟩ : ByteArray) ++ s3), fun u hu => by rw [if_neg (by have := Z1.out; have := Z2.out; have := Z3.out; have e47 : (⟨#[47]⟩ : ByteArray).size = 1 := rfl; (try simp only [ByteArray.size_append]); omega)]; exact ⟨rfl, rfl⟩, ?_⟩
    go_big_quiet_on
    go_big_quiet_want
    go_big_quiet_op
    first | go_big_quiet_on | (refine ⟨_, fun _ _ => rfl, ?_⟩; go_big_quiet_on)
    refine wpQuiet_nil ?_
    intro w6 hw6
    have HB6 : Hid (Below w.heap.size w w6) := Lib.hid (HBW.out.trans (Below.mono hw6 HBZ.out))
    clear hw6
    go_wp2
    go_ret
    exact ⟨by rw [HS.out]; rfl, HB6.out⟩
end Go.Proofs.YtdiiaallklkomaaDoor

/-
  Opening a puzzle that came in, its numbers within an int. No conditions.
-/


namespace Go.Proofs.YtdiiaallklkomaaDoor
open Go.ChangeShapes Go.WideShapes Go.ChangeAt Go.RowKit

theorem PS.of_trodF {H : Type} {enc : TypeId × Value → H} {W : World} {q : Nat} {f : Nat → Bool} {cs : Array Value} {d : DataW H} {p : List MemPlace} (hsz : cs.size = 4)
    (h0 : DataW.Trod enc Tryd.prog W q f true 51 (.agg cs) d p) : ∃ (s : Int) (A1 A2 A3 : Option Addr) (n1 c1 n2 c2 n3 c3 : Nat) (x1 x2 x3 : List Int), cs = #[.int .i64 s, .slice A1 n1 c1, .slice A2 n2 c2, .slice A3 n3 c3] ∧ PS W A1 A2 A3 n1 n2 n3 x1 x2 x3 ∧
      (n1 ≤ 9223372036854775807 ∧ n2 ≤ 9223372036854775807 ∧ n3 ≤ 9223372036854775807) ∧ Fits x1 ∧ Fits x2 ∧ Fits x3 := by
  obtain ⟨v0, v1, v2, v3, rfl⟩ : ∃ v0 v1 v2 v3, cs = #[v0, v1, v2, v3] := by
    obtain ⟨l⟩ := cs
    match l, hsz with
    | [a, b, c, d], _ => exact ⟨a, b, c, d, rfl⟩
  obtain ⟨fuel, hf⟩ := h0
  obtain ⟨xs, n, _, _, _, hlen, hx⟩ := DataW.trod_struct Tryd.underlying51 hf
  have e0 := hx 0 _ rfl
  have e1 := hx 1 _ rfl
  have e2 := hx 2 _ rfl
  have e3 := hx 3 _ rfl
  have oneInts : ∀ (v : Value) (y : DataW H × List MemPlace), DataW.trod enc Tryd.prog W q f true n 24 [v] = some y → ∃ A n' c' l, v = .slice A n' c' ∧ SI W A n' l ∧ n' ≤ 9223372036854775807 ∧ Fits l := fun v y hy => by
    rcases open_ints Tryd.underlying24 Tryd.underlying3 (by kernel_rfl) hy with ⟨hcs, _⟩ | ⟨x, l, c, zs, hcs, _, hl, hm, hzs, _, hcell, hwz⟩
    · exact ⟨none, 0, 0, [], by simpa using hcs, SI.nil _ _, by omega, fun x hx => by cases hx⟩
    · exact ⟨some x, l, c, zs.take l, by simpa using hcs, SI.of_cells (by rw [hzs]; split <;> omega) hcell, by unfold maxLen at hm; omega, fun n hn => bounds_i64 (hwz n (List.mem_of_mem_take hn))⟩
  obtain ⟨y0, y1, y2, y3, rfl⟩ : ∃ y0 y1 y2 y3, xs = [y0, y1, y2, y3] := by
    match xs, hlen with
    | [a, b, c, d], _ => exact ⟨a, b, c, d, rfl⟩
  have ci : Tryd.prog.cellsOf 3 = 1 := by kernel_rfl
  have cs : Tryd.prog.cellsOf 24 = 1 := by kernel_rfl
  have k0 : DataW.trod enc Tryd.prog W q f true n 3 [v0] = some y0 := by simpa [ci, Value.cells] using e0
  have k1 : DataW.trod enc Tryd.prog W q f true n 24 [v1] = some y1 := by simpa [cs, Value.cells] using e1
  have k2 : DataW.trod enc Tryd.prog W q f true n 24 [v2] = some y2 := by simpa [cs, Value.cells] using e2
  have k3 : DataW.trod enc Tryd.prog W q f true n 24 [v3] = some y3 := by simpa [cs, Value.cells] using e3
  obtain ⟨z, hz, _, _⟩ := DataW.trod_int Tryd.underlying3 k0
  obtain ⟨B1, m1, d1, l1, h1, s1, b1, g1⟩ := oneInts v1 y1 k1
  obtain ⟨B2, m2, d2, l2, h2, s2, b2, g2⟩ := oneInts v2 y2 k2
  obtain ⟨B3, m3, d3, l3, h3, s3, b3, g3⟩ := oneInts v3 y3 k3
  have hz' : v0 = .int .i64 z := by simpa using hz
  subst hz' h1 h2 h3
  exact ⟨z, B1, B2, B3, m1, d1, m2, d2, m3, d3, l1, l2, l3, rfl, ⟨s1, s2, s3⟩, ⟨b1, b2, b3⟩, g1, g2, g3⟩
end Go.Proofs.YtdiiaallklkomaaDoor

/-
  Texts of what is added: pieces with ', ' between them. No conditions.
-/



namespace Go.Proofs.YtdiiaallklkomaaDoor
open Go.RowKit

/-- The first k pieces, as bytes. -/
def jnP (ps : Nat → List Int) : Nat → List Int
  | 0 => []
  | k + 1 => jnP ps k ++ ((if k = 0 then [] else [44, 32]) ++ ps k)
theorem jnP_first {ps : Nat → List Int} : jnP ps 1 = ps 0 := by simp [jnP]
theorem jnP_more {ps : Nat → List Int} {k : Nat} (h : k ≠ 0) : jnP ps (k + 1) = (jnP ps k ++ [44, 32]) ++ ps k := by
  rw [jnP, if_neg h, List.append_assoc]
theorem jnP_len {ps : Nat → List Int} {C : Nat} (h : ∀ k, (ps k).length ≤ C) : ∀ k, (jnP ps k).length ≤ (C + 2) * k
  | 0 => Nat.le_refl _
  | k + 1 => by
    have h1 := jnP_len h k
    have h2 := h k
    rw [jnP, List.length_append, List.length_append, Nat.mul_succ]
    split <;> simp <;> omega
/-- The text of a sum of n things: 0 if there is none. -/
def sumL (ps : Nat → List Int) (n : Nat) : List Int := if n = 0 then [48] else jnP ps n
theorem join_jnP (ps : Nat → List Int) : ∀ n, 0 < n → Lib.join ((List.range n).map fun k => by8 (ps k)) [44, 32] = by8 (jnP ps n)
  | 0, h => absurd h (Nat.lt_irrefl _)
  | 1, _ => by rw [jnP_first]; exact Lib.join_one _ _
  | n + 2, _ => by
    have ih := join_jnP ps (n + 1) (Nat.succ_pos _)
    have hsplit : ∀ (l : List (List UInt8)) (y : List UInt8), l ≠ [] → Lib.join (l ++ [y]) [44, 32] = Lib.join l [44, 32] ++ [44, 32] ++ y := by
      intro l y hl
      match l, hl with
      | x :: r, _ =>
        rw [List.cons_append, Lib.join_cons, Lib.join_cons]
        simp [Lib.joinTail]
    rw [List.range_succ, List.map_append, List.map_cons, List.map_nil, hsplit _ _ (by simp), ih, jnP_more (ps := ps) (k := n + 1) (Nat.succ_ne_zero n), by8_append, by8_append]
    rfl
/-- A part's text. -/
def paP (t : Tm) : List Int := txtL t.2 ++ [58] ++ fmsL t.1
end Go.Proofs.YtdiiaallklkomaaDoor

/-
  The order of lists: number by number, what stands first is less. Conditions: lengths below 2^40.
-/

namespace Go.Proofs.YtdiiaallklkomaaDoor
open Go.RowKit

/-- What comparing two lists answers. -/
def cmpL : List Int → List Int → Int
  | [], [] => 0
  | [], _ :: _ => -1
  | _ :: _, [] => 1
  | x :: xs, y :: ys => if x < y then -1 else if y < x then 1 else cmpL xs ys
theorem drop_nth {xs : List Int} {k : Nat} (h : k < xs.length) : xs.drop k = nth xs k :: xs.drop (k + 1) := by
  rw [List.drop_eq_getElem_cons h, nth_get h]
theorem cmpL_at {xs ys : List Int} {k : Nat} (hx : k < xs.length) (hy : k < ys.length) : cmpL (xs.drop k) (ys.drop k) = if nth xs k < nth ys k then -1 else if nth ys k < nth xs k then 1 else cmpL (xs.drop (k + 1)) (ys.drop (k + 1)) := by
  rw [drop_nth hx, drop_nth hy]; rfl
theorem cmpL_short {xs ys : List Int} {k : Nat} (hx : k = xs.length) (hy : k < ys.length) : cmpL (xs.drop k) (ys.drop k) = -1 := by
  rw [drop_nth hy, List.drop_of_length_le (by omega)]; rfl
theorem cmpL_long {xs ys : List Int} {k : Nat} (hx : k < xs.length) (hy : k = ys.length) : cmpL (xs.drop k) (ys.drop k) = 1 := by
  rw [drop_nth hx, List.drop_of_length_le (by omega : ys.length ≤ k)]; rfl
theorem cmpL_end {xs ys : List Int} {k : Nat} (hx : k = xs.length) (hy : k = ys.length) : cmpL (xs.drop k) (ys.drop k) = 0 := by
  rw [List.drop_of_length_le (by omega), List.drop_of_length_le (by omega)]; rfl
def lessL (xs ys : List Int) : Bool := decide (cmpL xs ys < 0)
theorem lessL_yes {xs ys : List Int} (h : cmpL xs ys = -1) : lessL xs ys = true := by simp [lessL, h]
theorem lessL_no {xs ys : List Int} (h : 0 ≤ cmpL xs ys) : lessL xs ys = false := by simp [lessL]; exact h

set_option maxHeartbeats 1600000 in
theorem l1Less_any (A A2 : Option Addr) (n c n2 c2 : Nat) (xs ys : List Int) (w : World) (hs : SI w A n xs) (hs2 : SI w A2 n2 ys) (hn : n ≤ 1099511627776) (hn2 : n2 ≤ 1099511627776) :
    Calls Tryd.prog 65 #[.slice A n c, .slice A2 n2 c2] w fun e w' => e = .returned (.bool (lessL xs ys)) ∧ Drawn w w' := by
  have HL := Lib.hid (And.intro hs.1 hs2.1)
  go_enter Tryd.func65, Tryd.ntmps65
  go_wp2
  go_loopw [5] (fun iv wr => ∃ k : Nat, k ≤ n ∧ k ≤ n2 ∧ iv = .int .i64 k ∧ Drawn w wr ∧ cmpL xs ys = cmpL (xs.drop k) (ys.drop k))
    (fun iv _ => n - (intOf iv).toNat)
  case atStart => exact ⟨0, Nat.zero_le _, Nat.zero_le _, rfl, Drawn.refl _, by simp⟩
  case round =>
    obtain ⟨k, hk, hk2, rfl, hD, hq⟩ := hrel
    have HD := Lib.hid hD
    have HQ := Lib.hid hq
    have h1 := hD.si hs
    have h2 := hD.si hs2
    clear hD hq hs hs2
    by_cases hlt : k < n
    · have hlI : (k : Int) < (n : Int) := by omega
      by_cases hlt2 : k < n2
      · have hlI2 : (k : Int) < (n2 : Int) := by omega
        obtain ⟨b, o, rfl, _, hc⟩ := h1.at_ (by omega)
        obtain ⟨b2, o2, rfl, _, hc2⟩ := h2.at_ (by omega)
        have hx := hc k hlt
        have hy := hc2 k hlt2
        have HS := cmpL_at (xs := xs) (ys := ys) (k := k) (by have := HL.out; omega) (by have := HL.out; omega)
        obtain ⟨x, hx0⟩ : ∃ x, x = nth xs k := ⟨_, rfl⟩
        obtain ⟨y, hy0⟩ : ∃ y, y = nth ys k := ⟨_, rfl⟩
        rw [← hx0] at hx HS
        rw [← hy0] at hy HS
        rw [← HQ.out] at HS
        have HS := Lib.hid HS
        clear h1 h2 hc hc2 hx0 hy0
        by_cases hxy : x = y
        · subst hxy
          have HS2 := Lib.hid (HS.out.trans ((if_neg (by omega)).trans (if_neg (by omega))))
          go_wp2_with fail
          go_quiet (fail)
          go_wp2
          go_roundw
          case rel => exact ⟨k + 1, by omega, by omega, by go_num, HD.out.drewN _, HS2.out⟩
          case measure => simp [intOf]; omega
        · have hne : (x != y) = true := by simpa using hxy
          by_cases hlt3 : x < y
          · have HF := Lib.hid (lessL_yes (HS.out.trans (if_pos hlt3)))
            go_wp2_with fail
            go_quiet (fail)
            go_wp2_with fail
            go_quiet (fail)
            go_wp2
            go_ret
            exact ⟨ret_bool HF.out.symm, by first | exact (HD.out.drewN _).drewN _ | exact HD.out.drewN _⟩
          · have HF := Lib.hid (lessL_no (Int.le_of_eq (HS.out.trans ((if_neg hlt3).trans (if_pos (by omega)))).symm |> Int.le_trans (by decide)))
            go_wp2_with fail
            go_quiet (fail)
            go_wp2_with fail
            have hlt4 : ¬ x < y := by omega
            go_quiet (fail)
            go_wp2
            go_ret
            exact ⟨ret_bool HF.out.symm, by first | exact (HD.out.drewN _).drewN _ | exact HD.out.drewN _⟩
      · have hk2n : k = n2 := by omega
        have hlI2 : ¬ (k : Int) < (n2 : Int) := by omega
        have hn2n : ¬ (n : Int) < (n2 : Int) := by omega
        have HF := Lib.hid (lessL_no (by rw [HQ.out, cmpL_long (by have := HL.out; omega) (by have := HL.out; omega)]; decide))
        clear h1 h2
        go_wp2
        go_ret
        exact ⟨ret_bool HF.out.symm, HD.out⟩
    · have hkn : k = n := by omega
      have hlI : ¬ (k : Int) < (n : Int) := by omega
      clear h1 h2
      by_cases hlt2 : n < n2
      · have hn2n : (n : Int) < (n2 : Int) := by omega
        have HF := Lib.hid (lessL_yes (by rw [HQ.out, cmpL_short (by have := HL.out; omega) (by have := HL.out; omega)]))
        go_wp2
        go_ret
        exact ⟨ret_bool HF.out.symm, HD.out⟩
      · have hn2n : ¬ (n : Int) < (n2 : Int) := by omega
        have HF := Lib.hid (lessL_no (by rw [HQ.out, cmpL_end (by have := HL.out; omega) (by have := HL.out; omega)]; decide))
        go_wp2
        go_ret
        exact ⟨ret_bool HF.out.symm, HD.out⟩

set_option maxHeartbeats 1600000 in
theorem sliceCompare_any (A A2 : Option Addr) (n c n2 c2 : Nat) (xs ys : List Int) (w : World) (hs : SI w A n xs) (hs2 : SI w A2 n2 ys) (hn : n ≤ 1099511627776) (hn2 : n2 ≤ 1099511627776) :
    Calls Tryd.prog 82 #[.slice A n c, .slice A2 n2 c2] w fun e w' => e = .returned (.int .i64 (cmpL xs ys)) ∧ Drawn w w' := by
  have HL := Lib.hid (And.intro hs.1 hs2.1)
  go_enter Tryd.func82, Tryd.ntmps82
  go_wp2
  go_loopw [11] (fun iv wr => ∃ k : Nat, k ≤ n ∧ k ≤ n2 ∧ iv = .int .i64 k ∧ Drawn w wr ∧ cmpL xs ys = cmpL (xs.drop k) (ys.drop k))
    (fun iv _ => n - (intOf iv).toNat)
  case atStart => exact ⟨0, Nat.zero_le _, Nat.zero_le _, rfl, Drawn.refl _, by simp⟩
  case round =>
    obtain ⟨k, hk, hk2, rfl, hD, hq⟩ := hrel
    have HD := Lib.hid hD
    have HQ := Lib.hid hq
    have h1 := hD.si hs
    have h2 := hD.si hs2
    clear hD hq hs hs2
    by_cases hlt : k < n
    · have hlI : (k : Int) < (n : Int) := by omega
      obtain ⟨b, o, rfl, _, hc⟩ := h1.at_ (by omega)
      have hx := hc k hlt
      obtain ⟨x, hx0⟩ : ∃ x, x = nth xs k := ⟨_, rfl⟩
      rw [← hx0] at hx
      by_cases hlt2 : k < n2
      · have hlI2 : (k : Int) < (n2 : Int) := by omega
        obtain ⟨b2, o2, rfl, _, hc2⟩ := h2.at_ (by omega)
        have hy := hc2 k hlt2
        have HS := cmpL_at (xs := xs) (ys := ys) (k := k) (by have := HL.out; omega) (by have := HL.out; omega)
        obtain ⟨y, hy0⟩ : ∃ y, y = nth ys k := ⟨_, rfl⟩
        rw [← hx0] at HS
        rw [← hy0] at hy HS
        rw [← HQ.out] at HS
        have HS := Lib.hid HS
        have HC := Lib.hid (fun w => compare_any x y w)
        clear h1 h2 hc hc2 hx0 hy0
        by_cases hlt3 : x < y
        · have HF := Lib.hid (HS.out.trans (if_pos hlt3))
          have HC2 := HC.out
          rw [show cmpI x y = -1 from if_pos hlt3] at HC2
          have HC3 := Lib.hid HC2
          clear HC2 HC
          go_wp2_with (go_at_call 99; refine (HC3.out _).mono ?_; rintro e w1 ⟨rfl, rfl⟩)
          go_ret
          exact ⟨by rw [HF.out]; try rfl, HD.out⟩
        · by_cases hlt4 : y < x
          · have HF := Lib.hid (HS.out.trans ((if_neg hlt3).trans (if_pos hlt4)))
            have HC2 := HC.out
            rw [show cmpI x y = 1 from (if_neg hlt3).trans (if_pos hlt4)] at HC2
            have HC3 := Lib.hid HC2
            clear HC2 HC
            go_wp2_with (go_at_call 99; refine (HC3.out _).mono ?_; rintro e w1 ⟨rfl, rfl⟩)
            go_ret
            exact ⟨by rw [HF.out]; try rfl, HD.out⟩
          · have HF := Lib.hid (HS.out.trans ((if_neg hlt3).trans (if_neg hlt4)))
            have HC2 := HC.out
            rw [show cmpI x y = 0 from (if_neg hlt3).trans (if_neg hlt4)] at HC2
            have HC3 := Lib.hid HC2
            clear HC2 HC
            go_wp2_with (go_at_call 99; refine (HC3.out _).mono ?_; rintro e w1 ⟨rfl, rfl⟩)
            go_roundw
            case rel => exact ⟨k + 1, by omega, by omega, by go_num, HD.out, HF.out⟩
            case measure => simp [intOf]; omega
      · have hk2n : k = n2 := by omega
        subst hk2n
        have HF : Hid (cmpL xs ys = 1) := Lib.hid (by rw [HQ.out, cmpL_long (by have := HL.out; omega) (by have := HL.out; omega)])
        clear h1 h2 hc hx0
        go_wp2
        go_ret
        exact ⟨by rw [HF.out]; try rfl, HD.out⟩
    · have hkn : k = n := by omega
      have hlI : ¬ (k : Int) < (n : Int) := by omega
      clear h1 h2
      by_cases hlt2 : n < n2
      · have hn2n : (n : Int) < (n2 : Int) := by omega
        have HF : Hid (cmpL xs ys = -1) := Lib.hid (by rw [HQ.out, cmpL_short (by have := HL.out; omega) (by have := HL.out; omega)])
        go_wp2
        go_ret
        exact ⟨by rw [HF.out]; try rfl, HD.out⟩
      · have hn2n : ¬ (n : Int) < (n2 : Int) := by omega
        have HF : Hid (cmpL xs ys = 0) := Lib.hid (by rw [HQ.out, cmpL_end (by have := HL.out; omega) (by have := HL.out; omega)])
        go_wp2
        go_ret
        exact ⟨by rw [HF.out]; try rfl, HD.out⟩
end Go.Proofs.YtdiiaallklkomaaDoor

/-
  TermMem, for values of type Part instead of terms (made by wip/gen/gen_cls.py). Conditions: lengths below 2^40.
-/



namespace Go.Proofs.YtdiiaallklkomaaDoor.Prt
open Go.RowKit
section
variable {w w' : World} {A : Option Addr} {n : Nat} {ts : List Tm}
end

/-- The slice (A, n, c) holds the terms ts: its block, and a block for the exponents of each term, all the call's own between lo and hi, no two of them one. -/
def OwnTP (w : World) (lo hi : Nat) (A : Option Addr) (n c : Nat) (ts : List Tm) : Prop :=
  ∃ E : Nat → Sv, ts.length = n ∧ w.ownsRow lo 72 2 (.slice A n c) n (cells2 n fun k => (sv (E k), .int .i64 (tm ts k).2)) ∧ (∀ k, (Value.slice A n c).ownBlock = some k → k < hi) ∧
    (∀ j, j < n → Own w lo hi (E j).1 (E j).2.1 (E j).2.2 (tm ts j).1) ∧ (∀ j g, j < n → (sv (E j)).ownBlock = some g → (Value.slice A n c).ownBlock ≠ some g) ∧
    (∀ i j g, i < j → j < n → (sv (E i)).ownBlock = some g → (sv (E j)).ownBlock ≠ some g)
section
variable {w w' : World} {lo hi n c : Nat} {A : Option Addr} {ts : List Tm}
theorem OwnTP.len (h : OwnTP w lo hi A n c ts) : ts.length = n := by obtain ⟨_, h1, _⟩ := h; exact h1
theorem OwnTP.nil (w : World) (lo hi : Nat) : OwnTP w lo hi none 0 0 [] :=
  ⟨fun _ => (none, 0, 0), rfl, by simpa [cells2] using World.ownsRow_nil _ _ _ _, fun k hk => by simp [Value.ownBlock] at hk, fun j hj => absurd hj (by omega), fun j g hj => absurd hj (by omega), fun i j g _ hj => absurd hj (by omega)⟩
theorem OwnTP.place (h : OwnTP w lo hi A n c ts) (hn : 0 < n) : ∃ g, A = some ⟨g, 0, none⟩ ∧ lo ≤ g ∧ g < hi := by
  obtain ⟨E, _, ho, hh, _⟩ := h
  obtain ⟨g, cap, e, h1, _⟩ := ho.form hn
  have hA : A = some ⟨g, 0, none⟩ := by injection e
  subst hA
  exact ⟨g, rfl, h1, hh g rfl⟩
theorem OwnTP.rd (h : OwnTP w lo hi A n c ts) : TS w A n ts := by
  refine ⟨h.len, fun hn => ?_⟩
  obtain ⟨g, rfl, _, _⟩ := h.place hn
  obtain ⟨E, hl, ho, hh, he, _⟩ := h
  refine ⟨g, 0, rfl, ?_, fun k hk => ?_⟩
  · obtain ⟨g', cap, e, _, h2⟩ := ho.form hn
    injection e with e1; injection e1 with e1; injection e1 with e1
    subst e1; exact h2
  · refine ⟨(E k).1, (E k).2.1, (E k).2.2, ?_, ?_, (he k hk).si, (he k hk).cap, ?_⟩
    · rw [Nat.zero_add, ho.cellAt (k * 2) (by omega), cells2_get0 _ hk]; rfl
    · rw [Nat.zero_add, ho.cellAt (k * 2 + 1) (by omega), cells2_get1 _ hk]
    · intro e
      have := he k hk
      rw [e] at this
      exact this.nilcap
theorem OwnTP.si (h : OwnTP w lo hi A n c ts) : TS w A n ts := h.rd
theorem OwnTP.below {B : Nat} (h : OwnTP w lo hi A n c ts) (hb : Below B w w') (hB : hi ≤ B) : OwnTP w' lo hi A n c ts := by
  obtain ⟨E, h1, h2, h3, h4, h5, h6⟩ := h
  refine ⟨E, h1, ⟨h2.1, ?_⟩, h3, fun j hj => (h4 j hj).below hb hB, h5, h6⟩
  rcases h2.2 with hn | ⟨g, cap, cur, e, hl, hg, rest⟩
  · exact .inl hn
  · have hlt := h3 g (by rw [e]; rfl)
    exact .inr ⟨g, cap, cur, e, hl, (hb.block g (by omega)).trans hg, rest⟩
theorem OwnTP.drawn (h : OwnTP w lo hi A n c ts) (hd : Drawn w w') : OwnTP w' lo hi A n c ts := h.below (hd.below hi) (Nat.le_refl _)
theorem OwnTP.cap (h : OwnTP w lo hi A n c ts) : n ≤ c := by
  obtain ⟨E, _, h2, _⟩ := h
  rcases h2.2 with ⟨e, h0⟩ | ⟨g, cap, cur, e, _, _, hc, _⟩
  · omega
  · injection e with _ _ e3; omega
end
theorem OwnTP.within {w w' : World} {lo hi n c lo' hi' : Nat} {A : Option Addr} {ts : List Tm} (h : OwnTP w lo hi A n c ts) (hw : Within lo' hi' w w') (hd : hi ≤ lo' ∨ hi' ≤ lo) : OwnTP w' lo hi A n c ts := by
  obtain ⟨E, h1, h2, h3, h4, h5, h6⟩ := h
  refine ⟨E, h1, ⟨h2.1, ?_⟩, h3, fun j hj => (h4 j hj).within hw hd, h5, h6⟩
  rcases h2.2 with hn | ⟨g, cap, cur, e, hl, hg, rest⟩
  · exact .inl hn
  · have hlt := h3 g (by rw [e]; rfl)
    have hsz := (h2.lt g (by rw [e]; rfl)).2
    exact .inr ⟨g, cap, cur, e, hl, (hw.2.2.2.2 g hsz (by omega)).trans hg, rest⟩
/-- What a call that makes a slice of terms hands back. -/
def FreshTP (w w' : World) (e : Ending) (ts : List Tm) : Prop :=
  ∃ A n c, e = .returned (.slice A n c) ∧ OwnTP w' w.heap.size w'.heap.size A n c ts ∧ Below w.heap.size w w'

theorem row_eqP {w : World} {lo : Nat} {v : Value} {n : Nat} {xs ys : List Value} (h : w.ownsRow lo 72 2 v n xs) (e : xs = ys) : w.ownsRow lo 72 2 v n ys := e ▸ h
/-- One term stored: its exponents lie in a newer block of the call's own. -/
theorem OwnTP.put {w : World} {lo hi g n c : Nat} {ts : List Tm} (h : OwnTP w lo hi (some ⟨g, 0, none⟩) n c ts) {k : Nat} (hk : k < n) {lo' hi' n' c' : Nat} {A' : Option Addr} {xs : List Int} (hx : Own w lo' hi' A' n' c' xs)
    (h1 : hi ≤ lo') (h2 : lo ≤ lo') (h3 : hi ≤ hi') (x : Int) :
    OwnTP ((w.setCell ⟨g, k * 2, none⟩ (.slice A' n' c')).setCell ⟨g, k * 2 + 1, none⟩ (.int .i64 x)) lo hi' (some ⟨g, 0, none⟩) n c (ts.set k (xs, x)) ∧
      w.grownBy ((w.setCell ⟨g, k * 2, none⟩ (.slice A' n' c')).setCell ⟨g, k * 2 + 1, none⟩ (.int .i64 x)) (some g) := by
  obtain ⟨E, hl, ho, hh, he, hne, hdd⟩ := h
  have hgl := hh g rfl
  obtain ⟨o1, g1⟩ := ho.stored (k * 2) (.slice A' n' c')
  obtain ⟨o2, g2⟩ := o1.stored (k * 2 + 1) (.int .i64 x)
  have gg := g1.trans g2
  refine ⟨⟨fun j => if j = k then (A', n', c') else E j, by simpa using hl, ?_, fun b hb => by have := hh b hb; omega, fun j hj => ?_, fun j b hj hb => ?_, fun i j b hij hj hb => ?_⟩, gg⟩
  · rw [cells2_set0 _ hk, cells2_set1 _ hk] at o2
    refine row_eqP o2 ?_
    apply cells2_congr
    intro j hj
    dsimp only
    rw [tm_set (by omega)]
    by_cases e : j = k
    · subst e; simp [sv]
    · simp [e]
  · dsimp only
    rw [tm_set (by omega)]
    by_cases e : j = k
    · rw [if_pos e, if_pos e]
      exact (hx.grown gg (fun b hb => .inl (by injection hb with hb; omega))).wide h2 (Nat.le_refl _)
    · rw [if_neg e, if_neg e]
      exact ((he j hj).kept gg (fun b hb => hne j b hj hb)).wide (Nat.le_refl _) h3
  · dsimp only at hb
    by_cases e : j = k
    · rw [if_pos e] at hb
      have := hx.lt b hb
      intro e2; injection e2 with e2; dsimp only at e2; omega
    · rw [if_neg e] at hb
      exact hne j b hj hb
  · dsimp only at hb ⊢
    by_cases e : i = k
    · rw [if_pos e] at hb
      rw [if_neg (by omega)]
      intro e2
      have := hx.lt b hb
      have := (he j hj).2 b e2
      omega
    · rw [if_neg e] at hb
      by_cases e' : j = k
      · rw [if_pos e']
        intro e2
        have := hx.lt b e2
        have := (he i (by omega)).2 b hb
        omega
      · rw [if_neg e']
        exact hdd i j b hij hj hb
/-- Only the number of a term stored. -/
theorem OwnTP.put2 {w : World} {lo hi g n c : Nat} {ts : List Tm} (h : OwnTP w lo hi (some ⟨g, 0, none⟩) n c ts) {k : Nat} (hk : k < n) (x : Int) :
    OwnTP (w.setCell ⟨g, k * 2 + 1, none⟩ (.int .i64 x)) lo hi (some ⟨g, 0, none⟩) n c (ts.set k ((tm ts k).1, x)) ∧ w.grownBy (w.setCell ⟨g, k * 2 + 1, none⟩ (.int .i64 x)) (some g) := by
  obtain ⟨E, hl, ho, hh, he, hne, hdd⟩ := h
  obtain ⟨o2, gg⟩ := ho.stored (k * 2 + 1) (.int .i64 x)
  refine ⟨⟨E, by simpa using hl, ?_, hh, fun j hj => ?_, hne, hdd⟩, gg⟩
  · rw [cells2_set1 _ hk] at o2
    refine row_eqP o2 ?_
    apply cells2_congr
    intro j hj
    dsimp only
    rw [tm_set (by omega)]
    by_cases e : j = k
    · subst e; simp
    · simp [e]
  · rw [tm_set (by omega)]
    have := (he j hj).kept gg (fun b hb => hne j b hj hb)
    by_cases e : j = k
    · subst e; rw [if_pos rfl]; exact this
    · rw [if_neg e]; exact this
/-- The exponents of one term, at its place. -/
theorem OwnTP.exp {w : World} {lo hi g n c : Nat} {ts : List Tm} (h : OwnTP w lo hi (some ⟨g, 0, none⟩) n c ts) {k : Nat} (hk : k < n) :
    ∃ A' n' c', w.cell? ⟨g, k * 2, none⟩ = some (.slice A' n' c') ∧ w.cell? ⟨g, k * 2 + 1, none⟩ = some (.int .i64 (tm ts k).2) ∧ (∀ j, w.frozen? ⟨g, j, none⟩ = false) ∧ Own w lo hi A' n' c' (tm ts k).1 ∧
      ∀ w' ys, Own w' lo hi A' n' c' ys → w.grownBy w' (Value.slice A' n' c').ownBlock → OwnTP w' lo hi (some ⟨g, 0, none⟩) n c (ts.set k (ys, (tm ts k).2)) := by
  obtain ⟨E, hl, ho, hh, he, hne, hdd⟩ := h
  refine ⟨(E k).1, (E k).2.1, (E k).2.2, ?_, ?_, fun j => ho.frozenAt j, he k hk, ?_⟩
  · rw [ho.cellAt (k * 2) (by omega), cells2_get0 _ hk]; rfl
  · rw [ho.cellAt (k * 2 + 1) (by omega), cells2_get1 _ hk]
  · intro w' ys hy hg
    refine ⟨E, by simpa using hl, ?_, hh, fun j hj => ?_, hne, hdd⟩
    · have o2 := ho.kept hg (.inr fun e => hne k g hk e.symm rfl)
      refine row_eqP o2 ?_
      apply cells2_congr
      intro j hj
      rw [tm_set (by omega)]
      by_cases e : j = k
      · subst e; simp
      · simp [e]
    · rw [tm_set (by omega)]
      by_cases e : j = k
      · subst e; rw [if_pos rfl]; exact hy
      · rw [if_neg e]
        refine (he j hj).kept hg (fun b hb e2 => ?_)
        rcases Nat.lt_or_ge j k with h | h
        · exact hdd j k b h hk hb e2
        · exact hdd k j b (by omega) hj e2 hb
theorem OwnTP.zeros {w : World} {lo g n c : Nat} (h : w.ownsRow lo 72 2 (.slice (some ⟨g, 0, none⟩) n c) n (madeCells #[.slice none 0 0, .int .i64 0] (n * 2)).toList) (hg : g < w.heap.size) : OwnTP w lo w.heap.size (some ⟨g, 0, none⟩) n c (zeroT n) := by
  refine ⟨fun _ => (none, 0, 0), by simp [zeroT], ?_, fun b hb => by simp [Value.ownBlock] at hb; omega, fun j hj => ?_, fun j b hj hb => by simp [sv, Value.ownBlock] at hb, fun i j b _ hj hb => by simp [sv, Value.ownBlock] at hb⟩
  · refine row_eqP h ?_
    apply List.ext_getElem?
    intro j
    by_cases hj : j < n * 2
    · rw [cells2_get _ hj, zeroT_tm]
      rcases Nat.mod_two_eq_zero_or_one j with e | e
      · simp [madeCells, hj, e, sv]
      · simp [madeCells, hj, e]
    · rw [List.getElem?_eq_none (by simp [madeCells]; omega), List.getElem?_eq_none (by rw [cells2_len]; omega)]
  · rw [zeroT_tm]; exact Own.nil _ _ _
end Go.Proofs.YtdiiaallklkomaaDoor.Prt

/-
  TermHelp, for values of type Part instead of terms (made by wip/gen/gen_cls.py). Conditions: lengths below 2^40.
-/


namespace Go.Proofs.YtdiiaallklkomaaDoor.Prt
open Go.RowKit
theorem Tryd.infoTermP : (Tryd.prog.info? 72).map (·.size) = some 2 := by kernel_rfl
theorem Tryd.infoTermLP : (Tryd.prog.info? 70).map (·.size) = some 2 := by kernel_rfl

set_option maxHeartbeats 400000 in
theorem toTerm_anyP (A : Option Addr) (n c : Nat) (xs : List Int) (x : Int) (w : World) (hs : SI w A n xs) (hn : n ≤ 1099511627776) :
    Calls Tryd.prog 41 #[.agg #[.slice A n c, .int .i64 x]] w fun e w' => ∃ A' n' c', e = .returned (.agg #[.slice A' n' c', .int .i64 x]) ∧ Own w' w.heap.size w'.heap.size A' n' c' xs ∧ Below w.heap.size w w' := by
  go_enter Tryd.func41, Tryd.ntmps41
  go_wp2_with fail
  obtain ⟨g1, hg1⟩ : ∃ g1, g1 = w.heap.size := ⟨_, rfl⟩
  have hK1 : Blk (((w.alloc (.cells #[.slice A n c, .int .i64 x] 70)).alloc (.cells #[.slice none 0 0, .int .i64 0] 72)).alloc (.cells #[.slice none 0 0, .int .i64 0] 72)) g1 70 #[.slice A n c, .int .i64 x] := by rw [hg1]; exact ((Blk.new w _ _).alloc _).alloc _
  have hK2 : Blk (((w.alloc (.cells #[.slice A n c, .int .i64 x] 70)).alloc (.cells #[.slice none 0 0, .int .i64 0] 72)).alloc (.cells #[.slice none 0 0, .int .i64 0] 72)) (w.heap.size + 1) 72 #[.slice none 0 0, .int .i64 0] := by
    have := (Blk.new (w.alloc (.cells #[.slice A n c, .int .i64 x] 70)) 72 #[.slice none 0 0, .int .i64 0]).alloc (.cells #[.slice none 0 0, .int .i64 0] 72)
    simpa using this
  have hK3 : Blk (((w.alloc (.cells #[.slice A n c, .int .i64 x] 70)).alloc (.cells #[.slice none 0 0, .int .i64 0] 72)).alloc (.cells #[.slice none 0 0, .int .i64 0] 72)) (w.heap.size + 1 + 1) 72 #[.slice none 0 0, .int .i64 0] := by
    have := (Blk.new ((w.alloc (.cells #[.slice A n c, .int .i64 x] 70)).alloc (.cells #[.slice none 0 0, .int .i64 0] 72)) 72 #[.slice none 0 0, .int .i64 0])
    simpa using this
  have hb3 : Below w.heap.size w (((w.alloc (.cells #[.slice A n c, .int .i64 x] 70)).alloc (.cells #[.slice none 0 0, .int .i64 0] 72)).alloc (.cells #[.slice none 0 0, .int .i64 0] 72)) := by go_grown
  have hs3 := hs.below hb3 (Nat.le_refl _)
  generalize (((w.alloc (.cells #[.slice A n c, .int .i64 x] 70)).alloc (.cells #[.slice none 0 0, .int .i64 0] 72)).alloc (.cells #[.slice none 0 0, .int .i64 0] 72)) = w3 at *
  rw [← hg1] at hK2 hK3 ⊢
  refine (toIntS_fr _ _ _ xs _ hs3 hn).mono ?_
  rintro e w4 ⟨A4, n4, c4, rfl, ho, hb4⟩
  have hL3 := hK3.lt
  have hb : Below w.heap.size w w4 := hb3.trans (hb4.mono hb3.size)
  have HO := Lib.hid ho
  have HB := Lib.hid hb
  have K1 := hK1.below hb4 hK1.lt
  have K2 := hK2.below hb4 hK2.lt
  have K3 := hK3.below hb4 hK3.lt
  have hc1 : w4.cell? ⟨g1, 1, none⟩ = some (.int .i64 x) := K1.cell 1
  have hc3 : w4.cell? ⟨g1 + 1 + 1, 0, none⟩ = some (.slice none 0 0) := K3.cell 0
  have hf3 := K3.frozen 0
  have hc4 : w4.cell? ⟨g1 + 1 + 1, 1, none⟩ = some (.int .i64 0) := K3.cell 1
  have hf4 := K3.frozen 1
  have hc5 : w4.cell? ⟨g1 + 1, 0, none⟩ = some (.slice none 0 0) := K2.cell 0
  have hf5 := K2.frozen 0
  have hc6 : w4.cell? ⟨g1 + 1, 1, none⟩ = some (.int .i64 0) := K2.cell 1
  have hf6 := K2.frozen 1
  have H2 := Lib.hid K2
  have HG := Lib.hid hg1
  have HL := Lib.hid hL3
  clear ho hb K1 K2 K3 hK1 hK2 hK3 hb3 hs3 hb4 hg1 hL3 hs
  go_wp2
  have HG := HG.out
  have HL := HL.out
  have R := ((((H2.out.far (p := ⟨g1 + 1 + 1, 0, none⟩) (by show g1 + 1 ≠ g1 + 1 + 1; omega) (.slice A4 n4 c4)).far (p := ⟨g1 + 1 + 1, 1, none⟩) (by show g1 + 1 ≠ g1 + 1 + 1; omega) (.int .i64 x)).set_ 0 (.slice A4 n4 c4)).set_ 1 (.int .i64 x))
  have gs : w4.grownBy (w4.setCell ⟨g1 + 1 + 1, 0, none⟩ (.slice A4 n4 c4)) (some (g1 + 1 + 1)) := grown_set _ _ _
  refine bodyPost_ret (results_row Tryd.results41 _ _ (g1 + 1) 72 #[.slice A4 n4 c4, .int .i64 x] _ rfl R Tryd.underlying72 rfl (by kernel_rfl)) rfl ?_
  refine ⟨A4, n4, c4, rfl, ?_, ?_⟩
  · refine ((((HO.out.kept (grown_set _ _ _) ?_).kept (grown_set _ _ _) ?_).kept (grown_set _ _ _) ?_).kept (grown_set _ _ _) ?_).wide (by omega) (by simp) <;>
      (intro b hb e; have := HO.out.lt b hb; injection e with e; simp only [] at e; omega)
  · exact (((HB.out.setCell (by show w.heap.size ≤ g1 + 1 + 1; omega) _).setCell (by show w.heap.size ≤ g1 + 1 + 1; omega) _).setCell (by show w.heap.size ≤ g1 + 1; omega) _).setCell (by show w.heap.size ≤ g1 + 1; omega) _

theorem Tryd.infoTermZP : (Tryd.prog.info? 72).map (fun i => (i.zero, i.size, i.bytes)) = some (some (.agg #[.slice none 0 0, .int .i64 0]), 2, 32) := by kernel_rfl
/-- 'make([]Term, n)'. -/
theorem wpList_make_termsP {ops : Array Oper} {rest : List Oper} {o : Oper} {a : Act} {w : World} {Q : Exit → Act → World → Prop} (hgd : o.guard = none) (l c : Operand) (ho : o.op = .makeSlice 32 l c)
    (n : Nat) (hl : a.eval l = .int .i64 n) (hc : a.eval c = .int .i64 n) (hn : n ≤ 1099511627776)
    (hK : ∀ w', OwnTP w' w.heap.size w'.heap.size (some ⟨w.heap.size, 0, none⟩) n n (zeroT n) → Below w.heap.size w w' → wpList Tryd.prog ops Q rest (a.put o.dst (.slice (some ⟨w.heap.size, 0, none⟩) n n)) w') :
    wpList Tryd.prog ops Q (o :: rest) a w := by
  obtain ⟨i0, hi, hz0, hz1, hz2⟩ := info_parts Tryd.infoTermZP
  refine wpList_make_full w hgd l c 32 ho w.heap.size 72 i0 (.agg #[.slice none 0 0, .int .i64 0]) 2 Tryd.underlying32 hi hz0 hz1 .i64 .i64 n n n hl hc rfl rfl (by rw [hz2]; omega) (by unfold maxLen; omega) (Nat.le_refl _) ?_
  intro w1 ho1 hg1
  refine hK w1 (OwnTP.zeros ho1 ?_) (grow_below hg1 (Nat.le_refl _) (by intro k hk; cases hk))
  exact (ho1.lt w.heap.size rfl).2
set_option maxHeartbeats 800000 in
theorem toTermS_anyP (A : Option Addr) (n c : Nat) (ts : List Tm) (w : World) (hs : TS w A n ts) (hn : n ≤ 1099511627776) (hne : ∀ k, k < n → (tm ts k).1.length ≤ 1099511627776) :
    Calls Tryd.prog 17 #[.slice A n c] w fun e w' => FreshTP w w' e ts := by
  have hl := hs.1
  have HNE := Lib.hid hne
  have HL := Lib.hid hl
  obtain ⟨B, hB⟩ : ∃ B, B = w.heap.size := ⟨_, rfl⟩
  have HB0 : Hid (B = w.heap.size) := hB
  clear hne
  go_enter Tryd.func17, Tryd.ntmps17
  go_wp2_with (at_make; refine wpList_make_termsP rfl (.tmp 6) (.tmp 6) rfl n rfl rfl hn ?_; intro w1 hown hbel1)
  rw [← hB] at hown hbel1 ⊢
  go_loopw [4] (fun i wr => ∃ k : Nat, k ≤ n ∧ i = .int .i64 k ∧ OwnTP wr B wr.heap.size (some ⟨B, 0, none⟩) n n (copT ts k) ∧ Below B w wr)
    (fun i _ => n - (intOf i).toNat)
  case atStart =>
    refine ⟨0, Nat.zero_le _, rfl, ?_, hbel1⟩
    rw [copT_zero, hl]; exact hown
  case round =>
    obtain ⟨k, hk, rfl, hown2, hbel⟩ := hrel
    clear hown hbel1 w1
    have HO := Lib.hid hown2
    have HB := Lib.hid hbel
    by_cases hlt : k < n
    · obtain ⟨b, o, A', n', c', rfl, hb, hc0, hc1, hsi, hnc, hnil⟩ := (hs.below hbel (by omega)).at_ hlt
      obtain ⟨x, hx⟩ : ∃ x, x = (tm ts k).2 := ⟨_, rfl⟩
      obtain ⟨xs, hxs⟩ : ∃ xs, xs = (tm ts k).1 := ⟨_, rfl⟩
      rw [← hx] at hc1
      rw [← hxs] at hsi
      have hn' : n' ≤ 1099511627776 := by have := HNE.out k hlt; rw [← hxs] at this; have := hsi.1; omega
      have HX := Lib.hid hx
      have HXS := Lib.hid hxs
      have HSI := Lib.hid hsi
      clear hx hxs hown2 hbel hs hl hsi hB
      have hlI : (k : Int) < (n : Int) := by omega
      go_wp2_with fail
      refine (toTerm_anyP _ _ _ xs x _ HSI.out hn').mono ?_
      rintro e w2 ⟨A2, n2, c2, rfl, ho2, hb2⟩
      have hO2 := HO.out.below hb2 (Nat.le_refl _)
      obtain ⟨A3, n3, c3, hd0, hd1, hfz, _⟩ := hO2.exp hlt
      have hf0 := hfz (k * 2)
      have hf1 := hfz (k * 2 + 1)
      have hput := hO2.put hlt ho2 (Nat.le_refl _) (Nat.le_trans (by have := HB0.out; have := HB.out.size; omega) (Nat.le_refl _)) hb2.size x
      have HP := Lib.hid hput
      have HB2 := Lib.hid (HB.out.trans (hb2.mono (by have := HB.out.size; have := HB0.out; omega)))
      have HBW := Lib.hid (Nat.le_refl B)
      clear hfz hput hO2 ho2 hb2 HSI hc0 hc1
      go_wp2
      go_roundw
      case rel =>
        refine ⟨k + 1, by omega, by go_num, ?_, ?_⟩
        · have h1 := HP.out.1
          rw [HX.out, HXS.out, copT_succ (by rw [HL.out]; exact hlt)] at h1
          rw [HX.out]
          simpa using h1
        · exact HB2.out.grown HP.out.2 (by have := HB2.out.size; have := HB0.out; omega) (by rintro q ⟨⟩; exact Nat.le_refl _)
      case measure => simp [intOf]; omega
    · have hkn : k = n := by omega
      subst hkn
      go_wp2
      go_ret
      have e := HB0.out
      subst e
      refine ⟨_, _, _, rfl, ?_, HB.out⟩
      have := HO.out
      rw [← HL.out, copT_all] at this
      rw [← HL.out]
      exact this
end Go.Proofs.YtdiiaallklkomaaDoor.Prt

/-
  TermEq, for values of type Part instead of terms (made by wip/gen/gen_cls.py). Conditions: lengths below 2^40.
-/





namespace Go.Proofs.YtdiiaallklkomaaDoor.Prt
open Go.RowKit
section
variable {P : Program} {ops : Array Oper} {C : World → Prop} {Q : Act → Prop} {a : Act} {o : Oper} {rest : List Oper}
end
set_option maxHeartbeats 400000 in
theorem szTerm_anyP (A : Option Addr) (n c : Nat) (x l : Int) (w : World) (hn : n ≤ 9223372036854775807) (h0 : 0 ≤ l) (h1 : l ≤ 1048576) :
    Calls Tryd.prog 39 #[.agg #[.slice A n c, .int .i64 x], .int .i64 l] w fun e w' => e = .returned (.int .i64 (if l < (n : Int) then -1 else l - n)) ∧ Below w.heap.size w w' := by
  by_cases h : l < (n : Int)
  · rw [if_pos h]
    have hS := fun w => szIntS_any A n c l w hn h0 h1
    rw [if_pos h] at hS
    have HS := Lib.hid hS
    clear hS
    go_enter Tryd.func39, Tryd.ntmps39
    go_wp2_with fail
    refine (HS.out _).mono ?_
    rintro e w1 ⟨rfl, rfl⟩
    go_wp2
    go_ret
    exact ⟨rfl, by go_grown⟩
  · rw [if_neg h]
    have hS := fun w => szIntS_any A n c l w hn h0 h1
    rw [if_neg h] at hS
    have HS := Lib.hid hS
    have h2 : ¬ l - (n : Int) < 0 := by omega
    clear hS
    go_enter Tryd.func39, Tryd.ntmps39
    go_wp2_with fail
    refine (HS.out _).mono ?_
    rintro e w1 ⟨rfl, rfl⟩
    obtain ⟨m, hm⟩ : ∃ m, m = l - (n : Int) := ⟨_, rfl⟩
    have HM := Lib.hid hm
    rw [← hm] at h2 ⊢
    clear hm
    go_wp2
    go_ret
    exact ⟨ret_int HM.out, by go_grown⟩

set_option maxHeartbeats 400000 in
theorem eqTerm_anyP (A A' : Option Addr) (n c n' c' : Nat) (xs ys : List Int) (x y : Int) (w : World) (hs : SI w A n xs) (hs' : SI w A' n' ys) (hn : n ≤ 1099511627776) (hn' : n' ≤ 1099511627776) :
    Calls Tryd.prog 45 #[.agg #[.slice A n c, .int .i64 x], .agg #[.slice A' n' c', .int .i64 y]] w fun e w' => e = .returned (.bool (decide ((xs, x) = (ys, y)))) ∧ Below w.heap.size w w' := by
  have hE := eqIntS_any A A' n c n' c' xs ys ((w.alloc (.cells #[.slice A n c, .int .i64 x] 72)).alloc (.cells #[.slice A' n' c', .int .i64 y] 72)) ((hs.alloc _).alloc _) ((hs'.alloc _).alloc _) hn hn'
  have HE := Lib.hid hE
  clear hE hs hs'
  cases hb : eqL xs ys with
  | false =>
    have hne : ¬ xs = ys := by simpa [eqL] using hb
    rw [hb] at HE
    have HN := Lib.hid hne
    clear hne hb
    go_enter Tryd.func45, Tryd.ntmps45
    go_wp2_with fail
    refine HE.out.mono ?_
    rintro e w1 ⟨rfl, m, rfl⟩
    go_wp2
    go_ret
    exact ⟨ret_bool (by simp [HN.out]), Below.drawnN (by go_grown) m⟩
  | true =>
    have he : xs = ys := by simpa [eqL] using hb
    rw [hb] at HE
    have HN := Lib.hid he
    clear he hb
    by_cases hxy : x = y
    · subst hxy
      go_enter Tryd.func45, Tryd.ntmps45
      go_wp2_with fail
      refine HE.out.mono ?_
      rintro e w1 ⟨rfl, m, rfl⟩
      go_wp2
      go_ret
      exact ⟨ret_bool (by simp [HN.out]), Below.drawnN (by go_grown) m⟩
    · have hb : (x != y) = true := by simpa using hxy
      have HXY := Lib.hid hxy
      clear hxy
      go_enter Tryd.func45, Tryd.ntmps45
      go_wp2_with fail
      refine HE.out.mono ?_
      rintro e w1 ⟨rfl, m, rfl⟩
      go_wp2
      go_ret
      exact ⟨ret_bool (by simp [HXY.out]), Below.drawnN (by go_grown) m⟩

set_option maxHeartbeats 800000 in
/-- szTermS: below 0, or everything is small. -/
theorem szTermS_anyP (A : Option Addr) (n c : Nat) (ts : List Tm) (w : World) (hs : TS w A n ts) (hn : n ≤ 9223372036854775807) (hne : ∀ k, k < n → (tm ts k).1.length ≤ 9223372036854775807) :
    Calls Tryd.prog 15 #[.slice A n c, .int .i64 1048576] w fun e w' => (∃ r : Int, e = .returned (.int .i64 r) ∧ (r < 0 ∨ (0 ≤ r ∧ n ≤ 1048576 ∧ ∀ k, k < n → (tm ts k).1.length ≤ 1048576))) ∧ Below w.heap.size w w' := by
  have HNE := Lib.hid hne
  clear hne
  by_cases hbig : (1048576 : Int) < (n : Int)
  · have h' : (1048576 : Int) - (n : Int) < 0 := by omega
    have hw : IntKind.i64.wrap (1048576 - (n : Int)) = 1048576 - (n : Int) := IntWalk.i64_in _ (by omega)
    go_enter Tryd.func15, Tryd.ntmps15
    go_wp2
    go_ret
    exact ⟨⟨_, rfl, .inl (by omega)⟩, Below.refl _ _⟩
  · have h' : ¬ (1048576 : Int) - (n : Int) < 0 := by omega
    have hw : IntKind.i64.wrap (1048576 - (n : Int)) = 1048576 - (n : Int) := IntWalk.i64_in _ (by omega)
    go_enter Tryd.func15, Tryd.ntmps15
    go_wp2
    go_loopw [1, 5] (fun v i wr => ∃ (k : Nat) (l : Int), k ≤ n ∧ i = .int .i64 k ∧ v = .int .i64 l ∧ 0 ≤ l ∧ l ≤ 1048576 ∧ (∀ j, j < k → (tm ts j).1.length ≤ 1048576) ∧ Below w.heap.size w wr)
      (fun _ i _ => n - (intOf i).toNat)
    case atStart => exact ⟨0, _, Nat.zero_le _, rfl, rfl, by omega, by omega, fun j hj => absurd hj (by omega), Below.refl _ _⟩
    case round =>
      obtain ⟨k, l, hk, rfl, rfl, hl0, hl1, hall, hbel⟩ := hrel
      have HA := Lib.hid hall
      have HB := Lib.hid hbel
      clear hall
      clear h' hw
      by_cases hlt : k < n
      · obtain ⟨b, o, A', n', c', rfl, hb, hc0, hc1, hsi, hnc, hnil⟩ := (hs.below hbel (by omega)).at_ hlt
        obtain ⟨x, hx⟩ : ∃ x, x = (tm ts k).2 := ⟨_, rfl⟩
        rw [← hx] at hc1
        have hlen := hsi.1
        have hn' : n' ≤ 9223372036854775807 := by have := HNE.out k hlt; omega
        have HLEN := Lib.hid hlen
        clear hx hsi hbel hs hlen hnil
        have hlI : (k : Int) < (n : Int) := by omega
        by_cases hsm : l < (n' : Int)
        · have hS := fun w => szTerm_anyP A' n' c' x l w hn' hl0 hl1
          rw [if_pos hsm] at hS
          have HS := Lib.hid hS
          clear hS
          go_wp2_with fail
          refine (HS.out _).mono ?_
          rintro e w2 ⟨rfl, hb2⟩
          have HB2 := Lib.hid (HB.out.trans (hb2.mono HB.out.size))
          clear hb2
          go_wp2
          go_ret
          exact ⟨⟨_, rfl, .inl (by omega)⟩, HB2.out⟩
        · have hS := fun w => szTerm_anyP A' n' c' x l w hn' hl0 hl1
          rw [if_neg hsm] at hS
          obtain ⟨m, hm⟩ : ∃ m, m = l - (n' : Int) := ⟨_, rfl⟩
          rw [← hm] at hS
          have HS := Lib.hid hS
          have hm0 : 0 ≤ m := by omega
          have hm1 : m ≤ 1048576 := by omega
          have hmn : ¬ m < 0 := by omega
          have hsml : n' ≤ 1048576 := by omega
          clear hS hm
          go_wp2_with fail
          refine (HS.out _).mono ?_
          rintro e w2 ⟨rfl, hb2⟩
          have HB2 := Lib.hid (HB.out.trans (hb2.mono HB.out.size))
          clear hb2
          go_wp2
          go_roundw
          case rel => exact ⟨k + 1, m, by omega, by go_num, rfl, hm0, hm1, fun j hj => by
            rcases Nat.lt_or_ge j k with h | h
            · exact HA.out j h
            · obtain rfl : j = k := by omega
              have := HLEN.out
              omega, HB2.out⟩
          case measure => simp [intOf]; omega
      · have hkn : k = n := by omega
        subst hkn
        go_wp2
        go_ret
        exact ⟨⟨l, rfl, .inr ⟨hl0, by omega, HA.out⟩⟩, HB.out⟩

set_option maxHeartbeats 1600000 in
theorem eqTermS_anyP (A A' : Option Addr) (n c n' c' : Nat) (ts us : List Tm) (w : World) (hs : TS w A n ts) (hs' : TS w A' n' us) (hn : n ≤ 1099511627776) (hn' : n' ≤ 1099511627776)
    (hne : ∀ k, k < n → (tm ts k).1.length ≤ 1099511627776) (hne' : ∀ k, k < n' → (tm us k).1.length ≤ 1099511627776) :
    Calls Tryd.prog 19 #[.slice A n c, .slice A' n' c'] w fun e w' => e = .returned (.bool (eqTs ts us)) ∧ Below w.heap.size w w' := by
  have HNE := Lib.hid (And.intro hne hne')
  have HL := Lib.hid (And.intro hs.1 hs'.1)
  clear hne hne'
  by_cases hnn : n = n'
  · subst hnn
    go_enter Tryd.func19, Tryd.ntmps19
    go_wp2
    go_loopw [5] (fun i wr => ∃ k : Nat, k ≤ n ∧ i = .int .i64 k ∧ (∀ j, j < k → tm ts j = tm us j) ∧ Below w.heap.size w wr)
      (fun i _ => n - (intOf i).toNat)
    case atStart => exact ⟨0, Nat.zero_le _, rfl, fun j hj => absurd hj (by omega), Below.refl _ _⟩
    case round =>
      obtain ⟨k, hk, rfl, hall, hbel⟩ := hrel
      have HA := Lib.hid hall
      have HB := Lib.hid hbel
      clear hall
      by_cases hlt : k < n
      · obtain ⟨b, o, A1, n1, c1, rfl, hb, hc0, hc1, hsi, hnc, hnil⟩ := (hs.below hbel (by omega)).at_ hlt
        obtain ⟨b', o', A2, n2, c2, rfl, hb', hc0', hc1', hsi', hnc', hnil'⟩ := (hs'.below hbel (by omega)).at_ hlt
        have hl1 : n1 ≤ 1099511627776 := by have := HNE.out.1 k hlt; have := hsi.1; omega
        have hl2 : n2 ≤ 1099511627776 := by have := HNE.out.2 k hlt; have := hsi'.1; omega
        have hlI : (k : Int) < (n : Int) := by omega
        have R1 := TS.range hc0 hc1
        have R2 := TS.range hc0' hc1'
        have call : ∀ w', AfterT wr w' → Calls Tryd.prog 45 #[.agg #[.slice A1 n1 c1, .int .i64 (tm ts k).2], .agg #[.slice A2 n2 c2, .int .i64 (tm us k).2]] w' (fun e w'' => e = .returned (.bool (decide (tm ts k = tm us k))) ∧ AfterT wr w'') := fun w' hw' =>
          (eqTerm_anyP A1 A2 n1 c1 n2 c2 _ _ _ _ w' (hsi.below hw' (Nat.le_refl _)) (hsi'.below hw' (Nat.le_refl _)) hl1 hl2).mono fun e w'' ⟨he, hb⟩ => ⟨he, Below.trans hw' (hb.mono hw'.size)⟩
        have LD1 : ∀ w', AfterT wr w' → w'.rangeAt b (o + k * 2) [.slice A1 n1 c1, .int .i64 (tm ts k).2] := fun w' hw' j v hj => by
          rw [Below.cell hw' (p := ⟨b, o + k * 2 + j, none⟩) hb]; exact R1 j v hj
        have LD2 : ∀ w', AfterT wr w' → w'.rangeAt b' (o' + k * 2) [.slice A2 n2 c2, .int .i64 (tm us k).2] := fun w' hw' j v hj => by
          rw [Below.cell hw' (p := ⟨b', o' + k * 2 + j, none⟩) hb']; exact R2 j v hj
        obtain ⟨x, hx⟩ : ∃ x, x = (tm ts k).2 := ⟨_, rfl⟩
        obtain ⟨y, hy⟩ : ∃ y, y = (tm us k).2 := ⟨_, rfl⟩
        obtain ⟨q, hq⟩ : ∃ q, q = decide (tm ts k = tm us k) := ⟨_, rfl⟩
        rw [← hx] at LD1 call
        rw [← hy] at LD2 call
        rw [← hq] at call
        have HQ := Lib.hid hq
        have CA := Lib.hid call
        have L1 := Lib.hid LD1
        have L2 := Lib.hid LD2
        clear hc0 hc1 hc0' hc1' hsi hsi' hs hs' hbel R1 R2 call LD1 LD2 hx hy hq hnil hnil'
        go_wp2_with fail
        refine tq_class (AfterT wr) (by kernel_rfl) (by kernel_rfl) (Below.refl _ _).drew ?_
        refine tq_move rfl _ rfl ?_
        refine tq_move rfl _ rfl ?_
        refine wpQuiet_step (fun K hK => ?_)
        go_simp
        refine ⟨.pointer (some ⟨b, o + k * 2, none⟩), fun w' _ => rfl, hK _ ?_⟩
        clear hK K
        refine tq_load rfl 72 (.tmp 19) rfl b (o + k * 2) rfl [.slice A1 n1 c1, .int .i64 x] _ L1.out Tryd.underlying72 rfl Tryd.infoTermP ?_
        refine tq_move rfl _ rfl ?_
        refine tq_move rfl _ rfl ?_
        refine wpQuiet_step (fun K hK => ?_)
        go_simp
        refine ⟨.pointer (some ⟨b', o' + k * 2, none⟩), fun w' _ => rfl, hK _ ?_⟩
        clear hK K
        refine tq_load rfl 72 (.tmp 23) rfl b' (o' + k * 2) rfl [.slice A2 n2 c2, .int .i64 y] _ L2.out Tryd.underlying72 rfl Tryd.infoTermP ?_
        refine wpQuiet_step (fun K hK => ?_)
        go_simp
        refine ⟨.bool q, fun w' hw' => CA.out w' hw', hK _ ?_⟩
        clear hK K
        refine wpQuiet_step (fun K hK => ?_)
        go_simp
        refine ⟨.bool (!q), fun w' _ => rfl, hK _ ?_⟩
        clear hK K
        refine wpQuiet_nil ?_
        intro w5 hw5
        have HB5 := Lib.hid (HB.out.trans (Below.mono hw5 HB.out.size))
        clear hw5 L1 L2 CA
        cases q with
        | true =>
          go_wp2
          go_roundw
          case rel => exact ⟨k + 1, by omega, by go_num, fun j hj => by
            rcases Nat.lt_or_ge j k with h | h
            · exact HA.out j h
            · obtain rfl : j = k := by omega
              exact of_decide_eq_true HQ.out.symm, HB5.out⟩
          case measure => simp [intOf]; omega
        | false =>
          go_wp2
          go_ret
          exact ⟨ret_bool (eqTs_ne (k := k) (of_decide_eq_false HQ.out.symm)).symm, HB5.out⟩
      · have hkn : k = n := by omega
        subst hkn
        go_wp2
        go_ret
        exact ⟨ret_bool (eqTs_all (by have := HL.out; omega) (by rw [HL.out.1]; exact HA.out)).symm, HB.out⟩
  · have hne' : ¬ (n : Int) = (n' : Int) := by omega
    go_enter Tryd.func19, Tryd.ntmps19
    go_wp2
    go_ret
    exact ⟨ret_bool (eqTs_len (by have := HL.out; omega)).symm, Below.refl _ _⟩
end Go.Proofs.YtdiiaallklkomaaDoor.Prt

/-
  What a list of parts is: both sides answer partsB. Conditions: lengths below 2^40.
-/




namespace Go.Proofs.YtdiiaallklkomaaDoor
open Go.RowKit

def partAt (ts : List Tm) (k : Nat) : Prop := isShapeB (tm ts k).1 = true ∧ (tm ts k).2 ≠ 0 ∧ (0 < k → lessL (tm ts (k - 1)).1 (tm ts k).1 = true)
instance (ts : List Tm) (k : Nat) : Decidable (partAt ts k) := by unfold partAt; infer_instance
def partsB (ts : List Tm) : Bool := (List.range ts.length).all fun k => decide (partAt ts k)
theorem partsB_iff (ts : List Tm) : partsB ts = true ↔ ∀ k, k < ts.length → partAt ts k := by simp [partsB]
theorem partsB_yes {ts : List Tm} (h : ∀ k, k < ts.length → partAt ts k) : partsB ts = true := (partsB_iff ts).2 h
theorem partsB_no {ts : List Tm} {k : Nat} (hk : k < ts.length) (h : ¬ partAt ts k) : partsB ts = false := by
  cases hb : partsB ts with
  | false => rfl
  | true => exact absurd ((partsB_iff ts).1 hb k hk) h

set_option maxRecDepth 100000 in
set_option maxHeartbeats 6400000 in
theorem specParts_any (A : Option Addr) (n c : Nat) (ts : List Tm) (w : World) (hs : TS w A n ts) (hn : n ≤ 1099511627776) (hne : ∀ k, k < n → (tm ts k).1.length ≤ 1099511627776) :
    Calls Tryd.prog 40 #[.slice A n c] w fun e w' => e = .returned (.bool (partsB ts)) ∧ Drawn w w' := by
  have HL := Lib.hid hs.1
  have HNE := Lib.hid hne
  clear hne
  go_enter Tryd.func40, Tryd.ntmps40
  go_wp2
  go_loopw [3] (fun iv wr => ∃ k : Nat, k ≤ n ∧ iv = .int .i64 k ∧ Drawn w wr ∧ ∀ j, j < k → partAt ts j)
    (fun iv _ => n - (intOf iv).toNat)
  case atStart => exact ⟨0, Nat.zero_le _, rfl, Drawn.refl _, fun j hj => absurd hj (by omega)⟩
  case round =>
    obtain ⟨k, hk, rfl, hD, hall⟩ := hrel
    have HD := Lib.hid hD
    have HA := Lib.hid hall
    have hts := hs.drawn hD
    clear hD hall hs
    by_cases hlt : k < n
    · have hlI : (k : Int) < (n : Int) := by omega
      have HFAIL : Hid (¬ partAt ts k → partsB ts = false) := Lib.hid (fun h => partsB_no (by rw [HL.out]; exact hlt) h)
      obtain ⟨b, o, A', n', c', rfl, hb, hc0, hc1, hsi, _, _⟩ := hts.at_ hlt
      obtain ⟨x, hx⟩ : ∃ x, x = (tm ts k).2 := ⟨_, rfl⟩
      rw [← hx] at hc1
      have HX := Lib.hid hx
      have hln : n' ≤ 1099511627776 := by have := HNE.out k hlt; have := hsi.1; omega
      have CA1 := fun nd => Calls.quiet_of (specIsShape_any A' n' c' (tm ts k).1 (wr.drewN nd) (hsi.drewN nd) hln)
      cases hsh : isShapeB (tm ts k).1 with
      | false =>
        rw [hsh] at CA1
        have CB1 := Lib.hid CA1
        have HF := Lib.hid (HFAIL.out (fun h => by rw [h.1] at hsh; simp at hsh))
        clear hts hx hsi CA1 hsh
        go_wp2_with fail
        go_quiet ((go_at_call 64; with_reducible exact CB1.out _))
        go_wp2
        go_ret
        exact ⟨ret_bool HF.out.symm, HD.out.drewN _⟩
      | true =>
        rw [hsh] at CA1
        have CB1 := Lib.hid CA1
        have HSH := Lib.hid hsh
        clear hsh CA1
        by_cases h0 : x = 0
        · have HF := Lib.hid (HFAIL.out (fun h => h.2.1 (by rw [← hx]; exact h0)))
          subst h0
          clear hts hx hsi
          go_wp2_with fail
          go_quiet ((go_at_call 64; with_reducible exact CB1.out _))
          go_wp2
          go_ret
          exact ⟨ret_bool HF.out.symm, HD.out.drewN _⟩
        · have hx0 : (x == 0) = false := by simpa using h0
          cases k with
          | zero =>
            have HG : Hid (partAt ts 0) := Lib.hid ⟨HSH.out, by rw [← HX.out]; exact h0, fun h => absurd h (by omega)⟩
            rw [Nat.zero_mul, Nat.add_zero] at hc0
            rw [Nat.zero_mul, Nat.add_zero] at hc1
            clear hts hx hsi
            go_wp2_with fail
            go_quiet ((go_at_call 64; with_reducible exact CB1.out _))
            go_wp2
            go_roundw
            case rel => exact ⟨1, by omega, by go_num, HD.out.drewN _, fun j hj => by
              obtain rfl : j = 0 := by omega
              exact HG.out⟩
            case measure => simp [intOf]; omega
          | succ m =>
            obtain ⟨b3, o3, A3, n3, c3, e3, hb3, hd0, hd1, hsi3, _, _⟩ := hts.at_ (k := m) (by omega)
            obtain ⟨rfl, rfl⟩ : b = b3 ∧ o = o3 := by simpa using e3
            have hln3 : n3 ≤ 1099511627776 := by have := HNE.out m (by omega); have := hsi3.1; omega
            have CA2 := fun nd => Calls.quiet_of (l1Less_any A3 A' n3 c3 n' c' (tm ts m).1 (tm ts (m + 1)).1 (wr.drewN nd) (hsi3.drewN nd) (hsi.drewN nd) hln3 hln)
            have hmw : IntKind.i64.wrap (((m + 1 : Nat) : Int) - 1) = (m : Int) := by rw [IntWalk.i64_in _ (by omega)]; omega
            have hm0 : (0 : Int) < ((m + 1 : Nat) : Int) := by omega
            have hmI : (m : Int) < (n : Int) := by omega
            have hsub : m + 1 - 1 = m := by omega
            cases hq : lessL (tm ts m).1 (tm ts (m + 1)).1 with
            | false =>
              rw [hq] at CA2
              have CB2 := Lib.hid CA2
              have HF := Lib.hid (HFAIL.out (fun h => by have h2 := h.2.2 (by omega); rw [hsub, hq] at h2; simp at h2))
              clear hts hx hsi hsi3 CA2 hq hd1 hsub
              go_wp2_with fail
              go_quiet ((first | (go_at_call 64; with_reducible exact CB1.out _) | (go_at_call 65; with_reducible exact CB2.out _)))
              go_wp2
              go_ret
              exact ⟨ret_bool HF.out.symm, HD.out.drewN _⟩
            | true =>
              rw [hq] at CA2
              have CB2 := Lib.hid CA2
              have HG : Hid (partAt ts (m + 1)) := Lib.hid ⟨HSH.out, by rw [← HX.out]; exact h0, fun _ => by rw [hsub]; exact hq⟩
              clear hts hx hsi hsi3 CA2 hq hd1 hsub
              go_wp2_with fail
              go_quiet ((first | (go_at_call 64; with_reducible exact CB1.out _) | (go_at_call 65; with_reducible exact CB2.out _)))
              go_wp2
              go_roundw
              case rel => exact ⟨m + 1 + 1, by omega, by go_num, HD.out.drewN _, fun j hj => by
                rcases Nat.lt_or_ge j (m + 1) with h | h
                · exact HA.out j h
                · rw [show j = m + 1 by omega]; exact HG.out⟩
              case measure => simp [intOf]; omega
    · have hkn : k = n := by omega
      subst hkn
      have HT := Lib.hid (partsB_yes (ts := ts) (by rw [HL.out]; exact HA.out))
      clear hts
      go_wp2
      go_ret
      exact ⟨ret_bool HT.out.symm, HD.out⟩

set_option maxHeartbeats 1600000 in
theorem compareParts_any (A A2 : Option Addr) (n c n2 c2 : Nat) (xs ys : List Int) (x y : Int) (w : World) (hs : SI w A n xs) (hs2 : SI w A2 n2 ys) (hn : n ≤ 1099511627776) (hn2 : n2 ≤ 1099511627776) :
    Calls Tryd.prog 67 #[.agg #[.slice A n c, .int .i64 x], .agg #[.slice A2 n2 c2, .int .i64 y]] w fun e w' => e = .returned (.int .i64 (cmpL xs ys)) ∧ Below w.heap.size w w' := by
  have HC := Lib.hid (fun (w1 : World) (hb : Below w.heap.size w w1) => sliceCompare_any A A2 n c n2 c2 xs ys w1 (hs.below hb (Nat.le_refl _)) (hs2.below hb (Nat.le_refl _)) hn hn2)
  clear hs hs2
  go_enter Tryd.func67, Tryd.ntmps67
  go_wp2_with (go_at_call 82; refine (HC.out _ (by go_grown)).mono ?_; rintro e w1 ⟨rfl, hd⟩; have HD := Lib.hid hd; clear hd)
  go_ret
  exact ⟨rfl, Below.trans (by go_grown) (HD.out.below _)⟩
end Go.Proofs.YtdiiaallklkomaaDoor

/-
  Is a list of terms a polynomial: both sides answer polyB. Conditions: lengths below 2^40.
-/

namespace Go.Proofs.YtdiiaallklkomaaDoor
open Go.RowKit

theorem isCoef_yes {x : Int} (h : x ≠ 0 ∧ -1000000 ≤ x ∧ x ≤ 1000000) (w : World) : Calls Tryd.prog 74 #[.int .i64 x] w fun r w' => r = .returned (.bool true) ∧ w' = w := by
  obtain ⟨h0, h1, h2⟩ := h
  have hb : (x != 0) = true := by simpa using h0
  go_enter Tryd.func74, Tryd.ntmps74
  go_wp2
  go_ret
  exact ⟨rfl, rfl⟩
theorem isCoef_no {x : Int} (h : ¬ (x ≠ 0 ∧ -1000000 ≤ x ∧ x ≤ 1000000)) (w : World) : Calls Tryd.prog 74 #[.int .i64 x] w fun r w' => r = .returned (.bool false) ∧ w' = w := by
  by_cases h0 : x = 0
  · subst h0
    clear h
    go_enter Tryd.func74, Tryd.ntmps74
    go_wp2
    go_ret
    exact ⟨rfl, rfl⟩
  · have hb : (x != 0) = true := by simpa using h0
    by_cases h1 : -1000000 ≤ x
    · have h2 : ¬ x ≤ 1000000 := fun h2 => h ⟨h0, h1, h2⟩
      clear h h0
      go_enter Tryd.func74, Tryd.ntmps74
      go_wp2
      go_ret
      exact ⟨rfl, rfl⟩
    · clear h h0
      go_enter Tryd.func74, Tryd.ntmps74
      go_wp2
      go_ret
      exact ⟨rfl, rfl⟩
end Go.Proofs.YtdiiaallklkomaaDoor

/-
  Is a list of terms a polynomial: the program's side answers polyB. Conditions: lengths below 2^40.
-/

namespace Go.Proofs.YtdiiaallklkomaaDoor
open Go.RowKit

theorem quiet_loadmid {P : Program} {C : World → Prop} {a : Act} {o : Oper} {K : Act → Prop} (ty : TypeId) (x : Operand) (ho : o.op = .load ty x) (b off : Nat) (hx : a.eval x = .pointer (some ⟨b, off, none⟩)) (cs : List Value) (d : TypeDesc)
    (hb : ∀ w, C w → w.rangeAt b off cs) (hu : P.underlying ty = some d) (hd : d.isRow = true) (hi : (P.info? ty).map (·.size) = some cs.length) (hk : K (a.put o.dst (.agg cs.toArray))) : o.quiet P a C K :=
  ⟨_, fun w hw => by
    unfold Oper.quietAt execOp
    simp only [ho, hx, Instr.loadAt, Instr.sureAddr, Sem.run_bind, Sem.run_pure, Result.andThen_ok, run_loadVar_mid w b off ty cs d (hb w hw) hu hd hi]
    exact ⟨rfl, rfl⟩, hk⟩

end Go.Proofs.YtdiiaallklkomaaDoor

/-
  What a list of parts is: the program's side answers partsB. Conditions: lengths below 2^40.
-/


namespace Go.Proofs.YtdiiaallklkomaaDoor
open Go.RowKit

theorem quiet_loadcell0 {C : World → Prop} {a : Act} {o : Oper} {K : Act → Prop} (ty : TypeId) (x : Operand) (ho : o.op = .load ty x) (b off : Nat) (hx : a.eval x = .pointer (some ⟨b, off, none⟩)) (v : Value)
    (hb : ∀ w, C w → w.cell? ⟨b, off, none⟩ = some v) (hu : ty = 3) (hk : K (a.put o.dst v)) : o.quiet Tryd.prog a C K :=
  ⟨_, fun w hw => by
    subst hu
    have hc := hb w hw
    have hl : (loadVar 3 ⟨b, off, none⟩).run Tryd.prog w = .ok v w := by
      simp [loadVar, isAgg, underlying, Tryd.underlying3, hc, Result.andThen]
    unfold Oper.quietAt execOp
    simp only [ho, hx, Instr.loadAt, Instr.sureAddr, Sem.run_bind, Sem.run_pure, Result.andThen_ok, hl]
    exact ⟨rfl, rfl⟩, hk⟩

set_option maxRecDepth 100000 in
set_option maxHeartbeats 1600000 in
theorem implParts_any (A : Option Addr) (n c : Nat) (ts : List Tm) (w : World) (hs : TS w A n ts) (hn : n ≤ 1099511627776) (hne : ∀ k, k < n → (tm ts k).1.length ≤ 1099511627776) :
    Calls Tryd.prog 42 #[.slice A n c] w fun r w' => r = .returned (.bool (partsB ts)) ∧ Below w.heap.size w w' := by
  have HL := Lib.hid hs.1
  have HNE := Lib.hid hne
  clear hne
  go_enter Tryd.func42, Tryd.ntmps42
  go_wp2
  go_loopw [7] (fun i wr => ∃ k : Nat, k ≤ n ∧ i = .int .i64 k ∧ (∀ j, j < k → partAt ts j) ∧ Below w.heap.size w wr)
    (fun i _ => n - (intOf i).toNat)
  case atStart => exact ⟨0, Nat.zero_le _, rfl, fun j hj => absurd hj (by omega), Below.refl _ _⟩
  case round =>
    obtain ⟨k, hk, rfl, hall, hbel⟩ := hrel
    have HA := Lib.hid hall
    have HB := Lib.hid hbel
    have hts := hs.below hbel (Nat.le_refl _)
    clear hall hbel hs
    by_cases hlt : k < n
    · have hlI : (k : Int) < (n : Int) := by omega
      obtain ⟨b, o, A', n', c', rfl, hb, hc0, hc1, hsi, hnc, hnil⟩ := hts.at_ hlt
      have NO : Hid (¬ partAt ts k → partsB ts = false) := Lib.hid (fun h => partsB_no (by rw [HL.out]; exact hlt) h)
      obtain ⟨x, hx⟩ : ∃ x, x = (tm ts k).2 := ⟨_, rfl⟩
      rw [← hx] at hc1
      have HX := Lib.hid hx
      have hln : n' ≤ 1099511627776 := by have := HNE.out k hlt; have := hsi.1; omega
      have HT := Lib.hid hts
      have HSI := Lib.hid hsi
      clear hts hsi hx hnil
      go_wp2_with fail
      obtain ⟨w5, hw5⟩ : ∃ w5, w5 = wr.alloc (.cells #[.slice A' n' c', .int .i64 x] 72) := ⟨_, rfl⟩
      have hb5 : Below wr.heap.size wr w5 := by rw [hw5]; exact (Below.refl _ _).alloc (Nat.le_refl _) _
      have hK5 : Blk w5 wr.heap.size 72 #[.slice A' n' c', .int .i64 x] := by rw [hw5]; exact Blk.new _ _ _
      have LG : ∀ w', AfterT w5 w' → w'.rangeAt wr.heap.size 0 [.slice A' n' c', .int .i64 x] := fun w' hw' j v hj => by
        rw [(hK5.below hw' hK5.lt).cell]
        match j, hj with
        | 0, hj => simp at hj; subst hj; rfl
        | 1, hj => simp at hj; subst hj; rfl
      have LC0 : ∀ w', AfterT w5 w' → w'.cell? ⟨wr.heap.size, 0, none⟩ = some (.slice A' n' c') := fun w' hw' => by rw [(hK5.below hw' hK5.lt).cell]; rfl
      have LC1 : ∀ w', AfterT w5 w' → w'.cell? ⟨wr.heap.size, 1, none⟩ = some (.int .i64 x) := fun w' hw' => by rw [(hK5.below hw' hK5.lt).cell]; rfl
      have S5 := HSI.out.below hb5 (Nat.le_refl _)
      have T5 := HT.out.below hb5 (Nat.le_refl _)
      have call1 : ∀ w', AfterT w5 w' → Calls Tryd.prog 66 #[.slice A' n' c'] w' (fun r w'' => r = .returned (.bool (isShapeB (tm ts k).1)) ∧ AfterT w5 w'') := fun w' hw' =>
        (implIsShape_any A' n' c' (tm ts k).1 w' (S5.below hw' (Nat.le_refl _)) hln).mono fun r w'' ⟨hr, hd⟩ => ⟨hr, Below.trans hw' (hd.below _)⟩
      have HB5 := Lib.hid (HB.out.trans (hb5.mono HB.out.size))
      obtain ⟨G, hG⟩ : ∃ G, G = wr.heap.size := ⟨_, rfl⟩
      rw [← hG] at LG LC0 LC1 ⊢
      rw [← hw5]
      have L1 := Lib.hid LG
      have C0 := Lib.hid LC0
      have C1 := Lib.hid LC1
      clear hw5 hb5 hK5 LG LC0 LC1 hG hc0 hc1
      cases hsh : isShapeB (tm ts k).1 with
      | false =>
        rw [hsh] at call1
        have CA1 := Lib.hid call1
        have HF := Lib.hid (NO.out (fun h => by rw [h.1] at hsh; simp at hsh))
        clear call1 hsh S5 T5
        refine tq_class (AfterT w5) (by kernel_rfl) (by kernel_rfl) (Below.refl _ _).drew ?_
        go_big_quiet_want
        go_big_quiet_op
        first | go_big_quiet_on | (refine ⟨_, fun _ _ => rfl, ?_⟩; go_big_quiet_on)
        go_big_quiet_want
        refine quiet_loadcell1 24 (.tmp 12) rfl G 0 rfl _ C0.out rfl ?_
        go_big_quiet_on
        go_simp
        go_big_quiet_want
        go_big_quiet_op
        refine ⟨.bool false, fun w' hw' => CA1.out w' hw', ?_⟩
        go_big_quiet_on
        go_big_quiet_want
        go_big_quiet_op
        first | go_big_quiet_on | (refine ⟨_, fun _ _ => rfl, ?_⟩; go_big_quiet_on)
        go_big_quiet_want
        go_big_quiet_op
        first | go_big_quiet_on | (refine ⟨_, fun _ _ => rfl, ?_⟩; go_big_quiet_on)
        repeat go_big_quiet_skip
        go_big_quiet_want
        go_big_quiet_op
        first | go_big_quiet_on | (refine ⟨_, fun _ _ => rfl, ?_⟩; go_big_quiet_on)
        go_big_quiet_want
        go_big_quiet_op
        first | go_big_quiet_on | (refine ⟨_, fun _ _ => rfl, ?_⟩; go_big_quiet_on)
        repeat go_big_quiet_skip
        go_big_quiet_want
        go_big_quiet_op
        first | go_big_quiet_on | (refine ⟨_, fun _ _ => rfl, ?_⟩; go_big_quiet_on)
        refine wpQuiet_nil ?_
        intro w6 hw6
        have HB6 := Lib.hid (HB5.out.trans (Below.mono hw6 HB5.out.size))
        clear hw6 L1 CA1 C0 C1
        go_wp2
        go_ret
        exact ⟨ret_bool HF.out.symm, HB6.out⟩
      | true =>
        rw [hsh] at call1
        have CA1 := Lib.hid call1
        have HSH := Lib.hid hsh
        clear call1 hsh
        by_cases h0 : x = 0
        · have HF := Lib.hid (NO.out (fun h => h.2.1 (by rw [← HX.out]; exact h0)))
          subst h0
          clear S5 T5
          refine tq_class (AfterT w5) (by kernel_rfl) (by kernel_rfl) (Below.refl _ _).drew ?_
          go_big_quiet_want
          go_big_quiet_op
          first | go_big_quiet_on | (refine ⟨_, fun _ _ => rfl, ?_⟩; go_big_quiet_on)
          go_big_quiet_want
          refine quiet_loadcell1 24 (.tmp 12) rfl G 0 rfl _ C0.out rfl ?_
          go_big_quiet_on
          go_simp
          go_big_quiet_want
          go_big_quiet_op
          refine ⟨.bool true, fun w' hw' => CA1.out w' hw', ?_⟩
          go_big_quiet_on
          go_big_quiet_want
          go_big_quiet_op
          first | go_big_quiet_on | (refine ⟨_, fun _ _ => rfl, ?_⟩; go_big_quiet_on)
          go_big_quiet_want
          go_big_quiet_op
          first | go_big_quiet_on | (refine ⟨_, fun _ _ => rfl, ?_⟩; go_big_quiet_on)
          go_big_quiet_want
          go_big_quiet_op
          first | go_big_quiet_on | (refine ⟨_, fun _ _ => rfl, ?_⟩; go_big_quiet_on)
          go_big_quiet_want
          refine quiet_loadcell0 3 (.tmp 17) rfl G 1 rfl _ C1.out rfl ?_
          go_big_quiet_on
          go_simp
          go_big_quiet_want
          go_big_quiet_op
          first | go_big_quiet_on | (refine ⟨_, fun _ _ => rfl, ?_⟩; go_big_quiet_on)
          go_big_quiet_want
          go_big_quiet_op
          first | go_big_quiet_on | (refine ⟨_, fun _ _ => rfl, ?_⟩; go_big_quiet_on)
          go_big_quiet_want
          go_big_quiet_op
          first | go_big_quiet_on | (refine ⟨_, fun _ _ => rfl, ?_⟩; go_big_quiet_on)
          repeat go_big_quiet_skip
          go_big_quiet_want
          go_big_quiet_op
          first | go_big_quiet_on | (refine ⟨_, fun _ _ => rfl, ?_⟩; go_big_quiet_on)
          refine wpQuiet_nil ?_
          intro w6 hw6
          have HB6 := Lib.hid (HB5.out.trans (Below.mono hw6 HB5.out.size))
          clear hw6 L1 CA1 C0 C1
          go_wp2
          go_ret
          exact ⟨ret_bool HF.out.symm, HB6.out⟩
        · have hx0 : (x == 0) = false := by simpa using h0
          cases k with
          | zero =>
            have HG : Hid (partAt ts 0) := Lib.hid ⟨HSH.out, by rw [← HX.out]; exact h0, fun h => absurd h (by omega)⟩
            clear S5 T5
            refine tq_class (AfterT w5) (by kernel_rfl) (by kernel_rfl) (Below.refl _ _).drew ?_
            go_big_quiet_want
            go_big_quiet_op
            first | go_big_quiet_on | (refine ⟨_, fun _ _ => rfl, ?_⟩; go_big_quiet_on)
            go_big_quiet_want
            refine quiet_loadcell1 24 (.tmp 12) rfl G 0 rfl _ C0.out rfl ?_
            go_big_quiet_on
            go_simp
            go_big_quiet_want
            go_big_quiet_op
            refine ⟨.bool true, fun w' hw' => CA1.out w' hw', ?_⟩
            go_big_quiet_on
            go_big_quiet_want
            go_big_quiet_op
            first | go_big_quiet_on | (refine ⟨_, fun _ _ => rfl, ?_⟩; go_big_quiet_on)
            go_big_quiet_want
            go_big_quiet_op
            first | go_big_quiet_on | (refine ⟨_, fun _ _ => rfl, ?_⟩; go_big_quiet_on)
            go_big_quiet_want
            go_big_quiet_op
            first | go_big_quiet_on | (refine ⟨_, fun _ _ => rfl, ?_⟩; go_big_quiet_on)
            go_big_quiet_want
            refine quiet_loadcell0 3 (.tmp 17) rfl G 1 rfl _ C1.out rfl ?_
            go_big_quiet_on
            go_simp
            go_big_quiet_want
            go_big_quiet_op
            first | go_big_quiet_on | (refine ⟨_, fun _ _ => rfl, ?_⟩; go_big_quiet_on)
            go_big_quiet_want
            go_big_quiet_op
            first | go_big_quiet_on | (refine ⟨_, fun _ _ => rfl, ?_⟩; go_big_quiet_on)
            go_big_quiet_want
            go_big_quiet_op
            first | go_big_quiet_on | (refine ⟨_, fun _ _ => rfl, ?_⟩; go_big_quiet_on)
            go_big_quiet_want
            go_big_quiet_op
            first | go_big_quiet_on | (refine ⟨_, fun _ _ => rfl, ?_⟩; go_big_quiet_on)
            go_big_quiet_want
            go_big_quiet_op
            first | go_big_quiet_on | (refine ⟨_, fun _ _ => rfl, ?_⟩; go_big_quiet_on)
            go_big_quiet_want
            go_big_quiet_op
            first | go_big_quiet_on | (refine ⟨_, fun _ _ => rfl, ?_⟩; go_big_quiet_on)
            repeat go_big_quiet_skip
            go_big_quiet_want
            go_big_quiet_op
            first | go_big_quiet_on | (refine ⟨_, fun _ _ => rfl, ?_⟩; go_big_quiet_on)
            go_big_quiet_want
            go_big_quiet_op
            first | go_big_quiet_on | (refine ⟨_, fun _ _ => rfl, ?_⟩; go_big_quiet_on)
            refine wpQuiet_nil ?_
            intro w6 hw6
            have HB6 := Lib.hid (HB5.out.trans (Below.mono hw6 HB5.out.size))
            clear hw6 L1 CA1 C0 C1
            go_wp2
            go_roundw
            case rel => exact ⟨1, by omega, by go_num, fun j hj => by
              obtain rfl : j = 0 := by omega
              exact HG.out, HB6.out⟩
            case measure => simp [intOf]; omega
          | succ m =>
            obtain ⟨b3, o3, A3, n3, c3, e3, hb3, hd0, hd1, hsi3, _, _⟩ := T5.at_ (k := m) (by omega)
            obtain ⟨rfl, rfl⟩ : b = b3 ∧ o = o3 := by simpa using e3
            have hln3 : n3 ≤ 1099511627776 := by have := HNE.out m (by omega); have := hsi3.1; omega
            have R3 := TS.range hd0 hd1
            have LP : ∀ w', AfterT w5 w' → w'.rangeAt b (o + m * 2) [.slice A3 n3 c3, .int .i64 (tm ts m).2] := fun w' hw' j v hj => by
              rw [Below.cell hw' (p := ⟨b, o + m * 2 + j, none⟩) hb3]; exact R3 j v hj
            have call2 : ∀ w', AfterT w5 w' → Calls Tryd.prog 67 #[.agg #[.slice A3 n3 c3, .int .i64 (tm ts m).2], .agg #[.slice A' n' c', .int .i64 x]] w' (fun r w'' => r = .returned (.int .i64 (cmpL (tm ts m).1 (tm ts (m + 1)).1)) ∧ AfterT w5 w'') := fun w' hw' =>
              (compareParts_any A3 A' n3 c3 n' c' (tm ts m).1 (tm ts (m + 1)).1 (tm ts m).2 x w' (hsi3.below hw' (Nat.le_refl _)) (S5.below hw' (Nat.le_refl _)) hln3 hln).mono fun r w'' ⟨hr, hb⟩ => ⟨hr, Below.trans hw' (hb.mono hw'.size)⟩
            obtain ⟨y, hy⟩ : ∃ y, y = (tm ts m).2 := ⟨_, rfl⟩
            obtain ⟨q, hq⟩ : ∃ q, q = cmpL (tm ts m).1 (tm ts (m + 1)).1 := ⟨_, rfl⟩
            rw [← hy] at LP call2
            rw [← hq] at call2
            have HQ := Lib.hid hq
            have LP1 := Lib.hid LP
            have CA2 := Lib.hid call2
            have hmw : IntKind.i64.wrap (((m + 1 : Nat) : Int) - 1) = (m : Int) := by rw [IntWalk.i64_in _ (by omega)]; omega
            have hm0 : (0 : Int) < ((m + 1 : Nat) : Int) := by omega
            have hmI : (m : Int) < (n : Int) := by omega
            clear S5 T5 hsi3 hd0 hd1 R3 LP call2 hy hq
            refine tq_class (AfterT w5) (by kernel_rfl) (by kernel_rfl) (Below.refl _ _).drew ?_
            go_big_quiet_want
            go_big_quiet_op
            first | go_big_quiet_on | (refine ⟨_, fun _ _ => rfl, ?_⟩; go_big_quiet_on)
            go_big_quiet_want
            refine quiet_loadcell1 24 (.tmp 12) rfl G 0 rfl _ C0.out rfl ?_
            go_big_quiet_on
            go_simp
            go_big_quiet_want
            go_big_quiet_op
            refine ⟨.bool true, fun w' hw' => CA1.out w' hw', ?_⟩
            go_big_quiet_on
            go_big_quiet_want
            go_big_quiet_op
            first | go_big_quiet_on | (refine ⟨_, fun _ _ => rfl, ?_⟩; go_big_quiet_on)
            go_big_quiet_want
            go_big_quiet_op
            first | go_big_quiet_on | (refine ⟨_, fun _ _ => rfl, ?_⟩; go_big_quiet_on)
            go_big_quiet_want
            go_big_quiet_op
            first | go_big_quiet_on | (refine ⟨_, fun _ _ => rfl, ?_⟩; go_big_quiet_on)
            go_big_quiet_want
            refine quiet_loadcell0 3 (.tmp 17) rfl G 1 rfl _ C1.out rfl ?_
            go_big_quiet_on
            go_simp
            go_big_quiet_want
            go_big_quiet_op
            first | go_big_quiet_on | (refine ⟨_, fun _ _ => rfl, ?_⟩; go_big_quiet_on)
            go_big_quiet_want
            go_big_quiet_op
            first | go_big_quiet_on | (refine ⟨_, fun _ _ => rfl, ?_⟩; go_big_quiet_on)
            go_big_quiet_want
            go_big_quiet_op
            first | go_big_quiet_on | (refine ⟨_, fun _ _ => rfl, ?_⟩; go_big_quiet_on)
            go_big_quiet_want
            go_big_quiet_op
            first | go_big_quiet_on | (refine ⟨_, fun _ _ => rfl, ?_⟩; go_big_quiet_on)
            go_big_quiet_want
            go_big_quiet_op
            first | go_big_quiet_on | (refine ⟨_, fun _ _ => rfl, ?_⟩; go_big_quiet_on)
            go_big_quiet_want
            go_big_quiet_op
            first | go_big_quiet_on | (refine ⟨_, fun _ _ => rfl, ?_⟩; go_big_quiet_on)
            go_big_quiet_want
            go_big_quiet_op
            first | go_big_quiet_on | (refine ⟨_, fun _ _ => rfl, ?_⟩; go_big_quiet_on)
            go_big_quiet_want
            go_big_quiet_op
            first | go_big_quiet_on | (refine ⟨_, fun _ _ => rfl, ?_⟩; go_big_quiet_on)
            go_big_quiet_want
            go_big_quiet_op
            first | go_big_quiet_on | (refine ⟨_, fun _ _ => rfl, ?_⟩; go_big_quiet_on)
            go_big_quiet_want
            go_big_quiet_op
            first | go_big_quiet_on | (refine ⟨_, fun _ _ => rfl, ?_⟩; go_big_quiet_on)
            go_big_quiet_want
            refine quiet_loadmid 72 (.tmp 28) rfl b (o + m * 2) rfl [.slice A3 n3 c3, .int .i64 y] _ LP1.out Tryd.underlying72 rfl Prt.Tryd.infoTermP ?_
            go_big_quiet_on
            go_simp
            go_big_quiet_want
            refine quiet_loadmid 72 (.tmp 4) rfl G (0) rfl [.slice A' n' c', .int .i64 x] _ L1.out Tryd.underlying72 rfl Prt.Tryd.infoTermP ?_
            go_big_quiet_on
            go_simp
            go_big_quiet_want
            go_big_quiet_op
            refine ⟨.int .i64 q, fun w' hw' => CA2.out w' hw', ?_⟩
            go_big_quiet_on
            go_big_quiet_want
            go_big_quiet_op
            first | go_big_quiet_on | (refine ⟨_, fun _ _ => rfl, ?_⟩; go_big_quiet_on)
            go_big_quiet_want
            go_big_quiet_op
            first | go_big_quiet_on | (refine ⟨_, fun _ _ => rfl, ?_⟩; go_big_quiet_on)
            go_big_quiet_want
            go_big_quiet_op
            first | go_big_quiet_on | (refine ⟨_, fun _ _ => rfl, ?_⟩; go_big_quiet_on)
            refine wpQuiet_nil ?_
            intro w6 hw6
            have HB6 := Lib.hid (HB5.out.trans (Below.mono hw6 HB5.out.size))
            clear hw6 L1 CA1 LP1 CA2 C0 C1
            by_cases hq0 : 0 ≤ q
            · have HF := Lib.hid (NO.out (fun h => by have h2 := h.2.2 (by omega); rw [show m + 1 - 1 = m by omega, lessL_no (by rw [← HQ.out]; exact hq0)] at h2; simp at h2))
              go_wp2
              go_ret
              exact ⟨ret_bool HF.out.symm, HB6.out⟩
            · have HG : Hid (partAt ts (m + 1)) := Lib.hid ⟨HSH.out, by rw [← HX.out]; exact h0, fun _ => by rw [show m + 1 - 1 = m by omega]; have := HQ.out; unfold lessL; simp only [decide_eq_true_eq]; omega⟩
              go_wp2
              go_roundw
              case rel => exact ⟨m + 1 + 1, by omega, by go_num, fun j hj => by
                rcases Nat.lt_or_ge j (m + 1) with h | h
                · exact HA.out j h
                · rw [show j = m + 1 by omega]; exact HG.out, HB6.out⟩
              case measure => simp [intOf]; omega
    · have hkn : k = n := by omega
      subst hkn
      have HT := Lib.hid (partsB_yes (ts := ts) (by rw [HL.out]; exact HA.out))
      clear hts
      go_wp2
      go_ret
      exact ⟨ret_bool HT.out.symm, HB.out⟩
end Go.Proofs.YtdiiaallklkomaaDoor

/-
  Sums of shapes as texts: the document's FormatParts. Conditions: at most 2^20 parts, numbers that an int holds.
-/




namespace Go.Proofs.YtdiiaallklkomaaDoor
open Go.RowKit

/-- What FormatParts answers, as bytes. -/
def prL (ts : List Tm) : List Int := if partsB ts = true then sumL (fun k => paP (tm ts k)) ts.length else []
def FitT (ts : List Tm) : Prop := ∀ k, k < ts.length → -9223372036854775808 ≤ (tm ts k).2 ∧ (tm ts k).2 ≤ 9223372036854775807
theorem shape_fit {xs : List Int} (h : isShapeB xs = true) : FitI xs ∧ xs.length ≤ 16 := by
  have hp := isShapeB_P h
  refine ⟨fun k hk => ?_, hp.1⟩
  have h1 := hp.2 k hk
  have h2 := prevS_le (xs := xs) (k := k) (fun j hj => hp.2 j (by omega))
  unfold shapeAt at h1
  omega
theorem parts_shape {ts : List Tm} (h : partsB ts = true) {k : Nat} (hk : k < ts.length) : isShapeB (tm ts k).1 = true := by
  have h1 := (partsB_iff ts).1 h k hk
  exact h1.1
theorem paP_len {ts : List Tm} (h : partsB ts = true) (hf : FitT ts) (k : Nat) : (paP (tm ts k)).length ≤ 400 := by
  have hx : (txtL (tm ts k).2).length ≤ 21 ∧ (fmsL (tm ts k).1).length ≤ 352 := by
    rcases Nat.lt_or_ge k ts.length with hk | hk
    · obtain ⟨h1, h2⟩ := shape_fit (parts_shape h hk)
      have h3 := txP_len h1 (tm ts k).1.length (Nat.le_refl _)
      exact ⟨txtL_len (hf k hk), by unfold fmsL; omega⟩
    · have e : tm ts k = ([], 0) := by unfold tm; simp [List.getD, List.getElem?_eq_none hk]
      rw [e]
      exact ⟨txtL_len (by decide), by unfold fmsL; simp [txP]⟩
  unfold paP
  rw [List.length_append, List.length_append]
  simp
  omega
set_option maxRecDepth 100000 in
set_option maxHeartbeats 4000000 in
theorem specFpa_any (A : Option Addr) (n c : Nat) (ts : List Tm) (w : World) (hs : TS w A n ts) (hn : n ≤ 1048576) (hne : ∀ k, k < n → (tm ts k).1.length ≤ 1048576) (hf : FitT ts) :
    Calls Tryd.prog 16 #[.slice A n c] w fun e w' => e = .returned (.string (strOfNums (prL ts))) ∧ Below w.heap.size w w' := by
  have HL := Lib.hid hs.1
  have HP := Lib.hid (specParts_any A n c ts w hs (by omega) (fun k hk => Nat.le_trans (hne k hk) (by decide)))
  cases hb : partsB ts with
  | false =>
    rw [hb] at HP
    have HE : Hid (prL ts = []) := Lib.hid (by unfold prL; rw [if_neg (by rw [hb]; decide)])
    clear hb hs
    go_enter Tryd.func16, Tryd.ntmps16
    go_wp2_with (go_at_call 40; (with_reducible refine HP.out.mono ?_); rintro e w1 ⟨rfl, hd1⟩; have HD1 := Lib.hid hd1; clear hd1)
    go_ret
    exact ⟨by rw [HE.out]; rfl, HD1.out.below _⟩
  | true =>
    rw [hb] at HP
    have HPB := Lib.hid hb
    have HE : Hid (prL ts = sumL (fun k => paP (tm ts k)) n) := Lib.hid (by unfold prL; rw [if_pos hb, hs.1])
    have HF := Lib.hid hf
    clear hb hf
    by_cases hn0 : n = 0
    · have HZ0 : Hid (prL ts = [48]) := Lib.hid (by rw [HE.out]; unfold sumL; rw [if_pos hn0])
      subst hn0
      clear hs
      go_enter Tryd.func16, Tryd.ntmps16
      go_wp2_with (go_at_call 40; (with_reducible refine HP.out.mono ?_); rintro e w1 ⟨rfl, hd1⟩; have HD1 := Lib.hid hd1; clear hd1)
      go_ret
      exact ⟨by rw [HZ0.out]; rfl, HD1.out.below _⟩
    · have HZ0 : Hid (prL ts = jnP (fun k => paP (tm ts k)) n) := Lib.hid (by rw [HE.out]; unfold sumL; rw [if_neg hn0])
      have hnI : ¬ (n : Int) = 0 := by omega
      go_enter Tryd.func16, Tryd.ntmps16
      go_wp2_with (go_at_call 40; (with_reducible refine HP.out.mono ?_); rintro e w1 ⟨rfl, hd1⟩; have HD1 := Lib.hid hd1; clear hd1)
      rw [show ((n : Int) == 0) = false by simp; omega]
      go_loopw [3, 4] (fun sv iv wr => ∃ k : Nat, k ≤ n ∧ iv = .int .i64 k ∧ sv = .string (strOfNums (jnP (fun k => paP (tm ts k)) k)) ∧ Below w.heap.size w wr)
        (fun _ iv _ => n - (intOf iv).toNat)
      case atStart => exact ⟨0, Nat.zero_le _, rfl, rfl, HD1.out.below _⟩
      case round =>
        obtain ⟨k, hk, rfl, rfl, hb⟩ := hrel
        have HB := Lib.hid hb
        clear hb hn0 hnI
        by_cases hlt : k < n
        · have hlI : (k : Int) < (n : Int) := by omega
          obtain ⟨b, o, A', n', c', rfl, hb, hc0, hc1, hsi, _, _⟩ := (hs.below HB.out (Nat.le_refl _)).at_ hlt
          have HSI := Lib.hid hsi
          have HX := Lib.hid (HF.out k (by rw [HL.out]; exact hlt))
          have HSF := Lib.hid (shape_fit (parts_shape HPB.out (by rw [HL.out]; exact hlt)))
          have HN' : Hid (n' ≤ 1048576) := Lib.hid (by have h1 := hsi.1; have h2 := HSF.out.2; omega)
          obtain ⟨x, hx⟩ : ∃ x, x = (tm ts k).2 := ⟨_, rfl⟩
          obtain ⟨xs, hxs⟩ : ∃ xs, xs = (tm ts k).1 := ⟨_, rfl⟩
          rw [← hx] at hc1 HX
          rw [← hxs] at HSI HSF
          have HXE : Hid (paP (tm ts k) = txtL x ++ [58] ++ fmsL xs) := Lib.hid (by rw [hx, hxs]; rfl)
          obtain ⟨s1, hs1⟩ : ∃ s, s = strOfNums (txtL x) := ⟨_, rfl⟩
          obtain ⟨s2, hs2⟩ : ∃ s, s = strOfNums (fmsL xs) := ⟨_, rfl⟩
          have HZ1 : Hid (s1.size ≤ 21) := Lib.hid (by rw [hs1, strOfNums_size]; exact txtL_len HX.out)
          have HZ2 : Hid (s2.size ≤ 352) := Lib.hid (by rw [hs2, strOfNums_size]; have h3 := txP_len HSF.out.1 xs.length (Nat.le_refl _); have := HSF.out.2; unfold fmsL; omega)
          have CA1 : Hid (∀ u, AfterT wr u → Calls Tryd.prog 9 #[.int .i64 x] u (fun r u2 => r = .returned (.string s1) ∧ AfterT wr u2)) := Lib.hid (fun u hu => by rw [hs1]; exact (specFmt_any x u HX.out.1 HX.out.2).mono fun r u2 ⟨e1, e2⟩ => ⟨e1, Below.trans hu (e2.mono hu.size)⟩)
          have CA2 : Hid (∀ u, AfterT wr u → Calls Tryd.prog 11 #[.slice A' n' c'] u (fun r u2 => r = .returned (.string s2) ∧ AfterT wr u2)) := Lib.hid (fun u hu => by rw [hs2]; exact (specFms_any A' n' c' xs u (HSI.out.below hu (Nat.le_refl _)) HN'.out HSF.out.1).mono fun r u2 ⟨e1, e2⟩ => ⟨e1, Below.trans hu (e2.mono hu.size)⟩)
          have C1 : Hid (∀ u, AfterT wr u → u.cell? ⟨b, o + k * 2 + 1, none⟩ = some (.int .i64 x)) := Lib.hid (fun u hu => (Below.cell hu (p := ⟨b, o + k * 2 + 1, none⟩) hb).trans hc1)
          have C0 : Hid (∀ u, AfterT wr u → u.cell? ⟨b, o + k * 2, none⟩ = some (.slice A' n' c')) := Lib.hid (fun u hu => (Below.cell hu (p := ⟨b, o + k * 2, none⟩) hb).trans hc0)
          obtain ⟨t, ht⟩ : ∃ t, t = strOfNums (jnP (fun k => paP (tm ts k)) k) := ⟨_, rfl⟩
          have HTZ : Hid (t.size ≤ 421527552) := Lib.hid (by rw [ht, strOfNums_size]; have h1 := jnP_len (paP_len HPB.out HF.out) k; omega)
          have HTE := Lib.hid ht
          have hpc : strOfNums (paP (tm ts k)) = s1 ++ (⟨#[58]⟩ : ByteArray) ++ s2 := by rw [HXE.out, strOfNums_append, strOfNums_append, hs1, hs2]; rfl
          have HPC := Lib.hid hpc
          rw [← ht]
          clear hsi hc0 hc1 hx hxs hs1 hs2 ht hpc hs hb
          rcases Nat.eq_zero_or_pos k with h0 | h0
          · subst h0
            have HN1 : Hid (strOfNums (jnP (fun k => paP (tm ts k)) 1) = t ++ s1 ++ (⟨#[58]⟩ : ByteArray) ++ s2) := Lib.hid (by rw [jnP_first, HPC.out, HTE.out]; show _ = strOfNums [] ++ s1 ++ _ ++ s2; rw [show strOfNums [] = ByteArray.empty from rfl, ByteArray.empty_append, ])
            rw [Nat.zero_mul, Nat.add_zero] at C0 C1
            go_upto_region 11 with fail
            refine tq_class (AfterT wr) (by kernel_rfl) (by kernel_rfl) (Below.refl _ _).drew ?_
            go_big_quiet_want
            go_big_quiet_op
            first | go_big_quiet_on | (refine ⟨_, fun _ _ => rfl, ?_⟩; go_big_quiet_on)
            go_big_quiet_want
            go_big_quiet_op
            first | go_big_quiet_on | (refine ⟨_, fun _ _ => rfl, ?_⟩; go_big_quiet_on)
            go_big_quiet_want
            go_big_quiet_op
            first | go_big_quiet_on | (refine ⟨_, fun _ _ => rfl, ?_⟩; go_big_quiet_on)
            go_big_quiet_want
            go_big_quiet_op
            first | go_big_quiet_on | (refine ⟨_, fun _ _ => rfl, ?_⟩; go_big_quiet_on)
            go_big_quiet_want
            go_big_quiet_op
            first | go_big_quiet_on | (refine ⟨_, fun _ _ => rfl, ?_⟩; go_big_quiet_on)
            go_big_quiet_want
            refine quiet_loadcell0 3 (.tmp 25) rfl b (o + 1) rfl _ C1.out rfl ?_
            go_big_quiet_on
            go_simp
            go_big_quiet_want
            go_big_quiet_op
            refine ⟨.string s1, fun u hu => CA1.out u hu, ?_⟩
            go_big_quiet_on
            go_big_quiet_want
            go_big_quiet_op
            refine ⟨.string (t ++ s1), fun u hu => by rw [if_neg (by have := HTZ.out; have := HZ1.out; have := HZ2.out; have e58 : (⟨#[58]⟩ : ByteArray).size = 1 := rfl; have e44 : (⟨#[44, 32]⟩ : ByteArray).size = 2 := rfl; (try simp only [ByteArray.size_append]); omega)]; exact ⟨rfl, rfl⟩, ?_⟩
            go_big_quiet_on
            go_big_quiet_want
            go_big_quiet_op
            refine ⟨.string (t ++ s1 ++ (⟨#[58]⟩ : ByteArray)), fun u hu => by rw [if_neg (by have := HTZ.out; have := HZ1.out; have := HZ2.out; have e58 : (⟨#[58]⟩ : ByteArray).size = 1 := rfl; have e44 : (⟨#[44, 32]⟩ : ByteArray).size = 2 := rfl; (try simp only [ByteArray.size_append]); omega)]; exact ⟨rfl, rfl⟩, ?_⟩
            go_big_quiet_on
            go_big_quiet_want
            go_big_quiet_op
            first | go_big_quiet_on | (refine ⟨_, fun _ _ => rfl, ?_⟩; go_big_quiet_on)
            go_big_quiet_want
            go_big_quiet_op
            first | go_big_quiet_on | (refine ⟨_, fun _ _ => rfl, ?_⟩; go_big_quiet_on)
            go_big_quiet_want
            go_big_quiet_op
            first | go_big_quiet_on | (refine ⟨_, fun _ _ => rfl, ?_⟩; go_big_quiet_on)
            go_big_quiet_want
            go_big_quiet_op
            first | go_big_quiet_on | (refine ⟨_, fun _ _ => rfl, ?_⟩; go_big_quiet_on)
            go_big_quiet_want
            refine quiet_loadcell1 24 (.tmp 33) rfl b o rfl _ C0.out rfl ?_
            go_big_quiet_on
            go_simp
            go_big_quiet_want
            go_big_quiet_op
            refine ⟨.string s2, fun u hu => CA2.out u hu, ?_⟩
            go_big_quiet_on
            go_big_quiet_want
            go_big_quiet_op
            refine ⟨.string (t ++ s1 ++ (⟨#[58]⟩ : ByteArray) ++ s2), fun u hu => by rw [if_neg (by have := HTZ.out; have := HZ1.out; have := HZ2.out; have e58 : (⟨#[58]⟩ : ByteArray).size = 1 := rfl; have e44 : (⟨#[44, 32]⟩ : ByteArray).size = 2 := rfl; (try simp only [ByteArray.size_append]); omega)]; exact ⟨rfl, rfl⟩, ?_⟩
            go_big_quiet_on
            go_big_quiet_want
            go_big_quiet_op
            first | go_big_quiet_on | (refine ⟨_, fun _ _ => rfl, ?_⟩; go_big_quiet_on)
            refine wpQuiet_nil ?_
            intro w6 hw6
            have HB6 : Hid (Below w.heap.size w w6) := Lib.hid (HB.out.trans (Below.mono hw6 HB.out.size))
            clear hw6
            go_wp2
            go_roundw
            case rel => exact ⟨1, by omega, by go_num, by rw [HN1.out], HB6.out⟩
            case measure => simp [intOf]; omega
          · have hk0 : (0 : Int) < (k : Int) := by omega
            have HN1 : Hid (strOfNums (jnP (fun k => paP (tm ts k)) (k + 1)) = t ++ (⟨#[44, 32]⟩ : ByteArray) ++ s1 ++ (⟨#[58]⟩ : ByteArray) ++ s2) := Lib.hid (by rw [jnP_more (by omega), strOfNums_append, strOfNums_append, HPC.out, HTE.out, ← ByteArray.append_assoc, ← ByteArray.append_assoc]; rfl)
            have hsp : (⟨#[44, 32]⟩ : ByteArray).size = 2 := rfl
            have htz := HTZ.out
            go_upto_region 11 with fail
            all_goals try (exfalso; omega)
            refine tq_class (AfterT wr) (by kernel_rfl) (by kernel_rfl) (Below.refl _ _).drew ?_
            go_big_quiet_want
            go_big_quiet_op
            first | go_big_quiet_on | (refine ⟨_, fun _ _ => rfl, ?_⟩; go_big_quiet_on)
            go_big_quiet_want
            go_big_quiet_op
            first | go_big_quiet_on | (refine ⟨_, fun _ _ => rfl, ?_⟩; go_big_quiet_on)
            go_big_quiet_want
            go_big_quiet_op
            first | go_big_quiet_on | (refine ⟨_, fun _ _ => rfl, ?_⟩; go_big_quiet_on)
            go_big_quiet_want
            go_big_quiet_op
            first | go_big_quiet_on | (refine ⟨_, fun _ _ => rfl, ?_⟩; go_big_quiet_on)
            go_big_quiet_want
            go_big_quiet_op
            first | go_big_quiet_on | (refine ⟨_, fun _ _ => rfl, ?_⟩; go_big_quiet_on)
            go_big_quiet_want
            refine quiet_loadcell0 3 (.tmp 25) rfl b (o + k * 2 + 1) rfl _ C1.out rfl ?_
            go_big_quiet_on
            go_simp
            go_big_quiet_want
            go_big_quiet_op
            refine ⟨.string s1, fun u hu => CA1.out u hu, ?_⟩
            go_big_quiet_on
            go_big_quiet_want
            go_big_quiet_op
            refine ⟨.string (t ++ (⟨#[44, 32]⟩ : ByteArray) ++ s1), fun u hu => by rw [if_neg (by have := HTZ.out; have := HZ1.out; have := HZ2.out; have e58 : (⟨#[58]⟩ : ByteArray).size = 1 := rfl; have e44 : (⟨#[44, 32]⟩ : ByteArray).size = 2 := rfl; (try simp only [ByteArray.size_append]); omega)]; exact ⟨rfl, rfl⟩, ?_⟩
            go_big_quiet_on
            go_big_quiet_want
            go_big_quiet_op
            refine ⟨.string (t ++ (⟨#[44, 32]⟩ : ByteArray) ++ s1 ++ (⟨#[58]⟩ : ByteArray)), fun u hu => by rw [if_neg (by have := HTZ.out; have := HZ1.out; have := HZ2.out; have e58 : (⟨#[58]⟩ : ByteArray).size = 1 := rfl; have e44 : (⟨#[44, 32]⟩ : ByteArray).size = 2 := rfl; (try simp only [ByteArray.size_append]); omega)]; exact ⟨rfl, rfl⟩, ?_⟩
            go_big_quiet_on
            go_big_quiet_want
            go_big_quiet_op
            first | go_big_quiet_on | (refine ⟨_, fun _ _ => rfl, ?_⟩; go_big_quiet_on)
            go_big_quiet_want
            go_big_quiet_op
            first | go_big_quiet_on | (refine ⟨_, fun _ _ => rfl, ?_⟩; go_big_quiet_on)
            go_big_quiet_want
            go_big_quiet_op
            first | go_big_quiet_on | (refine ⟨_, fun _ _ => rfl, ?_⟩; go_big_quiet_on)
            go_big_quiet_want
            go_big_quiet_op
            first | go_big_quiet_on | (refine ⟨_, fun _ _ => rfl, ?_⟩; go_big_quiet_on)
            go_big_quiet_want
            refine quiet_loadcell1 24 (.tmp 33) rfl b (o + k * 2) rfl _ C0.out rfl ?_
            go_big_quiet_on
            go_simp
            go_big_quiet_want
            go_big_quiet_op
            refine ⟨.string s2, fun u hu => CA2.out u hu, ?_⟩
            go_big_quiet_on
            go_big_quiet_want
            go_big_quiet_op
            refine ⟨.string (t ++ (⟨#[44, 32]⟩ : ByteArray) ++ s1 ++ (⟨#[58]⟩ : ByteArray) ++ s2), fun u hu => by rw [if_neg (by have := HTZ.out; have := HZ1.out; have := HZ2.out; have e58 : (⟨#[58]⟩ : ByteArray).size = 1 := rfl; have e44 : (⟨#[44, 32]⟩ : ByteArray).size = 2 := rfl; (try simp only [ByteArray.size_append]); omega)]; exact ⟨rfl, rfl⟩, ?_⟩
            go_big_quiet_on
            go_big_quiet_want
            go_big_quiet_op
            first | go_big_quiet_on | (refine ⟨_, fun _ _ => rfl, ?_⟩; go_big_quiet_on)
            refine wpQuiet_nil ?_
            intro w6 hw6
            have HB6 : Hid (Below w.heap.size w w6) := Lib.hid (HB.out.trans (Below.mono hw6 HB.out.size))
            clear hw6
            go_wp2
            go_roundw
            case rel => exact ⟨k + 1, by omega, by go_num, by rw [HN1.out], HB6.out⟩
            case measure => simp [intOf]; omega
        · obtain rfl : k = n := by omega
          go_wp2
          go_ret
          exact ⟨by rw [HZ0.out]; rfl, HB.out⟩
end Go.Proofs.YtdiiaallklkomaaDoor

/-
  Sums of shapes as texts: the program's FormatParts. Conditions: the library's table; at most 2^20 parts, numbers that an int holds.
-/




namespace Go.Proofs.YtdiiaallklkomaaDoor
open Go.RowKit

/-- The library's Join of pieces. -/
theorem join_any (bk c n : Nat) (ps : Nat → List Int) (w : World) (hcells : ∀ j, j < n → w.cell? ⟨bk, j, none⟩ = some (.string (strOfNums (ps j)))) (hbk : bk < w.heap.size) (h0 : 0 < n) (hcap : n ≤ c) (hn : n ≤ 1048576) (hlen : (jnP ps n).length ≤ 140737488355328) :
    Calls Tryd.prog 68 #[.slice (some ⟨bk, 0, none⟩) n c, .string ⟨#[44, 32]⟩] w fun e w' => e = .returned (.string (strOfNums (jnP ps n))) ∧ Below w.heap.size w w' := by
  have e1 : (((List.range n).map fun k => strOfNums (ps k)).map (·.data.toList)) = (List.range n).map fun k => by8 (ps k) := by rw [List.map_map]; rfl
  have e2 : (⟨#[44, 32]⟩ : ByteArray).data.toList = [44, 32] := rfl
  have e3 : ((List.range n).map fun k => strOfNums (ps k)).length = n := by rw [List.length_map, List.length_range]
  have h := Any.strings_Join Tryd.join Tryd.join_x bk 0 c ((List.range n).map fun k => strOfNums (ps k)) ⟨#[44, 32]⟩ w (fun j x hj => by
    have hjn : j < n := by
      rcases Nat.lt_or_ge j n with h1 | h1
      · exact h1
      · rw [List.getElem?_eq_none (by rw [e3]; exact h1)] at hj; cases hj
    rw [List.getElem?_map, List.getElem?_range hjn] at hj
    obtain rfl := Option.some.inj hj
    rw [Nat.zero_add]
    exact hcells j hjn) hbk (by rw [e3]; omega) (by rw [e3]; exact hcap) (by rw [e1, e2, join_jnP ps n h0, by8_len]; exact hlen)
  rw [e3, e1, e2, join_jnP ps n h0] at h
  exact h
theorem Tryd.infoStr : (Tryd.prog.info? 9).map (fun i => (i.zero, i.size, i.bytes)) = some (some (.string ⟨#[]⟩), 1, 16) := by kernel_rfl
/-- 'make([]string, n)'. -/
theorem wpList_make_strs {ops : Array Oper} {rest : List Oper} {o : Oper} {a : Act} {w : World} {Q : Exit → Act → World → Prop} (hgd : o.guard = none) (l c : Operand) (ho : o.op = .makeSlice 98 l c)
    (n : Nat) (hl : a.eval l = .int .i64 n) (hc : a.eval c = .int .i64 n) (hn : n ≤ 1099511627776)
    (hK : ∀ w', w'.ownsRow w.heap.size 9 1 (.slice (some ⟨w.heap.size, 0, none⟩) n n) n ((List.replicate n (⟨#[]⟩ : ByteArray)).map Value.string) → Below w.heap.size w w' → wpList Tryd.prog ops Q rest (a.put o.dst (.slice (some ⟨w.heap.size, 0, none⟩) n n)) w') :
    wpList Tryd.prog ops Q (o :: rest) a w := by
  obtain ⟨i0, hi, hz0, hz1, hz2⟩ := info_parts Tryd.infoStr
  refine wpList_make_full w hgd l c 98 ho w.heap.size 9 i0 (.string ⟨#[]⟩) 1 Tryd.underlying98 hi hz0 hz1 .i64 .i64 n n n hl hc rfl rfl (by rw [hz2]; omega) (by unfold maxLen; omega) (Nat.le_refl _) ?_
  intro w1 ho1 hg1
  refine hK w1 ?_ (grow_below hg1 (Nat.le_refl _) (by intro k hk; cases hk))
  have e : (madeCells (Value.string ⟨#[]⟩).cells (n * 1)).toList = (List.replicate n (⟨#[]⟩ : ByteArray)).map Value.string := by
    apply List.ext_getElem?
    intro j
    by_cases hj : j < n
    · simp [madeCells, hj, Value.cells, Nat.mod_one]
    · rw [List.getElem?_eq_none (by simp [madeCells]; omega), List.getElem?_eq_none (by simp; omega)]
  rw [← e]
  exact ho1
set_option maxRecDepth 100000 in
set_option maxHeartbeats 2000000 in
theorem partFmt_any (A : Option Addr) (n c : Nat) (xs : List Int) (x : Int) (w : World) (hs : SI w A n xs) (hn : n ≤ 1048576) (hf : FitI xs) (hx : -9223372036854775808 ≤ x ∧ x ≤ 9223372036854775807) (htab : Lib.TabIs Tryd.prog w "internal/strconv.uint64pow10" .u64 Lib.pow10Tab) :
    Calls Tryd.prog 44 #[.agg #[.slice A n c, .int .i64 x]] w fun e w' => e = .returned (.string (strOfNums (paP (xs, x)))) ∧ Below w.heap.size w w' := by
  obtain ⟨w1, hw1⟩ : ∃ w1, w1 = w.alloc (.cells #[.slice A n c, .int .i64 x] 72) := ⟨_, rfl⟩
  obtain ⟨g, hg⟩ : ∃ g, g = w.heap.size := ⟨_, rfl⟩
  have hk : Blk w1 g 72 #[.slice A n c, .int .i64 x] := by rw [hw1, hg]; exact Blk.new _ _ _
  have hb : Below w.heap.size w w1 := by rw [hw1]; exact Below.alloc_self _ _
  have HB := Lib.hid hb
  have HW := Lib.hid hw1
  have HG := Lib.hid hg
  have HK := Lib.hid hk
  have HS := Lib.hid (hs.below hb (Nat.le_refl _))
  have HX := Lib.hid hx
  have HN := Lib.hid hn
  have HF := Lib.hid hf
  have HTB := Lib.hid (fun (u : World) (hu : Below w.heap.size w u) => tab_below htab hu)
  obtain ⟨s1, hs1⟩ : ∃ s, s = strOfNums (txtL x) := ⟨_, rfl⟩
  obtain ⟨s2, hs2⟩ : ∃ s, s = strOfNums (fmsL xs) := ⟨_, rfl⟩
  have HZ1 : Hid (s1.size ≤ 21) := Lib.hid (by rw [hs1, strOfNums_size]; exact txtL_len hx)
  have HZ2 : Hid (s2.size ≤ 23068672) := Lib.hid (by rw [hs2, strOfNums_size]; have h3 := txP_len hf xs.length (Nat.le_refl _); have := hs.1; unfold fmsL; omega)
  have HTZ : Hid ((⟨#[]⟩ : ByteArray).size ≤ 0) := Lib.hid (Nat.le_refl _)
  have CA1 : Hid (∀ u, AfterT w1 u → Calls Tryd.prog 10 #[.int .i64 x] u (fun r u2 => r = .returned (.string s1) ∧ AfterT w1 u2)) := Lib.hid (fun u hu => by rw [hs1]; exact (implFmt_any x u HX.out.1 HX.out.2 (HTB.out u (HB.out.trans (Below.mono hu HB.out.size)))).mono fun r u2 ⟨e1, e2⟩ => ⟨e1, Below.trans hu (e2.below.mono hu.size)⟩)
  have CA2 : Hid (∀ u, AfterT w1 u → Calls Tryd.prog 13 #[.slice A n c] u (fun r u2 => r = .returned (.string s2) ∧ AfterT w1 u2)) := Lib.hid (fun u hu => by rw [hs2]; exact (implFms_any A n c xs u (HS.out.below hu (Nat.le_refl _)) HN.out HF.out (HTB.out u (HB.out.trans (Below.mono hu HB.out.size)))).mono fun r u2 ⟨e1, e2⟩ => ⟨e1, Below.trans hu (e2.mono hu.size)⟩)
  have C1 : Hid (∀ u, AfterT w1 u → u.cell? ⟨g, 1, none⟩ = some (.int .i64 x)) := Lib.hid (fun u hu => (HK.out.below hu HK.out.lt).cell 1)
  have C0 : Hid (∀ u, AfterT w1 u → u.cell? ⟨g, 0, none⟩ = some (.slice A n c)) := Lib.hid (fun u hu => (HK.out.below hu HK.out.lt).cell 0)
  have HPC : Hid (strOfNums (paP (xs, x)) = s1 ++ (⟨#[58]⟩ : ByteArray) ++ s2) := Lib.hid (by show strOfNums (txtL x ++ [58] ++ fmsL xs) = _; rw [strOfNums_append, strOfNums_append, hs1, hs2]; rfl)
  clear hk hb hw1 hg hs hx hn hf htab hs1 hs2
  go_enter Tryd.func44, Tryd.ntmps44
  go_upto_region 1 with fail
  rw [← HW.out, ← HG.out]
  refine tq_class (AfterT w1) (by kernel_rfl) (by kernel_rfl) (Below.refl _ _).drew ?_
  go_big_quiet_want
  go_big_quiet_op
  first | go_big_quiet_on | (refine ⟨_, fun _ _ => rfl, ?_⟩; go_big_quiet_on)
  go_big_quiet_want
  refine quiet_loadcell0 3 (.tmp 3) rfl g 1 rfl _ C1.out rfl ?_
  go_big_quiet_on
  go_simp
  go_big_quiet_want
  go_big_quiet_op
  refine ⟨.string s1, fun u hu => CA1.out u hu, ?_⟩
  go_big_quiet_on
  go_big_quiet_want
  go_big_quiet_op
  refine ⟨.string (s1 ++ (⟨#[58]⟩ : ByteArray)), fun u hu => by rw [if_neg (by have := HTZ.out; have := HZ1.out; have := HZ2.out; have e58 : (⟨#[58]⟩ : ByteArray).size = 1 := rfl; have e44 : (⟨#[44, 32]⟩ : ByteArray).size = 2 := rfl; (try simp only [ByteArray.size_append]); omega)]; exact ⟨rfl, rfl⟩, ?_⟩
  go_big_quiet_on
  go_big_quiet_want
  go_big_quiet_op
  first | go_big_quiet_on | (refine ⟨_, fun _ _ => rfl, ?_⟩; go_big_quiet_on)
  go_big_quiet_want
  refine quiet_loadcell1 24 (.tmp 7) rfl g 0 rfl _ C0.out rfl ?_
  go_big_quiet_on
  go_simp
  go_big_quiet_want
  go_big_quiet_op
  refine ⟨.string s2, fun u hu => CA2.out u hu, ?_⟩
  go_big_quiet_on
  go_big_quiet_want
  go_big_quiet_op
  refine ⟨.string (s1 ++ (⟨#[58]⟩ : ByteArray) ++ s2), fun u hu => by rw [if_neg (by have := HTZ.out; have := HZ1.out; have := HZ2.out; have e58 : (⟨#[58]⟩ : ByteArray).size = 1 := rfl; have e44 : (⟨#[44, 32]⟩ : ByteArray).size = 2 := rfl; (try simp only [ByteArray.size_append]); omega)]; exact ⟨rfl, rfl⟩, ?_⟩
  go_big_quiet_on
  go_big_quiet_want
  go_big_quiet_op
  first | go_big_quiet_on | (refine ⟨_, fun _ _ => rfl, ?_⟩; go_big_quiet_on)
  refine wpQuiet_nil ?_
  intro w6 hw6
  have HB6 : Hid (Below w.heap.size w w6) := Lib.hid (HB.out.trans (Below.mono hw6 HB.out.size))
  clear hw6
  go_wp2
  go_ret
  exact ⟨by rw [HPC.out]; rfl, HB6.out⟩
set_option maxRecDepth 100000 in
set_option maxHeartbeats 2000000 in
theorem partsSum_any (A : Option Addr) (n c : Nat) (ts : List Tm) (w : World) (hs : TS w A n ts) (hn : n ≤ 1048576) (hsh : ∀ k, k < ts.length → FitI (tm ts k).1 ∧ (tm ts k).1.length ≤ 16) (hf : FitT ts) (hpl : ∀ k, (paP (tm ts k)).length ≤ 400) (htab : Lib.TabIs Tryd.prog w "internal/strconv.uint64pow10" .u64 Lib.pow10Tab) :
    Calls Tryd.prog 43 #[.slice A n c, .func (.func 44) #[] #[]] w fun e w' => e = .returned (.string (strOfNums (sumL (fun k => paP (tm ts k)) n))) ∧ Below w.heap.size w w' := by
  have HL := Lib.hid hs.1
  have HTB := Lib.hid (fun (u : World) (hu : Below w.heap.size w u) => tab_below htab hu)
  have HSH := Lib.hid hsh
  have HF := Lib.hid hf
  clear htab hsh hf
  by_cases hn0 : n = 0
  · subst hn0
    clear hs
    go_enter Tryd.func43, Tryd.ntmps43
    go_wp2
    go_ret
    exact ⟨rfl, Below.refl _ _⟩
  · have hnI : ¬ (n : Int) = 0 := by omega
    have HN0 : Hid (0 < n) := Lib.hid (by omega)
    obtain ⟨B, hB⟩ : ∃ B, B = w.heap.size := ⟨_, rfl⟩
    have HBE := Lib.hid hB
    go_enter Tryd.func43, Tryd.ntmps43
    go_wp2_with (at_make; refine wpList_make_strs rfl (.tmp 12) (.tmp 12) rfl n rfl rfl (by omega) ?_; intro w1 ho1 hb1; have HO1 := Lib.hid ho1; have HB1 := Lib.hid hb1; clear ho1 hb1)
    rw [← hB] at HO1 HB1 ⊢
    clear hB
    have HO2 : Hid (w1.ownsRow B 9 1 (.slice (some ⟨B, 0, none⟩) n n) n ((((List.range 0).map fun j => strOfNums (paP (tm ts j))) ++ List.replicate (n - 0) (⟨#[]⟩ : ByteArray)).map Value.string)) := Lib.hid HO1.out
    clear HO1
    have HB2 : Hid (Below B w w1) := Lib.hid HB1.out
    clear HB1
    go_loopw [16] (fun iv wr => ∃ k : Nat, k ≤ n ∧ iv = .int .i64 k ∧ wr.ownsRow B 9 1 (.slice (some ⟨B, 0, none⟩) n n) n ((((List.range k).map fun j => strOfNums (paP (tm ts j))) ++ List.replicate (n - k) (⟨#[]⟩ : ByteArray)).map Value.string) ∧ Below B w wr)
      (fun iv _ => n - (intOf iv).toNat)
    case atStart => exact ⟨0, Nat.zero_le _, rfl, HO2.out, HB2.out⟩
    case round =>
      obtain ⟨k, hk, rfl, ho, hb⟩ := hrel
      have HO := Lib.hid ho
      have HB := Lib.hid hb
      clear ho hb HO2 HB2 hn0 hnI
      by_cases hlt : k < n
      · have hlI : (k : Int) < (n : Int) := by omega
        obtain ⟨b, o, A', n', c', rfl, hb, hc0, hc1, hsi, _, _⟩ := (hs.below HB.out (by rw [HBE.out]; exact Nat.le_refl _)).at_ hlt
        have HSI := Lib.hid hsi
        have HX := Lib.hid (HF.out k (by rw [HL.out]; exact hlt))
        have HSF := Lib.hid (HSH.out k (by rw [HL.out]; exact hlt))
        have HN' : Hid (n' ≤ 1048576) := Lib.hid (by have h1 := hsi.1; have h2 := HSF.out.2; omega)
        obtain ⟨x, hx⟩ : ∃ x, x = (tm ts k).2 := ⟨_, rfl⟩
        obtain ⟨xs, hxs⟩ : ∃ xs, xs = (tm ts k).1 := ⟨_, rfl⟩
        rw [← hx] at hc1 HX
        rw [← hxs] at HSI HSF
        have HTM : Hid (tm ts k = (xs, x)) := Lib.hid (by rw [hx, hxs])
        clear hsi hs hx hxs
        go_upto_region 7 with fail
        obtain ⟨w5, hw5⟩ : ∃ w5, w5 = wr.alloc (.cells #[.slice A' n' c', .int .i64 x] 72) := ⟨_, rfl⟩
        obtain ⟨g, hg⟩ : ∃ g, g = wr.heap.size := ⟨_, rfl⟩
        have hK5 : Blk w5 g 72 #[.slice A' n' c', .int .i64 x] := by rw [hw5, hg]; exact Blk.new _ _ _
        have hb5 : Below wr.heap.size wr w5 := by rw [hw5]; exact Below.alloc_self _ _
        rw [← hw5, ← hg]
        have HO5 := Lib.hid (ownsRow_below HO.out hb5 (Nat.le_refl _))
        have HBZ : Hid (B ≤ wr.heap.size) := Lib.hid (by rw [HBE.out]; exact HB.out.size)
        have HB5 : Hid (Below B w w5) := Lib.hid (HB.out.trans (hb5.mono HBZ.out))
        have HZ5 : Hid (B ≤ w5.heap.size) := Lib.hid (Nat.le_trans HBZ.out hb5.size)
        have HFM := Lib.hid (partFmt_any A' n' c' xs x w5 (HSI.out.below hb5 (Nat.le_refl _)) HN'.out HSF.out.1 HX.out (HTB.out w5 (by rw [← HBE.out]; exact HB5.out)))
        have k0 : w5.cell? ⟨g, 0, none⟩ = some (.slice A' n' c') := hK5.cell 0
        have k1 : w5.cell? ⟨g, 1, none⟩ = some (.int .i64 x) := hK5.cell 1
        clear hc0 hc1 hw5 hg hK5 hb5 HSI
        obtain ⟨s, hs⟩ : ∃ s, s = strOfNums (paP (xs, x)) := ⟨_, rfl⟩
        rw [← hs] at HFM
        have HNX : Hid (((((List.range k).map fun j => strOfNums (paP (tm ts j))) ++ List.replicate (n - k) (⟨#[]⟩ : ByteArray)).map Value.string).set k (.string s) = (((List.range (k + 1)).map fun j => strOfNums (paP (tm ts j))) ++ List.replicate (n - (k + 1)) (⟨#[]⟩ : ByteArray)).map Value.string) := Lib.hid (by
          rw [show n - k = (n - (k + 1)) + 1 by omega, List.replicate_succ, List.range_succ, List.map_append, List.map_append, List.set_append_right _ _ (by simp)]
          simp [HTM.out, hs])
        clear hs
        go_wp2_with (go_at_call 44; (with_reducible refine HFM.out.mono ?_); rintro e w6 ⟨rfl, hb6⟩; have hO6 := ownsRow_below HO5.out hb6 (Nat.le_refl _); have hff := hO6.frozenAt k; have HO6 := Lib.hid hO6; have HB6 : Hid (Below B w w6) := Lib.hid (HB5.out.trans (hb6.mono HZ5.out)); have HST := Lib.hid (hO6.stored k (.string s)); obtain ⟨v0, hv0⟩ : ∃ v, w6.cell? ⟨B, k, none⟩ = some v := ⟨_, hO6.cellAt k (by omega) |>.trans (List.getElem?_eq_getElem (by have := hO6.1; omega))⟩; clear hO6 hb6)
        go_roundw
        case rel => exact ⟨k + 1, by omega, by go_num, by rw [← HNX.out]; exact HST.out.1, HB6.out.grown HST.out.2 (by rw [HBE.out]; exact HB6.out.size) (by rintro q ⟨⟩; exact Nat.le_refl _)⟩
        case measure => simp [intOf]; omega
      · obtain rfl : k = n := by omega
        have HC : Hid (∀ j, j < k → wr.cell? ⟨B, j, none⟩ = some (.string (strOfNums (paP (tm ts j))))) := Lib.hid (fun j hj => by rw [HO.out.cellAt j (by omega)]; simp [hj])
        have HLEN : Hid ((jnP (fun k => paP (tm ts k)) k).length ≤ 140737488355328) := Lib.hid (by have h1 := jnP_len hpl k; omega)
        have HJ := Lib.hid (join_any B k k (fun k => paP (tm ts k)) wr HC.out (HO.out.lt B rfl).2 HN0.out (Nat.le_refl _) hn HLEN.out)
        have HS1 : Hid (sumL (fun k => paP (tm ts k)) k = jnP (fun k => paP (tm ts k)) k) := Lib.hid (by unfold sumL; rw [if_neg (by have := HN0.out; omega)])
        clear hs
        go_wp2_with (go_at_call 68; (with_reducible refine HJ.out.mono ?_); rintro e w6 ⟨rfl, hb6⟩; have HB6 := Lib.hid hb6; clear hb6)
        go_ret
        exact ⟨by rw [HS1.out]; rfl, by rw [← HBE.out]; exact HB.out.trans (HB6.out.mono (by rw [HBE.out]; exact HB.out.size))⟩
set_option maxHeartbeats 1000000 in
theorem implFpa_any (A : Option Addr) (n c : Nat) (ts : List Tm) (w : World) (hs : TS w A n ts) (hn : n ≤ 1048576) (hne : ∀ k, k < n → (tm ts k).1.length ≤ 1048576) (hf : FitT ts) (htab : Lib.TabIs Tryd.prog w "internal/strconv.uint64pow10" .u64 Lib.pow10Tab) :
    Calls Tryd.prog 18 #[.slice A n c] w fun e w' => e = .returned (.string (strOfNums (prL ts))) ∧ Below w.heap.size w w' := by
  have HP := Lib.hid (implParts_any A n c ts w hs (by omega) (fun k hk => Nat.le_trans (hne k hk) (by decide)))
  cases hb : partsB ts with
  | false =>
    rw [hb] at HP
    have HE : Hid (prL ts = []) := Lib.hid (by unfold prL; rw [if_neg (by rw [hb]; decide)])
    clear hb hs
    go_enter Tryd.func18, Tryd.ntmps18
    go_wp2_with (go_at_call 42; (with_reducible refine HP.out.mono ?_); rintro e w1 ⟨rfl, hb1⟩; have HB1 := Lib.hid hb1; clear hb1)
    go_ret
    exact ⟨by rw [HE.out]; rfl, HB1.out⟩
  | true =>
    rw [hb] at HP
    have HE : Hid (prL ts = sumL (fun k => paP (tm ts k)) n) := Lib.hid (by unfold prL; rw [if_pos hb, hs.1])
    have HSU := Lib.hid (fun (u : World) (hu : Below w.heap.size w u) => partsSum_any A n c ts u (hs.below hu (Nat.le_refl _)) hn (fun k hk => shape_fit (parts_shape hb hk)) hf (paP_len hb hf) (tab_below htab hu))
    clear hb hs hf htab
    go_enter Tryd.func18, Tryd.ntmps18
    go_wp2_with (first
      | (go_at_call 42; (with_reducible refine HP.out.mono ?_); rintro e w1 ⟨rfl, hb1⟩; have HB1 := Lib.hid hb1; clear hb1)
      | (go_at_call 43; (with_reducible refine (HSU.out _ HB1.out).mono ?_); rintro e w2 ⟨rfl, hb2⟩; have HB2 := Lib.hid hb2; clear hb2))
    go_ret
    exact ⟨by rw [HE.out]; rfl, HB1.out.trans (HB2.out.mono HB1.out.size)⟩
end Go.Proofs.YtdiiaallklkomaaDoor

/-
  Opening a slice of terms that came in. No conditions.
-/



namespace Go.Proofs.YtdiiaallklkomaaDoor
open Go.ChangeShapes Go.WideShapes Go.ChangeAt Go.RowKit

end Go.Proofs.YtdiiaallklkomaaDoor

/-
  TermFrame, for values of type Part instead of terms (made by wip/gen/gen_cls.py). Conditions: lengths below 2^40.
-/




namespace Go.Proofs.YtdiiaallklkomaaDoor.Prt
open Go.RowKit
open Go.ChangeShapes Go.WideShapes Go.ChangeAt Go.RowKit

theorem TS.of_trodP {H : Type} {enc : TypeId × Value → H} {W : World} {q : Nat} {f : Nat → Bool} {a0 : Option Addr} {len0 cap0 : Nat} {d : DataW H} {p : List MemPlace}
    (h0 : DataW.Trod enc Tryd.prog W q f true 29 (.slice a0 len0 cap0) d p) : ∃ ts, TS W a0 len0 ts ∧ len0 ≤ 9223372036854775807 ∧ (∀ k, k < len0 → (tm ts k).1.length ≤ 9223372036854775807) := by
  obtain ⟨fuel, hf⟩ := h0
  rcases Go.Deep.open_slice_pairs Tryd.underlying29 Tryd.underlying70 (by kernel_rfl) rfl rfl (by kernel_rfl) (by kernel_rfl) hf with ⟨hcs, _⟩ | ⟨a, len, cap, m, n, V0, V1, D0, D1, P0, P1, hcs, hb, hl, hm, hmm, _, hx⟩
  · simp [Value.cells] at hcs
    obtain ⟨rfl, rfl, rfl⟩ := hcs
    exact ⟨[], TS.nil _ _, by omega, fun k hk => absurd hk (by omega)⟩
  · simp [Value.cells] at hcs
    obtain ⟨rfl, rfl, rfl⟩ := hcs
    have hlm : len0 ≤ m := by rw [hmm]; split <;> omega
    have each : ∀ i, i < len0 → ∃ t : Tm, ∃ A' n' c', V0 i = .slice A' n' c' ∧ V1 i = .int .i64 t.2 ∧ SI W A' n' t.1 ∧ n' ≤ c' ∧ (A' = none → n' = 0 ∧ c' = 0) ∧ n' ≤ 9223372036854775807 := by
      intro i hi
      obtain ⟨h1, h2, h3, h4⟩ := hx i (by omega)
      obtain ⟨z, hz, _, _⟩ := DataW.trod_int Tryd.underlying3 h4
      rcases open_ints Tryd.underlying24 Tryd.underlying3 (by kernel_rfl) h3 with ⟨hcs, _⟩ | ⟨x, l, c, zs, hcs, _, hl, hm, hzs, _, hcell, _⟩
      · exact ⟨([], z), none, 0, 0, by simpa using hcs, by simpa using hz, SI.nil _ _, Nat.le_refl _, (fun _ => ⟨rfl, rfl⟩), by omega⟩
      · exact ⟨(zs.take l, z), some x, l, c, by simpa using hcs, by simpa using hz, SI.of_cells (by rw [hzs]; split <;> omega) hcell, hl, (fun h => by cases h), by unfold maxLen at hm; omega⟩
    obtain ⟨T, hT⟩ := Go.Deep.choose_lt each
    refine ⟨(List.range len0).map T, ⟨by simp, fun hn => ?_⟩, by unfold maxLen at hm; omega, fun k hk => ?_⟩
    · obtain ⟨b, o, s⟩ := a
      obtain ⟨h1, _⟩ := hx 0 (by omega)
      have hs : s = none := by simpa [Addr.add] using World.cell?_spot h1
      subst hs
      refine ⟨b, o, rfl, block_lt_of_cell (a := ⟨b, o, none⟩) (by simpa [Addr.add] using h1), fun k hk => ?_⟩
      obtain ⟨A', n', c', e0, e1, hsi, hnc, hnil, _⟩ := hT k hk
      obtain ⟨h1, h2, _, _⟩ := hx k (by omega)
      rw [add_pt] at h1 h2
      have et : tm ((List.range len0).map T) k = T k := by simp [tm, List.getD, hk]
      rw [et]
      exact ⟨A', n', c', by rw [h1, e0], by rw [← e1, ← h2]; rfl, hsi, hnc, hnil⟩
    · obtain ⟨A', n', c', _, _, hsi, _, _, hle⟩ := hT k hk
      have et : tm ((List.range len0).map T) k = T k := by simp [tm, List.getD, hk]
      rw [et, hsi.1]
      exact hle
end Go.Proofs.YtdiiaallklkomaaDoor.Prt

/-
  Lists of values of type Part that came in, their numbers within an int. No conditions.
-/




namespace Go.Proofs.YtdiiaallklkomaaDoor.Prt
open Go.RowKit
open Go.ChangeShapes Go.WideShapes Go.ChangeAt Go.RowKit

theorem TS.of_trodPF {H : Type} {enc : TypeId × Value → H} {W : World} {q : Nat} {f : Nat → Bool} {a0 : Option Addr} {len0 cap0 : Nat} {d : DataW H} {p : List MemPlace}
    (h0 : DataW.Trod enc Tryd.prog W q f true 29 (.slice a0 len0 cap0) d p) : ∃ ts, TS W a0 len0 ts ∧ len0 ≤ 9223372036854775807 ∧ (∀ k, k < len0 → (tm ts k).1.length ≤ 9223372036854775807) ∧ ∀ k, k < ts.length → -9223372036854775808 ≤ (tm ts k).2 ∧ (tm ts k).2 ≤ 9223372036854775807 := by
  obtain ⟨fuel, hf⟩ := h0
  rcases Go.Deep.open_slice_pairs Tryd.underlying29 Tryd.underlying70 (by kernel_rfl) rfl rfl (by kernel_rfl) (by kernel_rfl) hf with ⟨hcs, _⟩ | ⟨a, len, cap, m, n, V0, V1, D0, D1, P0, P1, hcs, hb, hl, hm, hmm, _, hx⟩
  · simp [Value.cells] at hcs
    obtain ⟨rfl, rfl, rfl⟩ := hcs
    exact ⟨[], TS.nil _ _, by omega, fun k hk => absurd hk (by omega), fun k hk => absurd hk (Nat.not_lt_zero _)⟩
  · simp [Value.cells] at hcs
    obtain ⟨rfl, rfl, rfl⟩ := hcs
    have hlm : len0 ≤ m := by rw [hmm]; split <;> omega
    have each : ∀ i, i < len0 → ∃ t : Tm, ∃ A' n' c', V0 i = .slice A' n' c' ∧ V1 i = .int .i64 t.2 ∧ SI W A' n' t.1 ∧ n' ≤ c' ∧ (A' = none → n' = 0 ∧ c' = 0) ∧ n' ≤ 9223372036854775807 ∧ (-9223372036854775808 ≤ t.2 ∧ t.2 ≤ 9223372036854775807) := by
      intro i hi
      obtain ⟨h1, h2, h3, h4⟩ := hx i (by omega)
      obtain ⟨z, hz, _, wz⟩ := DataW.trod_int Tryd.underlying3 h4
      rcases open_ints Tryd.underlying24 Tryd.underlying3 (by kernel_rfl) h3 with ⟨hcs, _⟩ | ⟨x, l, c, zs, hcs, _, hl, hm, hzs, _, hcell, _⟩
      · exact ⟨([], z), none, 0, 0, by simpa using hcs, by simpa using hz, SI.nil _ _, Nat.le_refl _, (fun _ => ⟨rfl, rfl⟩), by omega, bounds_i64 wz⟩
      · exact ⟨(zs.take l, z), some x, l, c, by simpa using hcs, by simpa using hz, SI.of_cells (by rw [hzs]; split <;> omega) hcell, hl, (fun h => by cases h), by unfold maxLen at hm; omega, bounds_i64 wz⟩
    obtain ⟨T, hT⟩ := Go.Deep.choose_lt each
    refine ⟨(List.range len0).map T, ⟨by simp, fun hn => ?_⟩, by unfold maxLen at hm; omega, fun k hk => ?_, fun k hk => ?_⟩
    · obtain ⟨b, o, s⟩ := a
      obtain ⟨h1, _⟩ := hx 0 (by omega)
      have hs : s = none := by simpa [Addr.add] using World.cell?_spot h1
      subst hs
      refine ⟨b, o, rfl, block_lt_of_cell (a := ⟨b, o, none⟩) (by simpa [Addr.add] using h1), fun k hk => ?_⟩
      obtain ⟨A', n', c', e0, e1, hsi, hnc, hnil, _⟩ := hT k hk
      obtain ⟨h1, h2, _, _⟩ := hx k (by omega)
      rw [add_pt] at h1 h2
      have et : tm ((List.range len0).map T) k = T k := by simp [tm, List.getD, hk]
      rw [et]
      exact ⟨A', n', c', by rw [h1, e0], by rw [← e1, ← h2]; rfl, hsi, hnc, hnil⟩
    · obtain ⟨A', n', c', _, _, hsi, _, _, hle, _⟩ := hT k hk
      have et : tm ((List.range len0).map T) k = T k := by simp [tm, List.getD, hk]
      rw [et, hsi.1]
      exact hle
    · have hk2 : k < len0 := by simpa using hk
      obtain ⟨A', n', c', _, _, _, _, _, _, hz⟩ := hT k hk2
      have et : tm ((List.range len0).map T) k = T k := by simp [tm, List.getD, hk2]
      rw [et]
      exact hz
end Go.Proofs.YtdiiaallklkomaaDoor.Prt

/-
  Permutations as texts, on both sides. Conditions: lengths below 2^40.
-/



namespace Go.Proofs.YtdiiaallklkomaaDoor
open Go.RowKit

/-- The bytes of a permutation's text. -/
def fmtN (xs : List Int) : List Int := xs.map fun x => 49 + x
theorem fmtN_len (xs : List Int) : (fmtN xs).length = xs.length := by simp [fmtN]
theorem fmtN_nth {xs : List Int} {k : Nat} (h : k < xs.length) : nth (fmtN xs) k = 49 + nth xs k := by
  rw [nth_get (by rw [fmtN_len]; exact h), nth_get h]; simp [fmtN]
def fmtB (xs : List Int) : ByteArray := if isPermB xs = true then strOfNums (fmtN xs) else ByteArray.empty
theorem fmtB_no {xs : List Int} (h : isPermB xs = false) : fmtB xs = ByteArray.empty := by unfold fmtB; rw [if_neg (by rw [h]; decide)]
theorem fmtB_yes {xs : List Int} (h : isPermB xs = true) : fmtB xs = strOfNums (fmtN xs) := by unfold fmtB; rw [if_pos h]
theorem Tryd.infoByte : (Tryd.prog.info? 5).map (fun i => (i.zero, i.size, i.bytes)) = some (some (.int .u8 0), 1, 1) := by kernel_rfl
theorem ret_str {a b : ByteArray} (h : a = b) : Ending.returned (.string a) = .returned (.string b) := by rw [h]

/-- 'out = append(out, b)' on a slice of bytes of the call's own. -/
theorem wpList_append1b {ops : Array Oper} {rest : List Oper} {o : Oper} {a : Act} {w : World} {Q : Exit → Act → World → Prop} (hgd : o.guard = none) (s x : Operand)
    (ho : o.op = .call { callee := .builtin .append, args := #[s, x], argTypes := #[58, 58] })
    (lo : Nat) (A : Option Addr) (n c : Nat) (xs : List Int) (v : Int) (hs : a.eval s = .slice A n c) (hx : a.eval x = .slice (some ⟨w.heap.size, 0, none⟩) 1 1)
    (hown : w.ownsRow lo 5 1 (.slice A n c) n (xs.map (Value.int .u8))) (hlo : lo ≤ w.heap.size) (hn : n ≤ 1099511627776)
    (hK : ∀ g c' w', w'.ownsRow lo 5 1 (.slice (some ⟨g, 0, none⟩) (n + 1) c') (n + 1) ((xs ++ [v]).map (Value.int .u8)) → Below lo w w' → wpList Tryd.prog ops Q rest (a.put o.dst (.slice (some ⟨g, 0, none⟩) (n + 1) c')) w') :
    wpList Tryd.prog ops Q (o :: rest) a (w.alloc (.cells #[.int .u8 v] 5)) := by
  obtain ⟨i0, hi, hz0, hz1, hz2⟩ := info_parts Tryd.infoByte
  refine wpList_append_own _ hgd s x 58 ho lo 5 i0 (.int .u8 0) 1 1 Tryd.underlying58 hi hz0 hz1 hz2 rfl (by decide) _ _ _ hs (hown.alloc _) ⟨w.heap.size, 0, none⟩ 1 1 [.int .u8 v] hx rfl ?_ ?_ (by unfold maxLen; omega) (by omega) (by simp; omega) ?_
  · intro j u hj
    match j, hj with
    | 0, hj =>
      simp at hj
      subst hj
      rw [add_pt]
      exact (Blk.new w 5 #[.int .u8 v]).cell 0
  · intro u hu
    simp at hu
    subst hu
    rfl
  · intro v' w1 ho1 hg1 _
    have e1 : List.map (Value.int .u8) xs ++ [Value.int .u8 v] = (xs ++ [v]).map (Value.int .u8) := by simp
    rw [e1] at ho1
    obtain ⟨g, cap, rfl, _, _⟩ := ho1.form (by omega)
    exact hK _ _ w1 ho1 (grow_below ((World.grownBy_alloc w _ _).trans hg1) hlo (fun k hk => (hown.lt k hk).1))

set_option maxHeartbeats 800000 in
theorem specFormat_any (A : Option Addr) (n c : Nat) (xs : List Int) (w : World) (hs : SI w A n xs) (hnc : n ≤ c) (hn : n ≤ 1099511627776) :
    Calls Tryd.prog 48 #[.slice A n c] w fun e w' => e = .returned (.string (fmtB xs)) ∧ Below w.heap.size w w' := by
  have hl := hs.1
  cases hu : isPermB xs with
  | false =>
    have HE := Lib.hid (fmtB_no hu)
    have HU := Lib.hid hu
    clear hu
    go_enter Tryd.func48, Tryd.ntmps48
    go_wp2_with (go_at_call 69; refine (specIsPerm_is c HU.out hs hnc hn).mono ?_; rintro e w1 ⟨rfl, hd1⟩)
    go_ret
    exact ⟨ret_str HE.out.symm, hd1.below _⟩
  | true =>
    have hp := isPermB_P hu
    have HP := Lib.hid hp
    have HE := Lib.hid (fmtB_yes hu)
    have HU := Lib.hid hu
    have HL := Lib.hid hl
    have h7 : n ≤ 7 := by have := hp.2.1; omega
    have h1 : 1 ≤ n := by have := hp.1; omega
    clear hu hp hl
    go_enter Tryd.func48, Tryd.ntmps48
    go_wp2_with (go_at_call 69; refine (specIsPerm_is c HU.out hs hnc hn).mono ?_; rintro e w1 ⟨rfl, hd1⟩)
    have ho0 : (w1.alloc (.cells #[] 5)).ownsRow w.heap.size 5 1 (.slice (some ⟨w1.heap.size, 0, none⟩) 0 0) 0 (((fmtN xs).take 0).map (Value.int .u8)) := by
      have := World.ownsRow_lit (base := w.heap.size) (e := 5) (size := 1) w1 #[] 0 (by rw [hd1.heap]; exact Nat.le_refl _) (Nat.zero_le _) rfl
      simpa using this
    have hb0 : Below w.heap.size w (w1.alloc (.cells #[] 5)) := (hd1.below _).alloc (by rw [hd1.heap]; exact Nat.le_refl _) _
    go_loopw [3, 4] (fun v i wr => ∃ (k g c' : Nat), k ≤ n ∧ i = .int .i64 k ∧ v = .slice (some ⟨g, 0, none⟩) k c' ∧ wr.ownsRow w.heap.size 5 1 (.slice (some ⟨g, 0, none⟩) k c') k (((fmtN xs).take k).map (Value.int .u8)) ∧ Below w.heap.size w wr)
      (fun _ i _ => n - (intOf i).toNat)
    case atStart => exact ⟨0, _, _, Nat.zero_le _, rfl, rfl, ho0, hb0⟩
    case round =>
      obtain ⟨k, g, c', hk, rfl, rfl, hown, hbel⟩ := hrel
      have HO := Lib.hid hown
      have HB := Lib.hid hbel
      clear ho0 hb0 hd1
      by_cases hlt : k < n
      · have hlI : (k : Int) < (n : Int) := by omega
        obtain ⟨b, o, rfl, hb, hc⟩ := (hs.below hbel (Nat.le_refl _)).at_ (by omega)
        have hc1 := hc k hlt
        obtain ⟨hx0, hx1⟩ := HP.out.range k (by rw [HL.out]; exact hlt)
        rw [HL.out] at hx1
        have htk := take_nth (xs := fmtN xs) (k := k) (by rw [fmtN_len, HL.out]; exact hlt)
        rw [fmtN_nth (by rw [HL.out]; exact hlt)] at htk
        obtain ⟨x, hx⟩ : ∃ x, x = nth xs k := ⟨_, rfl⟩
        rw [← hx] at hc1 hx0 hx1 htk
        have HT := Lib.hid htk
        clear hc hs hown hbel hx htk
        go_wp2_with (at_builtin; refine wpList_append1b rfl (.tmp 15) (.tmp 22) rfl w.heap.size (some ⟨g, 0, none⟩) k c' ((fmtN xs).take k) (49 + x) rfl rfl HO.out HB.out.size (by omega) ?_; intro g' c2 w3 ho hb3)
        go_roundw
        case rel => exact ⟨k + 1, g', c2, by omega, by go_num, rfl, by rw [HT.out]; exact ho, HB.out.trans (hb3.mono (Nat.le_refl _))⟩
        case measure => simp [intOf]; omega
      · have hkn : k = n := by omega
        subst hkn
        have hall : (fmtN xs).take k = fmtN xs := List.take_of_length_le (by rw [fmtN_len, HL.out]; exact Nat.le_refl _)
        rw [hall] at HO
        have hcv := run_convert_bytes_arg (P := Tryd.prog) wr 58 5 Tryd.underlying58 Tryd.underlying5 g 0 k c' (fmtN xs) (by rw [fmtN_len, HL.out]) (fun i hi => by
          have h := HO.out.cellAt i (by omega)
          rw [Nat.zero_add, h, List.getElem?_map, nth_get? (by rw [fmtN_len, HL.out]; exact hi)]; rfl) 9 Tryd.underlying9
        clear hown hbel hs hall
        go_wp2
        go_ret
        exact ⟨ret_str HE.out.symm, HB.out⟩

/-- The first k bytes, then zeros. -/
def fillB (xs : List Int) (k : Nat) : List Int := xs.take k ++ List.replicate (xs.length - k) 0
theorem fillB_zero (xs : List Int) : fillB xs 0 = List.replicate xs.length 0 := by simp [fillB]
theorem fillB_all (xs : List Int) : fillB xs xs.length = xs := by simp [fillB]
theorem fillB_len {xs : List Int} {k : Nat} (h : k ≤ xs.length) : (fillB xs k).length = xs.length := by simp [fillB]; omega
theorem fillB_succ {xs : List Int} {k : Nat} (h : k < xs.length) : (fillB xs k).set k (nth xs k) = fillB xs (k + 1) := by
  unfold fillB
  have hl : (xs.take k).length = k := by simp; omega
  rw [List.set_append_right _ _ (by omega), hl, Nat.sub_self, show xs.length - k = (xs.length - (k + 1)) + 1 by omega, List.replicate_succ, List.set_cons_zero, take_nth h, List.append_assoc]
  rfl

set_option maxHeartbeats 800000 in
theorem implFormat_any (A : Option Addr) (n c : Nat) (xs : List Int) (w : World) (hs : SI w A n xs) (hn : n ≤ 1099511627776) :
    Calls Tryd.prog 76 #[.slice A n c] w fun e w' => e = .returned (.string (fmtB xs)) ∧ Below w.heap.size w w' := by
  have hl := hs.1
  have hI := implIsPerm_any A n c xs w hs hn
  cases hu : isPermB xs with
  | false =>
    rw [hu] at hI
    have HI := Lib.hid hI
    have HE := Lib.hid (fmtB_no hu)
    clear hu hI
    go_enter Tryd.func76, Tryd.ntmps76
    go_wp2_with (go_at_call 72; refine HI.out.mono ?_; rintro e w1 ⟨rfl, hb1⟩)
    go_ret
    exact ⟨ret_str HE.out.symm, hb1⟩
  | true =>
    have hp := isPermB_P hu
    rw [hu] at hI
    have HI := Lib.hid hI
    have HP := Lib.hid hp
    have HE := Lib.hid (fmtB_yes hu)
    have HL := Lib.hid hl
    have HS := Lib.hid hs
    have h7 : n ≤ 7 := by have := hp.2.1; omega
    have h1 : 1 ≤ n := by have := hp.1; omega
    clear hu hp hl hI hs
    obtain ⟨i0, hi, hz0, hz1, hz2⟩ := info_parts Tryd.infoByte
    go_enter Tryd.func76, Tryd.ntmps76
    go_wp2_with (first
      | (go_at_call 72; refine HI.out.mono ?_; rintro e w1 ⟨rfl, hb1⟩; have HB1 := Lib.hid hb1; clear hb1)
      | (at_make; refine wpList_make_full _ rfl (.tmp 10) (.tmp 10) 58 rfl w.heap.size 5 i0 (.int .u8 0) 1 Tryd.underlying58 hi hz0 hz1 .i64 .i64 (n : Int) (n : Int) n rfl rfl rfl rfl (by rw [hz2]; omega) (by unfold maxLen; omega) HB1.out.size ?_; intro w2 hown hgrow))
    obtain ⟨B, hB⟩ : ∃ B, B = w1.heap.size := ⟨_, rfl⟩
    have hBw : w.heap.size ≤ B := by rw [hB]; exact HB1.out.size
    rw [← hB] at hown ⊢
    have hb2 : Below w.heap.size w w2 := HB1.out.grown hgrow HB1.out.size (by intro k hk; cases hk)
    clear hgrow hB hi hz0 hz1 hz2
    go_loopw [14] (fun i wr => ∃ k : Nat, k ≤ n ∧ i = .int .i64 k ∧ wr.ownsRow w.heap.size 5 1 (.slice (some ⟨B, 0, none⟩) n n) n ((fillB (fmtN xs) k).map (Value.int .u8)) ∧ Below w.heap.size w wr)
      (fun i _ => n - (intOf i).toNat)
    case atStart =>
      refine ⟨0, Nat.zero_le _, rfl, ?_, hb2⟩
      rw [fillB_zero, fmtN_len, HL.out]
      have e : (madeCells (Value.int .u8 0).cells (n * 1)).toList = (List.replicate n (0 : Int)).map (Value.int .u8) := by
        rw [show (Value.int .u8 0).cells = #[Value.int .u8 0] from rfl, Nat.mul_one, toList_madeCells_one]; simp
      rw [e] at hown
      exact hown
    case round =>
      obtain ⟨k, hk, rfl, hown2, hbel⟩ := hrel
      clear hown hb2 w2
      have HB := Lib.hid hbel
      by_cases hlt : k < n
      · have hlI : (k : Int) < (n : Int) := by omega
        obtain ⟨b, o, rfl, hb, hc⟩ := (HS.out.below hbel (Nat.le_refl _)).at_ (by omega)
        have hc1 := hc k hlt
        obtain ⟨hx0, hx1⟩ := HP.out.range k (by rw [HL.out]; exact hlt)
        rw [HL.out] at hx1
        have hf := hown2.frozenAt k
        have hc2 : wr.cell? ⟨B, k, none⟩ = some (.int .u8 (nth (fillB (fmtN xs) k) k)) := by
          rw [hown2.cellAt k (by omega), List.getElem?_map, nth_get? (by rw [fillB_len (by rw [fmtN_len, HL.out]; exact hk), fmtN_len, HL.out]; exact hlt)]; rfl
        obtain ⟨y, hy⟩ : ∃ y, y = nth (fillB (fmtN xs) k) k := ⟨_, rfl⟩
        rw [← hy] at hc2
        have hst := (hown2.stored k (.int .u8 (nth (fmtN xs) k))).1
        rw [← List.map_set, fillB_succ (by rw [fmtN_len, HL.out]; exact hlt), fmtN_nth (by rw [HL.out]; exact hlt)] at hst
        obtain ⟨x, hx⟩ : ∃ x, x = nth xs k := ⟨_, rfl⟩
        rw [← hx] at hc1 hx0 hx1 hst
        have HST := Lib.hid hst
        clear hc hown2 hbel hx hy hst
        go_wp2
        go_roundw
        case rel => exact ⟨k + 1, by omega, by go_num, by simpa using HST.out, HB.out.setCell hBw _⟩
        case measure => simp [intOf]; omega
      · have hkn : k = n := by omega
        subst hkn
        have hall : fillB (fmtN xs) k = fmtN xs := by have := fillB_all (fmtN xs); rwa [fmtN_len, HL.out] at this
        rw [hall] at hown2
        have hcv := run_convert_bytes_arg (P := Tryd.prog) wr 58 5 Tryd.underlying58 Tryd.underlying5 B 0 k k (fmtN xs) (by rw [fmtN_len, HL.out]) (fun i hi => by
          have h := hown2.cellAt i (by omega)
          rw [Nat.zero_add, h, List.getElem?_map, nth_get? (by rw [fmtN_len, HL.out]; exact hi)]; rfl) 9 Tryd.underlying9
        clear hown2 hbel hall
        go_wp2
        go_ret
        exact ⟨ret_str HE.out.symm, HB.out⟩
end Go.Proofs.YtdiiaallklkomaaDoor

/-
  What a list of classes is, and comparing two. Conditions: lengths below 2^40.
-/


namespace Go.Proofs.YtdiiaallklkomaaDoor
open Go.RowKit

def classAt (ts : List Tm) (k : Nat) : Prop := isPermB (tm ts k).1 = true ∧ trimN (tm ts k).1 (tm ts k).1.length = (tm ts k).1.length ∧ ((tm ts k).2 ≠ 0 ∧ -1000000 ≤ (tm ts k).2 ∧ (tm ts k).2 ≤ 1000000) ∧ (0 < k → lessL (tm ts (k - 1)).1 (tm ts k).1 = true)
instance (ts : List Tm) (k : Nat) : Decidable (classAt ts k) := by unfold classAt; infer_instance
def classesB (ts : List Tm) : Bool := decide (ts.length ≤ 100) && (List.range ts.length).all fun k => decide (classAt ts k)
theorem classesB_iff (ts : List Tm) : classesB ts = true ↔ ts.length ≤ 100 ∧ ∀ k, k < ts.length → classAt ts k := by simp [classesB]
theorem classesB_yes {ts : List Tm} (h0 : ts.length ≤ 100) (h : ∀ k, k < ts.length → classAt ts k) : classesB ts = true := (classesB_iff ts).2 ⟨h0, h⟩
theorem classesB_no {ts : List Tm} {k : Nat} (hk : k < ts.length) (h : ¬ classAt ts k) : classesB ts = false := by
  cases hb : classesB ts with
  | false => rfl
  | true => exact absurd (((classesB_iff ts).1 hb).2 k hk) h
theorem classesB_big {ts : List Tm} (h : 100 < ts.length) : classesB ts = false := by
  cases hb : classesB ts with
  | false => rfl
  | true => have := ((classesB_iff ts).1 hb).1; omega

set_option maxHeartbeats 1600000 in
theorem compareClasses_any (A A2 : Option Addr) (n c n2 c2 : Nat) (xs ys : List Int) (x y : Int) (w : World) (hs : SI w A n xs) (hs2 : SI w A2 n2 ys) (hn : n ≤ 1099511627776) (hn2 : n2 ≤ 1099511627776) :
    Calls Tryd.prog 75 #[.agg #[.slice A n c, .int .i64 x], .agg #[.slice A2 n2 c2, .int .i64 y]] w fun e w' => e = .returned (.int .i64 (cmpL xs ys)) ∧ Below w.heap.size w w' := by
  have HC := Lib.hid (fun (w1 : World) (hb : Below w.heap.size w w1) => sliceCompare_any A A2 n c n2 c2 xs ys w1 (hs.below hb (Nat.le_refl _)) (hs2.below hb (Nat.le_refl _)) hn hn2)
  clear hs hs2
  go_enter Tryd.func75, Tryd.ntmps75
  go_wp2_with (go_at_call 82; refine (HC.out _ (by go_grown)).mono ?_; rintro e w1 ⟨rfl, hd⟩; have HD := Lib.hid hd; clear hd)
  go_ret
  exact ⟨rfl, Below.trans (by go_grown) (HD.out.below _)⟩

end Go.Proofs.YtdiiaallklkomaaDoor
