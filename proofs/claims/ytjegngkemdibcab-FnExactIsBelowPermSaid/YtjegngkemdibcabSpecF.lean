/-
  Contracts of the specification's EmbedPerm, TrimPerm, RankAt. Conditions: lengths below 2^40.
-/
import Derived.Test.YtjegngkemdibcabSpecB
import Derived.Test.YtjegngkemdibcabImplB
namespace Go.Proofs.Ytjegngkemdibcab
open Go.RowKit

set_option maxHeartbeats 400000 in
theorem l1Ints_any (A : Option Addr) (n c : Nat) (xs : List Int) (w : World) (hs : SI w A n xs) (hn : n ≤ 1099511627776) :
    Calls Try.prog 84 #[.slice A n c] w fun e w' => Fresh w w' e xs := by
  go_enter Try.func84, Try.ntmps84
  go_wp2_with (at_builtin; refine wpList_append_all rfl (.tmp 3) (.tmp 4) rfl w.heap.size (some ⟨w.heap.size, 0, none⟩) 0 0 [] A n c xs rfl rfl ((Own.empty w).wide (Nat.le_refl _) (by simp)) (hs.alloc _) (by simp) (by omega) hn ?_; intro A' c' w1 ho1 _ hb1)
  go_ret
  exact ⟨A', _, c', rfl, by simpa using ho1, (Below.alloc_self _ _).trans hb1⟩

theorem fill_take_len {xs : List Int} (h7 : xs.length ≤ 7) : (fillA xs xs.length).take xs.length = xs := by
  apply List.ext_getElem
  · rw [List.length_take, fillA_len]; omega
  · intro j h1 h2
    rw [List.getElem_take]
    simp only [fillA, List.getElem_map, List.getElem_range]
    rw [if_pos h2, nth_get h2]
theorem fill_take_succ {xs : List Int} {k : Nat} (hk : xs.length ≤ k) (h7 : k < 7) : (fillA xs xs.length).take (k + 1) = (fillA xs xs.length).take k ++ [(k : Int)] := by
  rw [take_nth (by rw [fillA_len]; exact h7), fillA_ge (by omega) h7]
theorem fill_take_short {xs : List Int} {k : Nat} (hk : k ≤ xs.length) (h7 : xs.length ≤ 7) : (fillA xs xs.length).take k = xs.take k := by
  have := fill_take_len h7
  rw [← this, List.take_take]
  rw [this, Nat.min_eq_left hk]

set_option maxHeartbeats 800000 in
theorem l1Grow_any (A : Option Addr) (n c m : Nat) (xs : List Int) (w : World) (hs : SI w A n xs) (hm : n ≤ m) (h7 : m ≤ 7) :
    Calls Try.prog 51 #[.slice A n c, .int .i64 m] w fun e w' => Fresh w w' e ((fillA xs xs.length).take m) := by
  have hl := hs.1
  have e0 := fill_take_len (xs := xs) (by omega)
  rw [hl] at e0 ⊢
  have HE := Lib.hid e0
  have HL := Lib.hid hl
  clear e0 hl
  go_enter Try.func51, Try.ntmps51
  go_wp2_with fail
  refine (l1Ints_any A n c xs _ hs (by omega)).mono ?_
  rintro e w1 ⟨A1, n1, c1, rfl, ho1, hb1⟩
  have en : n1 = n := by have := ho1.len; have := HL.out; omega
  subst en
  go_wp2
  go_loopw [5] (fun v wr => ∃ (k : Nat) (A : Option Addr) (c : Nat), n1 ≤ k ∧ k ≤ m ∧ v = .slice A k c ∧ Own wr w.heap.size wr.heap.size A k c ((fillA xs n1).take k) ∧ Below w.heap.size w wr)
    (fun v _ => match v with | .slice _ k _ => m - k | _ => 0)
  case atStart => exact ⟨n1, _, _, Nat.le_refl _, hm, rfl, by rw [HE.out]; exact ho1, hb1⟩
  case round =>
    obtain ⟨k, A0, c0, hk1, hk, rfl, hown, hbel⟩ := hrel
    have HO := Lib.hid hown
    have HB := Lib.hid hbel
    clear hown hbel ho1 hb1
    by_cases hlt : k < m
    · have hlI : (k : Int) < (m : Int) := by omega
      go_wp2_with (at_builtin; refine wpList_append1 rfl (.tmp 12) (.tmp 15) rfl w.heap.size A0 k c0 ((fillA xs n1).take k) (k : Int) rfl rfl HO.out HB.out.size (by omega) ?_; intro A' c' w3 ho3 _ hb3)
      go_roundw
      case rel =>
        have e1 := HL.out
        subst e1
        exact ⟨k + 1, _, _, by omega, by omega, rfl, by rw [fill_take_succ hk1 (by omega)]; exact ho3, HB.out.trans hb3⟩
      case measure => simp; omega
    · have hkm : k = m := by omega
      subst hkm
      go_wp2
      go_ret
      exact ⟨A0, _, c0, rfl, HO.out, HB.out⟩

/-- What EmbedPerm answers. -/
def embPerm (xs : List Int) (a : Int) : List Int := if isPermB xs = true ∧ (xs.length : Int) ≤ a ∧ a ≤ 7 then (fillA xs xs.length).take a.toNat else []
theorem embPerm_no {xs : List Int} {a : Int} (h : isPermB xs = false ∨ a < (xs.length : Int) ∨ 7 < a) : embPerm xs a = [] := by
  unfold embPerm
  rw [if_neg]
  rintro ⟨h1, h2, h3⟩
  rcases h with h | h | h
  · rw [h1] at h; cases h
  · omega
  · omega
theorem embPerm_yes {xs : List Int} {m : Nat} (h : isPermB xs = true) (h1 : xs.length ≤ m) (h2 : m ≤ 7) : embPerm xs (m : Int) = (fillA xs xs.length).take m := by
  unfold embPerm
  rw [if_pos ⟨h, by omega, by omega⟩, Int.toNat_natCast]
theorem embPerm_small (xs : List Int) (a : Int) : (embPerm xs a).length ≤ 1099511627775 := by
  unfold embPerm
  split
  · rw [List.length_take, fillA_len]; omega
  · simp
set_option maxHeartbeats 800000 in
theorem specEmbed_any (A : Option Addr) (n c : Nat) (xs : List Int) (a : Int) (w : World) (hs : SI w A n xs) (hnc : n ≤ c) (hn : n ≤ 1099511627776) :
    Calls Try.prog 15 #[.slice A n c, .int .i64 a] w fun e w' => Fresh w w' e (embPerm xs a) := by
  have hl := hs.1
  cases hu : isPermB xs with
  | false =>
    have HE := Lib.hid (embPerm_no (a := a) (.inl hu))
    have HU := Lib.hid hu
    clear hu
    go_enter Try.func15, Try.ntmps15
    go_wp2_with fail
    refine (specIsPerm_is c HU.out hs hnc hn).mono ?_
    rintro e w1 ⟨rfl, hd1⟩
    go_wp2
    go_ret
    rw [HE.out]
    exact Fresh.nil_ret (hd1.below _)
  | true =>
    have HU := Lib.hid hu
    have HL := Lib.hid hl
    clear hu hl
    by_cases hin : (n : Int) ≤ a ∧ a ≤ 7
    · obtain ⟨m, rfl⟩ : ∃ m : Nat, a = (m : Int) := ⟨a.toNat, by omega⟩
      obtain ⟨hi1, hi2⟩ := hin
      have HE := Lib.hid (embPerm_yes (m := m) HU.out (by have := HL.out; omega) (by omega))
      go_enter Try.func15, Try.ntmps15
      go_wp2_with fail
      refine (specIsPerm_is c HU.out hs hnc hn).mono ?_
      rintro e w1 ⟨rfl, hd1⟩
      go_wp2_with fail
      refine (l1In_yes' (by omega) (by omega) _).mono ?_
      rintro e w2 ⟨rfl, rfl⟩
      go_wp2_with fail
      refine (l1Grow_any A n c m xs _ (hd1.si hs) (by omega) (by omega)).mono ?_
      rintro e w3 ⟨A3, n3, c3, rfl, ho3, hb3⟩
      go_wp2
      go_ret
      rw [HE.out]
      exact Fresh.after (hd1.below _) ⟨A3, n3, c3, rfl, ho3, hb3⟩
    · have HE := Lib.hid (embPerm_no (xs := xs) (a := a) (.inr (by have := HL.out; omega)))
      go_enter Try.func15, Try.ntmps15
      go_wp2_with fail
      refine (specIsPerm_is c HU.out hs hnc hn).mono ?_
      rintro e w1 ⟨rfl, hd1⟩
      go_wp2_with fail
      refine (l1In_no' (by omega) _).mono ?_
      rintro e w2 ⟨rfl, rfl⟩
      go_wp2
      go_ret
      rw [HE.out]
      exact Fresh.nil_ret (hd1.below _)

/-- How much of a permutation is left. -/
def trimN (xs : List Int) : Nat → Nat
  | 0 => 0
  | k + 1 => if 0 < k ∧ nth xs k = (k : Int) then trimN xs k else k + 1
theorem trimN_hit {xs : List Int} {k : Nat} (h0 : 0 < k) (h : nth xs k = (k : Int)) : trimN xs (k + 1) = trimN xs k := by
  show (if 0 < k ∧ nth xs k = (k : Int) then trimN xs k else k + 1) = _
  rw [if_pos ⟨h0, h⟩]
theorem trimN_miss {xs : List Int} {k : Nat} (h : ¬ (0 < k ∧ nth xs k = (k : Int))) : trimN xs (k + 1) = k + 1 := by
  show (if 0 < k ∧ nth xs k = (k : Int) then trimN xs k else k + 1) = _
  rw [if_neg h]
theorem trimN_le (xs : List Int) (k : Nat) : trimN xs k ≤ k := by
  induction k with
  | zero => exact Nat.le_refl _
  | succ k ih => unfold trimN; split <;> omega
def trimPerm (xs : List Int) : List Int := if isPermB xs = true then xs.take (trimN xs xs.length) else []
theorem trimPerm_no {xs : List Int} (h : isPermB xs = false) : trimPerm xs = [] := by unfold trimPerm; rw [if_neg (by rw [h]; decide)]
theorem trimPerm_yes {xs : List Int} (h : isPermB xs = true) : trimPerm xs = xs.take (trimN xs xs.length) := by unfold trimPerm; rw [if_pos h]
theorem trimPerm_small (xs : List Int) : (trimPerm xs).length ≤ 1099511627775 := by
  unfold trimPerm
  split
  · rename_i h
    have := isPermB_small h
    rw [List.length_take]; omega
  · simp
set_option maxHeartbeats 800000 in
theorem l1Trim_any (A : Option Addr) (n c : Nat) (xs : List Int) (w : World) (hs : SI w A n xs) (hnc : n ≤ c) (h1 : 1 ≤ n) (hn : n ≤ 1099511627776) :
    Calls Try.prog 54 #[.slice A n c] w fun e w' => Fresh w w' e (xs.take (trimN xs n)) := by
  have hl := hs.1
  have HL := Lib.hid hl
  clear hl
  obtain ⟨b, o, rfl, hb, hc⟩ := hs.at_ (by omega)
  have HC := Lib.hid hc
  clear hc
  go_enter Try.func54, Try.ntmps54
  go_wp2
  go_loop [3] (fun v => ∃ k : Nat, k + 1 ≤ n ∧ v = .int .i64 ((k : Int) + 1) ∧ trimN xs (k + 1) = trimN xs n)
    (fun v => (intOf v).toNat)
  case atStart => exact ⟨n - 1, by omega, by go_num, by rw [show n - 1 + 1 = n from by omega]⟩
  case round =>
    obtain ⟨k, hk, rfl, htr⟩ := hrel
    have HT := Lib.hid htr
    have hck := HC.out k (by omega)
    obtain ⟨x, hx⟩ : ∃ x, x = nth xs k := ⟨_, rfl⟩
    rw [← hx] at hck
    have HX := Lib.hid hx
    clear htr hx
    by_cases h0 : 0 < k
    · by_cases hxk : x = (k : Int)
      · subst hxk
        go_wp2
        go_round
        case rel =>
          have e1 := HX.out
          have e2 := HT.out
          rw [trimN_hit h0 e1.symm] at e2
          exact ⟨k - 1, by omega, by go_num, by rw [show k - 1 + 1 = k from by omega]; exact e2⟩
        case measure => simp only [intOf]; omega
      · have hxb : (x == (k : Int)) = false := by simpa using hxk
        have e2 := HT.out
        rw [trimN_miss (by have := HX.out; rintro ⟨_, h⟩; omega)] at e2
        have HT2 := Lib.hid e2
        have hst := hs.take (k := k + 1) (by omega)
        have HX2 := Lib.hid hxk
        clear e2 HT hxk
        go_wp2_with fail
        refine (l1Ints_any _ _ _ _ _ hst (by omega)).mono ?_
        rintro e w3 ⟨A3, n3, c3, rfl, ho3, hb3⟩
        go_wp2
        go_ret
        rw [← HT2.out]
        exact ⟨A3, n3, c3, rfl, ho3, hb3⟩
    · have hk0 : k = 0 := by omega
      subst hk0
      have e2 := HT.out
      rw [trimN_miss (by rintro ⟨h, _⟩; omega)] at e2
      have HT2 := Lib.hid e2
      have hst := hs.take (k := 1) (by omega)
      clear e2 HT
      go_wp2_with fail
      refine (l1Ints_any _ _ _ _ _ hst (by omega)).mono ?_
      rintro e w3 ⟨A3, n3, c3, rfl, ho3, hb3⟩
      go_wp2
      go_ret
      rw [← HT2.out]
      exact ⟨A3, n3, c3, rfl, ho3, hb3⟩
set_option maxHeartbeats 400000 in
theorem specTrim_any (A : Option Addr) (n c : Nat) (xs : List Int) (w : World) (hs : SI w A n xs) (hnc : n ≤ c) (hn : n ≤ 1099511627776) :
    Calls Try.prog 21 #[.slice A n c] w fun e w' => Fresh w w' e (trimPerm xs) := by
  have hl := hs.1
  cases hu : isPermB xs with
  | false =>
    have HE := Lib.hid (trimPerm_no hu)
    have HU := Lib.hid hu
    clear hu
    go_enter Try.func21, Try.ntmps21
    go_wp2_with fail
    refine (specIsPerm_is c HU.out hs hnc hn).mono ?_
    rintro e w1 ⟨rfl, hd1⟩
    go_wp2
    go_ret
    rw [HE.out]
    exact Fresh.nil_ret (hd1.below _)
  | true =>
    have HE := Lib.hid (trimPerm_yes hu)
    have HU := Lib.hid hu
    clear hu
    go_enter Try.func21, Try.ntmps21
    go_wp2_with fail
    refine (specIsPerm_is c HU.out hs hnc hn).mono ?_
    rintro e w1 ⟨rfl, hd1⟩
    go_wp2_with fail
    refine (l1Trim_any _ _ _ xs _ (hd1.si hs) hnc (by have := (isPermB_P HU.out).1; omega) hn).mono ?_
    rintro e w3 ⟨A3, n3, c3, rfl, ho3, hb3⟩
    go_wp2
    go_ret
    rw [HE.out, hl]
    exact Fresh.after (hd1.below _) ⟨A3, n3, c3, rfl, ho3, hb3⟩

/-- How many of the first k numbers are below c. -/
def rankN (xs : List Int) (c : Int) : Nat → Nat
  | 0 => 0
  | k + 1 => rankN xs c k + if nth xs k < c then 1 else 0
theorem rankN_le (xs : List Int) (c : Int) (k : Nat) : rankN xs c k ≤ k := by
  induction k with
  | zero => exact Nat.le_refl _
  | succ k ih => unfold rankN; split <;> omega
theorem rankN_hit {xs : List Int} {c : Int} {k : Nat} (h : nth xs k < c) : rankN xs c (k + 1) = rankN xs c k + 1 := by
  show rankN xs c k + (if nth xs k < c then 1 else 0) = _
  rw [if_pos h]
theorem rankN_miss {xs : List Int} {c : Int} {k : Nat} (h : ¬ nth xs k < c) : rankN xs c (k + 1) = rankN xs c k := by
  show rankN xs c k + (if nth xs k < c then 1 else 0) = _
  rw [if_neg h]; rfl
theorem rankN_congr {xs ys : List Int} (c : Int) : ∀ k, (∀ t, t < k → nth xs t = nth ys t) → rankN xs c k = rankN ys c k := by
  intro k
  induction k with
  | zero => intro _; rfl
  | succ k ih => intro h; unfold rankN; rw [ih (fun t ht => h t (by omega)), h k (by omega)]
set_option maxHeartbeats 400000 in
theorem l1Rank_any (A : Option Addr) (n c r : Nat) (xs : List Int) (x : Int) (w : World) (hs : SI w A n xs) (hr : r ≤ n) (hn : n ≤ 1099511627776) :
    Calls Try.prog 55 #[.slice A n c, .int .i64 r, .int .i64 x] w fun e w' => e = .returned (.int .i64 (rankN xs x r : Int)) ∧ Drawn w w' := by
  go_enter Try.func55, Try.ntmps55
  go_wp2
  go_loopw [7, 8] (fun v i wr => ∃ k : Nat, k ≤ r ∧ i = .int .i64 k ∧ v = .int .i64 (rankN xs x k : Int) ∧ Drawn w wr)
    (fun _ i _ => r - (intOf i).toNat)
  case atStart => exact ⟨0, Nat.zero_le _, rfl, rfl, Drawn.refl _⟩
  case round =>
    obtain ⟨k, hk, rfl, rfl, hD⟩ := hrel
    have hs := hD.si hs
    have HD := Lib.hid hD
    clear hD
    by_cases hlt : k < r
    · obtain ⟨b, o, rfl, hb, hc⟩ := hs.at_ (by omega)
      have hc1 := hc k (by omega)
      obtain ⟨y, hy⟩ : ∃ y, y = nth xs k := ⟨_, rfl⟩
      rw [← hy] at hc1
      have HY := Lib.hid hy
      have hq := rankN_le xs x k
      obtain ⟨q, hqe⟩ : ∃ q, q = rankN xs x k := ⟨_, rfl⟩
      rw [← hqe] at hq ⊢
      have HQ := Lib.hid hqe
      clear hc hs hy hqe
      by_cases hxy : y < x
      · go_wp2
        go_roundw
        case rel =>
          have e1 := HY.out
          have e2 := HQ.out
          exact ⟨k + 1, by omega, by go_num, by rw [rankN_hit (by omega), ← e2]; go_num, HD.out⟩
        case measure => simp [intOf]; omega
      · go_wp2
        go_roundw
        case rel =>
          have e1 := HY.out
          have e2 := HQ.out
          exact ⟨k + 1, by omega, by go_num, by rw [rankN_miss (by omega), ← e2], HD.out⟩
        case measure => simp [intOf]; omega
    · have hkr : k = r := by omega
      subst hkr
      go_wp2
      go_ret
      exact ⟨rfl, HD.out⟩
/-- What RankAt answers. -/
def rankPerm (xs : List Int) (r c : Int) : Int := if isPermB xs = true ∧ 0 ≤ r ∧ r ≤ xs.length ∧ 0 ≤ c ∧ c ≤ xs.length then (rankN xs c r.toNat : Int) else -1
theorem rankPerm_no {xs : List Int} {r c : Int} (h : ¬ (isPermB xs = true ∧ 0 ≤ r ∧ r ≤ xs.length ∧ 0 ≤ c ∧ c ≤ xs.length)) : rankPerm xs r c = -1 := by unfold rankPerm; rw [if_neg h]
theorem rankPerm_yes {xs : List Int} {r : Nat} {c : Int} (h : isPermB xs = true) (h1 : (r : Int) ≤ xs.length) (h2 : 0 ≤ c) (h3 : c ≤ xs.length) : rankPerm xs (r : Int) c = (rankN xs c r : Int) := by
  unfold rankPerm; rw [if_pos ⟨h, by omega, h1, h2, h3⟩, Int.toNat_natCast]
set_option maxHeartbeats 800000 in
theorem specRank_any (A : Option Addr) (n c : Nat) (xs : List Int) (r x : Int) (w : World) (hs : SI w A n xs) (hnc : n ≤ c) (hn : n ≤ 1099511627776) :
    Calls Try.prog 23 #[.slice A n c, .int .i64 r, .int .i64 x] w fun e w' => e = .returned (.int .i64 (rankPerm xs r x)) ∧ Drawn w w' := by
  have hl := hs.1
  cases hu : isPermB xs with
  | false =>
    have HE := Lib.hid (rankPerm_no (xs := xs) (r := r) (c := x) (by rintro ⟨h, _⟩; rw [hu] at h; cases h))
    have HU := Lib.hid hu
    clear hu
    go_enter Try.func23, Try.ntmps23
    go_wp2_with fail
    refine (specIsPerm_is c HU.out hs hnc hn).mono ?_
    rintro e w1 ⟨rfl, hd1⟩
    go_wp2
    go_ret
    exact ⟨ret_int HE.out.symm, hd1⟩
  | true =>
    have HU := Lib.hid hu
    have HL := Lib.hid hl
    clear hu hl
    by_cases hr : 0 ≤ r ∧ r ≤ (n : Int)
    · obtain ⟨m, rfl⟩ : ∃ m : Nat, r = (m : Int) := ⟨r.toNat, by omega⟩
      by_cases hx : 0 ≤ x ∧ x ≤ (n : Int)
      · obtain ⟨hx0, hx1⟩ := hx
        obtain ⟨hr0, hr1⟩ := hr
        have HE := Lib.hid (rankPerm_yes (r := m) (c := x) HU.out (by have := HL.out; omega) hx0 (by have := HL.out; omega))
        go_enter Try.func23, Try.ntmps23
        go_wp2_with fail
        refine (specIsPerm_is c HU.out hs hnc hn).mono ?_
        rintro e w1 ⟨rfl, hd1⟩
        go_wp2_with fail
        refine (l1In_yes' (by omega) (by omega) _).mono ?_
        rintro e w2 ⟨rfl, rfl⟩
        go_wp2_with fail
        refine (l1In_yes' (by omega) (by omega) _).mono ?_
        rintro e w2 ⟨rfl, rfl⟩
        go_wp2_with fail
        refine (l1Rank_any A n c m xs x _ (hd1.si hs) (by omega) hn).mono ?_
        rintro e w3 ⟨rfl, hd3⟩
        go_wp2
        go_ret
        exact ⟨ret_int HE.out.symm, hd1.trans hd3⟩
      · have HE := Lib.hid (rankPerm_no (xs := xs) (r := (m : Int)) (c := x) (by have := HL.out; rintro ⟨_, _, _, h⟩; omega))
        go_enter Try.func23, Try.ntmps23
        go_wp2_with fail
        refine (specIsPerm_is c HU.out hs hnc hn).mono ?_
        rintro e w1 ⟨rfl, hd1⟩
        go_wp2_with fail
        refine (l1In_yes' (by omega) (by omega) _).mono ?_
        rintro e w2 ⟨rfl, rfl⟩
        go_wp2_with fail
        refine (l1In_no' (by omega) _).mono ?_
        rintro e w2 ⟨rfl, rfl⟩
        go_wp2
        go_ret
        exact ⟨ret_int HE.out.symm, hd1⟩
    · have HE := Lib.hid (rankPerm_no (xs := xs) (r := r) (c := x) (by have := HL.out; rintro ⟨_, h1, h2, _⟩; omega))
      go_enter Try.func23, Try.ntmps23
      go_wp2_with fail
      refine (specIsPerm_is c HU.out hs hnc hn).mono ?_
      rintro e w1 ⟨rfl, hd1⟩
      go_wp2_with fail
      refine (l1In_no' (by omega) _).mono ?_
      rintro e w2 ⟨rfl, rfl⟩
      go_wp2
      go_ret
      exact ⟨ret_int HE.out.symm, hd1⟩
end Go.Proofs.Ytjegngkemdibcab
