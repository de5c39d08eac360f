/-
  The helpers of the exact laws by their contracts: copying, comparing, marking, holding a slice of integers. Conditions: the length is at most 2^40.
-/
import Derived.Test.YtfaegfhbbkicgaaWords
namespace Go.Proofs.Ytfaegfhbbkicgaa
open Go.RowKit

/-- What a copying loop has made after k rounds. -/
def copied (xs : List Int) (k : Nat) : List Value := (xs.take k).map (Value.int .i64) ++ List.replicate (xs.length - k) (.int .i64 0)
theorem copied_zero (xs : List Int) : copied xs 0 = List.replicate xs.length (.int .i64 0) := by simp [copied]
theorem copied_all (xs : List Int) : copied xs xs.length = xs.map (Value.int .i64) := by simp [copied]
theorem copied_len (xs : List Int) (k : Nat) (h : k ≤ xs.length) : (copied xs k).length = xs.length := by simp [copied]; omega
theorem copied_get (xs : List Int) (k : Nat) (h : k < xs.length) : (copied xs k)[k]? = some (.int .i64 0) := by
  unfold copied
  rw [List.getElem?_append_right (by simp; omega)]
  rw [List.getElem?_replicate]
  simp; omega
theorem copied_succ (xs : List Int) (k : Nat) (h : k < xs.length) : (copied xs k).set k (.int .i64 (nth xs k)) = copied xs (k + 1) := by
  unfold copied
  have hl : (List.map (Value.int .i64) (xs.take k)).length = k := by simp; omega
  rw [List.set_append_right _ _ (by omega), hl]
  have e : xs.length - k = (xs.length - (k + 1)) + 1 := by omega
  rw [e, List.replicate_succ, Nat.sub_self, List.set_cons_zero, take_nth h, List.map_append, List.append_assoc]
  rfl

set_option maxHeartbeats 400000 in
/-- toIntS: a copy of its own. -/
theorem toIntS_any (A : Option Addr) (n c : Nat) (xs : List Int) (w : World) (hs : SI w A n xs) (hn : n ≤ 1099511627776) :
    Calls Try.prog 24 #[.slice A n c] w fun e w' =>
      e = .returned (.slice (some ⟨w.heap.size, 0, none⟩) n n) ∧ w'.ownsRow w.heap.size 3 1 (.slice (some ⟨w.heap.size, 0, none⟩) n n) n (xs.map (Value.int .i64)) ∧ Below w.heap.size w w' := by
  obtain ⟨i0, hi, hz0, hz1, hz2⟩ := info_parts Try.infoInt
  have hl := hs.1
  obtain ⟨B, hB⟩ : ∃ B, B = w.heap.size := ⟨_, rfl⟩
  have HB : Hid (B = w.heap.size) := hB
  have hBle : B ≤ w.heap.size := by omega
  go_enter Try.func24, Try.ntmps24
  go_wp2_with (at_make; refine wpList_make_full _ rfl (.tmp 6) (.tmp 6) 22 rfl w.heap.size 3 i0 (.int .i64 0) 1 Try.underlying22 hi hz0 hz1 .i64 .i64 (n : Int) (n : Int) n rfl rfl rfl rfl (by rw [hz2]; omega) (by unfold maxLen; omega) (Nat.le_refl _) ?_; intro w1 hown hgrow)
  rw [← hB] at hown ⊢
  go_loopw [4] (fun i wr => ∃ k : Nat, k ≤ n ∧ i = .int .i64 k ∧ wr.ownsRow B 3 1 (.slice (some ⟨B, 0, none⟩) n n) n (copied xs k) ∧ Below B w wr)
    (fun i _ => n - (intOf i).toNat)
  case atStart =>
    refine ⟨0, Nat.zero_le _, rfl, ?_, ?_⟩
    · rw [copied_zero, hl]
      simpa [toList_madeCells_one, Value.cells] using hown
    · exact ((Below.refl _ _).grown hgrow (by omega) (by intro k hk; cases hk))
  case round =>
    obtain ⟨k, hk, rfl, hown, hbel⟩ := hrel
    by_cases hlt : k < n
    · obtain ⟨b, o, rfl, hb, hc⟩ := hs.at_ (by omega)
      have hc1 : wr.cell? ⟨b, o + k, none⟩ = some (.int .i64 (nth xs k)) := (hbel.cell (p := ⟨b, o + k, none⟩) (by show b < B; omega)).trans (hc k hlt)
      have hc2 : wr.cell? ⟨B, k, none⟩ = some (.int .i64 0) := (hown.cellAt k (by omega)).trans (copied_get xs k (by omega))
      have hf2 : wr.frozen? ⟨B, k, none⟩ = false := hown.frozenAt k
      have hst := (hown.stored k (.int .i64 (nth xs k))).1
      rw [copied_succ xs k (by omega)] at hst
      have HS := Lib.hid hst
      have HBel := Lib.hid hbel
      clear hst hown hbel hc hB
      go_wp2
      go_roundw
      case rel => exact ⟨k + 1, by omega, by go_num, HS.out, HBel.out.setCell (Nat.le_refl _) _⟩
      case measure => simp [intOf]; omega
    · have hkn : k = n := by omega
      subst hkn
      go_wp2
      go_ret
      obtain rfl := HB.out
      refine ⟨rfl, ?_, ?_⟩
      · rw [← hl, copied_all] at hown; rw [← hl]; exact hown
      · exact hbel
/-- Equality of two lists as a Bool (not unfolded by the walk). -/
def eqL (xs ys : List Int) : Bool := decide (xs = ys)
theorem eqL_self (xs : List Int) : eqL xs xs = true := by simp [eqL]
theorem eqL_len {xs ys : List Int} (h : xs.length ≠ ys.length) : eqL xs ys = false := by
  simp only [eqL, decide_eq_false_iff_not]; intro e; exact h (by rw [e])
theorem eqL_all {xs ys : List Int} (hl : xs.length = ys.length) (h : ∀ j, j < xs.length → nth xs j = nth ys j) : eqL xs ys = true := by
  simp only [eqL, decide_eq_true_eq]
  apply List.ext_getElem hl
  intro j h1 h2
  have := h j h1
  rwa [nth_get h1, nth_get h2] at this
theorem eqL_ne {xs ys : List Int} {k : Nat} (h : nth xs k ≠ nth ys k) : eqL xs ys = false := by
  simp only [eqL, decide_eq_false_iff_not]; intro e; exact h (by rw [e])

set_option maxHeartbeats 400000 in
/-- eqIntS: are the two lists one. -/
theorem eqIntS_any (A A' : Option Addr) (n c n' c' : Nat) (xs ys : List Int) (w : World) (hs : SI w A n xs) (hs' : SI w A' n' ys) (hn : n ≤ 1099511627776) (hn' : n' ≤ 1099511627776) :
    Calls Try.prog 18 #[.slice A n c, .slice A' n' c'] w fun e w' => e = .returned (.bool (eqL xs ys)) ∧ Drawn w w' := by
  have hl := hs.1
  have hl' := hs'.1
  by_cases hne : n = n'
  · subst hne
    go_enter Try.func18, Try.ntmps18
    go_wp2
    go_loopw [5] (fun i wr => ∃ k : Nat, k ≤ n ∧ i = .int .i64 k ∧ Drawn w wr ∧ ∀ j, j < k → nth xs j = nth ys j)
      (fun i _ => n - (intOf i).toNat)
    case atStart => exact ⟨0, Nat.zero_le _, rfl, Drawn.refl _, fun j hj => absurd hj (by omega)⟩
    case round =>
      obtain ⟨k, hk, rfl, hD, hall⟩ := hrel
      have HA := Lib.hid hall
      have hs := hD.si hs
      have hs' := hD.si hs'
      have HD := Lib.hid hD
      clear hall hD
      by_cases hlt : k < n
      · obtain ⟨b, o, rfl, hb, hc⟩ := hs.at_ (by omega)
        obtain ⟨b', o', rfl, hb', hc'⟩ := hs'.at_ (by omega)
        have hc1 := hc k hlt
        have hc1' := hc' k hlt
        clear hc hc' hs hs' hl hl'
        by_cases heq : nth xs k = nth ys k
        · have HE := Lib.hid heq
          rw [← heq] at hc1'
          clear heq
          obtain ⟨x, hx⟩ : ∃ x, x = nth xs k := ⟨_, rfl⟩
          rw [← hx] at hc1 hc1'
          clear hx
          have hlI : (k : Int) < (n : Int) := by omega
          go_wp2_with fail
          go_quiet (fail)
          go_wp2
          go_roundw
          case rel => exact ⟨k + 1, by omega, by go_num, HD.out.drewN _, fun j hj => by
            rcases Nat.lt_or_ge j k with h | h
            · exact HA.out j h
            · obtain rfl : j = k := by omega
              exact HE.out⟩
          case measure => simp [intOf]; omega
        · have HE := Lib.hid heq
          obtain ⟨x, hx⟩ : ∃ x, x = nth xs k := ⟨_, rfl⟩
          obtain ⟨y, hy⟩ : ∃ y, y = nth ys k := ⟨_, rfl⟩
          rw [← hx] at hc1 heq
          rw [← hy] at hc1' heq
          clear hx hy
          have hlI : (k : Int) < (n : Int) := by omega
          have hb : (x != y) = true := by simpa using heq
          clear heq
          go_wp2_with fail
          go_quiet (fail)
          go_wp2
          go_ret
          exact ⟨ret_bool (eqL_ne HE.out).symm, HD.out.drewN _⟩
      · have hkn : k = n := by omega
        subst hkn
        go_wp2
        go_ret
        exact ⟨ret_bool (eqL_all (by omega) (by rw [hl]; exact HA.out)).symm, HD.out⟩
  · have hne' : ¬ (n : Int) = (n' : Int) := by omega
    go_enter Try.func18, Try.ntmps18
    go_wp2
    go_ret
    exact ⟨ret_bool (eqL_len (by omega)).symm, Drawn.refl _⟩

/-- The numbers j, j+1, .. that marking writes: k of them, over the first k places. -/
def marked (xs : List Int) (q : Int) (k : Nat) : List Value := (List.range k).map (fun (j : Nat) => Value.int .i64 (q + j)) ++ (xs.drop k).map (Value.int .i64)
def marks (n : Nat) (q : Int) : List Int := (List.range n).map (fun (j : Nat) => q + j)
theorem marked_zero (xs : List Int) (q : Int) : marked xs q 0 = xs.map (Value.int .i64) := by simp [marked]
theorem marked_all (xs : List Int) (q : Int) : marked xs q xs.length = (marks xs.length q).map (Value.int .i64) := by simp [marked, marks]
theorem marked_get (xs : List Int) (q : Int) (k : Nat) (h : k < xs.length) : (marked xs q k)[k]? = some (.int .i64 (nth xs k)) := by
  unfold marked
  rw [List.getElem?_append_right (by simp)]
  simp [nth_get h, h]
theorem marked_succ (xs : List Int) (q : Int) (k : Nat) (h : k < xs.length) : (marked xs q k).set k (.int .i64 (q + k)) = marked xs q (k + 1) := by
  unfold marked
  rw [List.set_append_right _ _ (by simp)]
  rw [List.drop_eq_getElem_cons h, List.range_succ]
  simp only [List.length_map, List.length_range, Nat.sub_self, List.map_cons, List.set_cons_zero, List.map_append, List.append_assoc, List.map_nil]
  rfl
theorem marks_len (n : Nat) (q : Int) : (marks n q).length = n := by simp [marks]
theorem marks_nth (n : Nat) (q : Int) (k : Nat) (h : k < n) : nth (marks n q) k = q + k := by simp [nth, marks, List.getD, h]

set_option maxHeartbeats 400000 in
/-- markIntS on a slice of the call's own: it then holds q, q+1, .. -/
theorem markIntS_own (g n c : Nat) (xs : List Int) (q : Int) (base : Nat) (w : World) (hs : w.ownsRow base 3 1 (.slice (some ⟨g, 0, none⟩) n c) n (xs.map (Value.int .i64)))
    (hn : n ≤ 1099511627776) (hq : 0 ≤ q) (hq' : q ≤ 1099511627776) :
    Calls Try.prog 21 #[.slice (some ⟨g, 0, none⟩) n c, .int .i64 q] w fun e w' =>
      e = .returned (.int .i64 (q + n)) ∧ w'.ownsRow base 3 1 (.slice (some ⟨g, 0, none⟩) n c) n ((marks n q).map (Value.int .i64)) ∧ w.grownBy w' (some g) := by
  have hl : xs.length = n := by have := hs.1; simpa using this
  go_enter Try.func21, Try.ntmps21
  go_wp2
  go_loopw [1, 5] (fun p i wr => ∃ k : Nat, k ≤ n ∧ i = .int .i64 k ∧ p = .int .i64 (q + k) ∧ wr.ownsRow base 3 1 (.slice (some ⟨g, 0, none⟩) n c) n (marked xs q k) ∧ w.grownBy wr (some g))
    (fun _ i _ => n - (intOf i).toNat)
  case atStart => exact ⟨0, Nat.zero_le _, rfl, by simp, by rw [marked_zero]; exact hs, World.grownBy.refl _ _⟩
  case round =>
    obtain ⟨k, hk, rfl, rfl, hown, hgr⟩ := hrel
    by_cases hlt : k < n
    · have hc2 : wr.cell? ⟨g, k, none⟩ = some (.int .i64 (nth xs k)) := (hown.cellAt k (by omega)).trans (marked_get xs q k (by omega))
      have hf2 : wr.frozen? ⟨g, k, none⟩ = false := hown.frozenAt k
      have hst := hown.stored k (.int .i64 (q + k))
      rw [marked_succ xs q k (by omega)] at hst
      have HS := Lib.hid hst.1
      have HG := Lib.hid (hgr.trans hst.2)
      clear hst hown hgr
      go_wp2
      go_roundw
      case rel => exact ⟨k + 1, by omega, by go_num, by go_num, HS.out, HG.out⟩
      case measure => simp [intOf]; omega
    · have hkn : k = n := by omega
      subst hkn
      go_wp2
      go_ret
      refine ⟨rfl, ?_, hgr⟩
      rw [← hl, marked_all] at hown; rw [← hl]; exact hown

set_option maxHeartbeats 400000 in
/-- heldIntS where the marks are held. -/
theorem heldIntS_yes (A : Option Addr) (n c : Nat) (q : Int) (w : World) (hs : SI w A n (marks n q)) (hn : n ≤ 1099511627776) (hq : 0 ≤ q) (hq' : q ≤ 1099511627776) :
    Calls Try.prog 22 #[.slice A n c, .int .i64 q] w fun e w' => e = .returned (.int .i64 (q + n)) ∧ Drawn w w' := by
  go_enter Try.func22, Try.ntmps22
  go_wp2
  go_loopw [1, 5] (fun p i wr => ∃ k : Nat, k ≤ n ∧ i = .int .i64 k ∧ p = .int .i64 (q + k) ∧ Drawn w wr)
    (fun _ i _ => n - (intOf i).toNat)
  case atStart => exact ⟨0, Nat.zero_le _, rfl, by simp, Drawn.refl _⟩
  case round =>
    obtain ⟨k, hk, rfl, rfl, hD⟩ := hrel
    have hs := hD.si hs
    have HD := Lib.hid hD
    clear hD
    by_cases hlt : k < n
    · obtain ⟨b, o, rfl, hb, hc⟩ := hs.at_ (by omega)
      have hc1 := hc k hlt
      rw [marks_nth n q k hlt] at hc1
      clear hc hs
      go_wp2
      go_roundw
      case rel => exact ⟨k + 1, by omega, by go_num, by go_num, HD.out⟩
      case measure => simp [intOf]; omega
    · have hkn : k = n := by omega
      subst hkn
      go_wp2
      go_ret
      exact ⟨rfl, HD.out⟩
end Go.Proofs.Ytfaegfhbbkicgaa
