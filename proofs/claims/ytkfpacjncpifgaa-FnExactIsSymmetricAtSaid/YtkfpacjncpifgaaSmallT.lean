/-
  Lists of at most 600 terms: their bounds, and the whole length of a list of terms that is within the bulk. Conditions: as each lemma says.
-/
import Derived.Test.YtkfpacjncpifgaaConstMono
namespace Go.Proofs.Ytkfpacjncpifgaa
open Go.RowKit

/-- At most 600 terms, at most 7 exponents each. -/
def smallT (ts : List Tm) : Prop := ts.length ≤ 600 ∧ ∀ t ∈ ts, t.1.length ≤ 7
theorem smallT.le {ts : List Tm} (h : smallT ts) : ts.length ≤ 1099511627776 := by have := h.1; omega
theorem smallT.lens {ts : List Tm} (h : smallT ts) (k : Nat) : (tm ts k).1.length ≤ 1099511627776 := by
  by_cases hk : k < ts.length
  · rw [tm_get hk]; have := h.2 _ (List.getElem_mem hk); omega
  · have e : tm ts k = ([], 0) := by simp [tm, List.getD, List.getElem?_eq_none (Nat.le_of_not_lt hk)]
    rw [e]; simp
theorem endT_bound : ∀ (us : List Tm) (q : Int), (∀ t ∈ us, t.1.length ≤ 7) → q ≤ endT us q ∧ endT us q ≤ q + 8 * (us.length : Int)
  | [], q, _ => by simp [endT]
  | t :: r, q, h => by
    have ih := endT_bound r (q + (t.1.length : Int) + 1) (fun s hs => h s (List.mem_cons_of_mem _ hs))
    have h7 := h t List.mem_cons_self
    show q ≤ endT r _ ∧ endT r _ ≤ _
    rw [List.length_cons]
    omega
theorem smallT.ends {ts : List Tm} (h : smallT ts) (k : Nat) : 0 ≤ endT (ts.take k) 1 ∧ endT (ts.take k) 1 ≤ 1099511627776 := by
  have := endT_bound (ts.take k) 1 (fun t ht => h.2 t (List.mem_of_mem_take ht))
  have h1 := h.1
  have h2 : (ts.take k).length ≤ ts.length := by rw [List.length_take]; omega
  omega
set_option maxHeartbeats 800000 in
theorem szTermS_total (A : Option Addr) (n c : Nat) (ts : List Tm) (w : World) (hs : TS w A n ts) (hn : n ≤ 9223372036854775807) (hne : ∀ k, k < n → (tm ts k).1.length ≤ 9223372036854775807) :
    Calls Try.prog 15 #[.slice A n c, .int .i64 1048576] w fun e w' => (∃ r : Int, e = .returned (.int .i64 r) ∧ (r < 0 ∨ (0 ≤ r ∧ n ≤ 1048576 ∧ (∀ k, k < n → (tm ts k).1.length ≤ 1048576) ∧ ∀ k, k ≤ n → 0 ≤ endT (ts.take k) 1 ∧ endT (ts.take k) 1 ≤ 1099511627776))) ∧ Below w.heap.size w w' := by
  have HNE := Lib.hid hne
  have HLL := Lib.hid hs.1
  clear hne
  by_cases hbig : (1048576 : Int) < (n : Int)
  · have h' : (1048576 : Int) - (n : Int) < 0 := by omega
    have hw : IntKind.i64.wrap (1048576 - (n : Int)) = 1048576 - (n : Int) := IntWalk.i64_in _ (by omega)
    go_enter Try.func15, Try.ntmps15
    go_wp2
    go_ret
    exact ⟨⟨_, rfl, .inl (by omega)⟩, Below.refl _ _⟩
  · have h' : ¬ (1048576 : Int) - (n : Int) < 0 := by omega
    have hw : IntKind.i64.wrap (1048576 - (n : Int)) = 1048576 - (n : Int) := IntWalk.i64_in _ (by omega)
    go_enter Try.func15, Try.ntmps15
    go_wp2
    go_loopw [1, 5] (fun v i wr => ∃ (k : Nat) (l : Int), k ≤ n ∧ i = .int .i64 k ∧ v = .int .i64 l ∧ 0 ≤ l ∧ l ≤ 1048576 ∧ (∀ j, j < k → (tm ts j).1.length ≤ 1048576) ∧ (endT (ts.take k) 1 = 1048577 - (n : Int) + (k : Int) - l ∧ ∀ j, j ≤ k → 0 ≤ endT (ts.take j) 1 ∧ endT (ts.take j) 1 ≤ 1099511627776) ∧ Below w.heap.size w wr)
      (fun _ i _ => n - (intOf i).toNat)
    case atStart => exact ⟨0, _, Nat.zero_le _, rfl, rfl, by omega, by omega, fun j hj => absurd hj (by omega), ⟨by simp [endT]; omega, fun j hj => by
      obtain rfl : j = 0 := by omega
      simp [endT]⟩, Below.refl _ _⟩
    case round =>
      obtain ⟨k, l, hk, rfl, rfl, hl0, hl1, hall, htot, hbel⟩ := hrel
      have HA := Lib.hid hall
      have HT := Lib.hid htot
      have HB := Lib.hid hbel
      clear hall htot
      clear h' hw
      by_cases hlt : k < n
      · obtain ⟨b, o, A', n', c', rfl, hb, hc0, hc1, hsi, hnc, hnil⟩ := (hs.below hbel (by omega)).at_ hlt
        obtain ⟨x, hx⟩ : ∃ x, x = (tm ts k).2 := ⟨_, rfl⟩
        rw [← hx] at hc1
        have hlen := hsi.1
        have hn' : n' ≤ 9223372036854775807 := by have := HNE.out k hlt; omega
        have HLEN := Lib.hid hlen
        clear hx hsi hbel hs hlen hnil
        have hlI : (k : Int) < (n : Int) := by omega
        by_cases hsm : l < (n' : Int)
        · have hS := fun w => szTerm_any A' n' c' x l w hn' hl0 hl1
          rw [if_pos hsm] at hS
          have HS := Lib.hid hS
          clear hS
          go_wp2_with fail
          refine (HS.out _).mono ?_
          rintro e w2 ⟨rfl, hb2⟩
          have HB2 := Lib.hid (HB.out.trans (hb2.mono HB.out.size))
          clear hb2
          go_wp2
          go_ret
          exact ⟨⟨_, rfl, .inl (by omega)⟩, HB2.out⟩
        · have hS := fun w => szTerm_any A' n' c' x l w hn' hl0 hl1
          rw [if_neg hsm] at hS
          obtain ⟨m, hm⟩ : ∃ m, m = l - (n' : Int) := ⟨_, rfl⟩
          rw [← hm] at hS
          have HS := Lib.hid hS
          have HM := Lib.hid hm
          have hm0 : 0 ≤ m := by omega
          have hm1 : m ≤ 1048576 := by omega
          have hmn : ¬ m < 0 := by omega
          have hsml : n' ≤ 1048576 := by omega
          clear hS hm
          go_wp2_with fail
          refine (HS.out _).mono ?_
          rintro e w2 ⟨rfl, hb2⟩
          have HB2 := Lib.hid (HB.out.trans (hb2.mono HB.out.size))
          clear hb2
          go_wp2
          go_roundw
          case rel =>
            have e1 := endT_succ (ts := ts) (q := 1) (k := k) (by have := HLL.out; omega)
            have e2 := HT.out.1
            have e3 := HLEN.out
            have e4 := HM.out
            have e5 := (HT.out.2 k (Nat.le_refl _)).1
            exact ⟨k + 1, m, by omega, by go_num, rfl, hm0, hm1, fun j hj => by
              rcases Nat.lt_or_ge j k with h | h
              · exact HA.out j h
              · obtain rfl : j = k := by omega
                omega, ⟨by omega, fun j hj => by
              rcases Nat.lt_or_ge j (k + 1) with h | h
              · exact HT.out.2 j (by omega)
              · obtain rfl : j = k + 1 := by omega
                omega⟩, HB2.out⟩
          case measure => simp [intOf]; omega
      · have hkn : k = n := by omega
        subst hkn
        go_wp2
        go_ret
        exact ⟨⟨l, rfl, .inr ⟨hl0, by omega, HA.out, HT.out.2⟩⟩, HB.out⟩
end Go.Proofs.Ytkfpacjncpifgaa
