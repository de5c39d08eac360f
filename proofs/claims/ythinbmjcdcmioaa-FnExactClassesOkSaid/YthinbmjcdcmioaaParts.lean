/-
  What a list of parts is: both sides answer partsB. Conditions: lengths below 2^40.
-/
import Derived.Test.YthinbmjcdcmioaaLexL
import Derived.Test.YthinbmjcdcmioaaShape
import Derived.Test.YthinbmjcdcmioaaPrtTermHelp
import Derived.Test.YthinbmjcdcmioaaPrtTermEq
namespace Go.Proofs.Ythinbmjcdcmioaa
open Go.RowKit

def partAt (ts : List Tm) (k : Nat) : Prop := isShapeB (tm ts k).1 = true ∧ (tm ts k).2 ≠ 0 ∧ (0 < k → lessL (tm ts (k - 1)).1 (tm ts k).1 = true)
instance (ts : List Tm) (k : Nat) : Decidable (partAt ts k) := by unfold partAt; infer_instance
def partsB (ts : List Tm) : Bool := (List.range ts.length).all fun k => decide (partAt ts k)
theorem partsB_iff (ts : List Tm) : partsB ts = true ↔ ∀ k, k < ts.length → partAt ts k := by simp [partsB]
theorem partsB_yes {ts : List Tm} (h : ∀ k, k < ts.length → partAt ts k) : partsB ts = true := (partsB_iff ts).2 h
theorem partsB_no {ts : List Tm} {k : Nat} (hk : k < ts.length) (h : ¬ partAt ts k) : partsB ts = false := by
  cases hb : partsB ts with
  | false => rfl
  | true => exact absurd ((partsB_iff ts).1 hb k hk) h

set_option maxRecDepth 100000 in
set_option maxHeartbeats 6400000 in
theorem specParts_any (A : Option Addr) (n c : Nat) (ts : List Tm) (w : World) (hs : TS w A n ts) (hn : n ≤ 1099511627776) (hne : ∀ k, k < n → (tm ts k).1.length ≤ 1099511627776) :
    Calls Try.prog 31 #[.slice A n c] w fun e w' => e = .returned (.bool (partsB ts)) ∧ Drawn w w' := by
  have HL := Lib.hid hs.1
  have HNE := Lib.hid hne
  clear hne
  go_enter Try.func31, Try.ntmps31
  go_wp2
  go_loopw [3] (fun iv wr => ∃ k : Nat, k ≤ n ∧ iv = .int .i64 k ∧ Drawn w wr ∧ ∀ j, j < k → partAt ts j)
    (fun iv _ => n - (intOf iv).toNat)
  case atStart => exact ⟨0, Nat.zero_le _, rfl, Drawn.refl _, fun j hj => absurd hj (by omega)⟩
  case round =>
    obtain ⟨k, hk, rfl, hD, hall⟩ := hrel
    have HD := Lib.hid hD
    have HA := Lib.hid hall
    have hts := hs.drawn hD
    clear hD hall hs
    by_cases hlt : k < n
    · have hlI : (k : Int) < (n : Int) := by omega
      have HFAIL : Hid (¬ partAt ts k → partsB ts = false) := Lib.hid (fun h => partsB_no (by rw [HL.out]; exact hlt) h)
      obtain ⟨b, o, A', n', c', rfl, hb, hc0, hc1, hsi, _, _⟩ := hts.at_ hlt
      obtain ⟨x, hx⟩ : ∃ x, x = (tm ts k).2 := ⟨_, rfl⟩
      rw [← hx] at hc1
      have HX := Lib.hid hx
      have hln : n' ≤ 1099511627776 := by have := HNE.out k hlt; have := hsi.1; omega
      have CA1 := fun nd => Calls.quiet_of (specIsShape_any A' n' c' (tm ts k).1 (wr.drewN nd) (hsi.drewN nd) hln)
      cases hsh : isShapeB (tm ts k).1 with
      | false =>
        rw [hsh] at CA1
        have CB1 := Lib.hid CA1
        have HF := Lib.hid (HFAIL.out (fun h => by rw [h.1] at hsh; simp at hsh))
        clear hts hx hsi CA1 hsh
        go_wp2_with fail
        go_quiet ((go_at_call 15; with_reducible exact CB1.out _))
        go_wp2
        go_ret
        exact ⟨ret_bool HF.out.symm, HD.out.drewN _⟩
      | true =>
        rw [hsh] at CA1
        have CB1 := Lib.hid CA1
        have HSH := Lib.hid hsh
        clear hsh CA1
        by_cases h0 : x = 0
        · have HF := Lib.hid (HFAIL.out (fun h => h.2.1 (by rw [← hx]; exact h0)))
          subst h0
          clear hts hx hsi
          go_wp2_with fail
          go_quiet ((go_at_call 15; with_reducible exact CB1.out _))
          go_wp2
          go_ret
          exact ⟨ret_bool HF.out.symm, HD.out.drewN _⟩
        · have hx0 : (x == 0) = false := by simpa using h0
          cases k with
          | zero =>
            have HG : Hid (partAt ts 0) := Lib.hid ⟨HSH.out, by rw [← HX.out]; exact h0, fun h => absurd h (by omega)⟩
            rw [Nat.zero_mul, Nat.add_zero] at hc0
            rw [Nat.zero_mul, Nat.add_zero] at hc1
            clear hts hx hsi
            go_wp2_with fail
            go_quiet ((go_at_call 15; with_reducible exact CB1.out _))
            go_wp2
            go_roundw
            case rel => exact ⟨1, by omega, by go_num, HD.out.drewN _, fun j hj => by
              obtain rfl : j = 0 := by omega
              exact HG.out⟩
            case measure => simp [intOf]; omega
          | succ m =>
            obtain ⟨b3, o3, A3, n3, c3, e3, hb3, hd0, hd1, hsi3, _, _⟩ := hts.at_ (k := m) (by omega)
            obtain ⟨rfl, rfl⟩ : b = b3 ∧ o = o3 := by simpa using e3
            have hln3 : n3 ≤ 1099511627776 := by have := HNE.out m (by omega); have := hsi3.1; omega
            have CA2 := fun nd => Calls.quiet_of (l1Less_any A3 A' n3 c3 n' c' (tm ts m).1 (tm ts (m + 1)).1 (wr.drewN nd) (hsi3.drewN nd) (hsi.drewN nd) hln3 hln)
            have hmw : IntKind.i64.wrap (((m + 1 : Nat) : Int) - 1) = (m : Int) := by rw [IntWalk.i64_in _ (by omega)]; omega
            have hm0 : (0 : Int) < ((m + 1 : Nat) : Int) := by omega
            have hmI : (m : Int) < (n : Int) := by omega
            have hsub : m + 1 - 1 = m := by omega
            cases hq : lessL (tm ts m).1 (tm ts (m + 1)).1 with
            | false =>
              rw [hq] at CA2
              have CB2 := Lib.hid CA2
              have HF := Lib.hid (HFAIL.out (fun h => by have h2 := h.2.2 (by omega); rw [hsub, hq] at h2; simp at h2))
              clear hts hx hsi hsi3 CA2 hq hd1 hsub
              go_wp2_with fail
              go_quiet ((first | (go_at_call 15; with_reducible exact CB1.out _) | (go_at_call 63; with_reducible exact CB2.out _)))
              go_wp2
              go_ret
              exact ⟨ret_bool HF.out.symm, HD.out.drewN _⟩
            | true =>
              rw [hq] at CA2
              have CB2 := Lib.hid CA2
              have HG : Hid (partAt ts (m + 1)) := Lib.hid ⟨HSH.out, by rw [← HX.out]; exact h0, fun _ => by rw [hsub]; exact hq⟩
              clear hts hx hsi hsi3 CA2 hq hd1 hsub
              go_wp2_with fail
              go_quiet ((first | (go_at_call 15; with_reducible exact CB1.out _) | (go_at_call 63; with_reducible exact CB2.out _)))
              go_wp2
              go_roundw
              case rel => exact ⟨m + 1 + 1, by omega, by go_num, HD.out.drewN _, fun j hj => by
                rcases Nat.lt_or_ge j (m + 1) with h | h
                · exact HA.out j h
                · rw [show j = m + 1 by omega]; exact HG.out⟩
              case measure => simp [intOf]; omega
    · have hkn : k = n := by omega
      subst hkn
      have HT := Lib.hid (partsB_yes (ts := ts) (by rw [HL.out]; exact HA.out))
      clear hts
      go_wp2
      go_ret
      exact ⟨ret_bool HT.out.symm, HD.out⟩

set_option maxHeartbeats 1600000 in
theorem compareParts_any (A A2 : Option Addr) (n c n2 c2 : Nat) (xs ys : List Int) (x y : Int) (w : World) (hs : SI w A n xs) (hs2 : SI w A2 n2 ys) (hn : n ≤ 1099511627776) (hn2 : n2 ≤ 1099511627776) :
    Calls Try.prog 65 #[.agg #[.slice A n c, .int .i64 x], .agg #[.slice A2 n2 c2, .int .i64 y]] w fun e w' => e = .returned (.int .i64 (cmpL xs ys)) ∧ Below w.heap.size w w' := by
  have HC := Lib.hid (fun (w1 : World) (hb : Below w.heap.size w w1) => sliceCompare_any A A2 n c n2 c2 xs ys w1 (hs.below hb (Nat.le_refl _)) (hs2.below hb (Nat.le_refl _)) hn hn2)
  clear hs hs2
  go_enter Try.func65, Try.ntmps65
  go_wp2_with (go_at_call 94; refine (HC.out _ (by go_grown)).mono ?_; rintro e w1 ⟨rfl, hd⟩; have HD := Lib.hid hd; clear hd)
  go_ret
  exact ⟨rfl, Below.trans (by go_grown) (HD.out.below _)⟩
end Go.Proofs.Ythinbmjcdcmioaa
