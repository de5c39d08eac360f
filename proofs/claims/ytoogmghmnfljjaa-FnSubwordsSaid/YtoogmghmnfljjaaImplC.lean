/-
  Contracts of the program's ComposePerms and InversePerm. Conditions: lengths below 2^40.
-/
import Derived.Test.YtoogmghmnfljjaaImplB
namespace Go.Proofs.Ytoogmghmnfljjaa
open Go.RowKit

/-- arrayOf, whatever the list: an array, and whether it is a permutation's. -/
theorem arrayOf_x {A : Option Addr} {n : Nat} (c : Nat) {xs : List Int} {w : World} {b : Bool} (hb : isPermB xs = b) (hs : SI w A n xs) (hn : n ≤ 1099511627776) :
    Calls Try.prog 77 #[.slice A n c] w fun e w' => ∃ l, e = .returned (.tuple #[arr l, .bool b]) ∧ (b = true → l = fillA xs n) ∧ Below w.heap.size w w' := by
  subst hb
  refine (arrayOf_any A n c xs w hs hn).mono fun e w' ⟨he, hbl⟩ => ?_
  rcases he with ⟨h, he⟩ | ⟨h, he⟩
  · exact ⟨_, by rw [h]; exact he, fun _ => rfl, hbl⟩
  · exact ⟨[0, 0, 0, 0, 0, 0, 0], by rw [h]; exact he, (fun h' => by rw [h] at h'; cases h'), hbl⟩

set_option maxHeartbeats 1000000 in
theorem implInverse_any (A : Option Addr) (n c : Nat) (xs : List Int) (w : World) (hs : SI w A n xs) (hn : n ≤ 1099511627776) :
    Calls Try.prog 53 #[.slice A n c] w fun e w' => Fresh w w' e (invPerm xs) := by
  have hl := hs.1
  cases hu : isPermB xs with
  | false =>
    have HE := Lib.hid (invPerm_no hu)
    have HU := Lib.hid hu
    clear hu
    go_enter Try.func53, Try.ntmps53
    go_wp2_with fail
    refine (arrayOf_x c HU.out hs hn).mono ?_
    rintro e w1 ⟨l, rfl, -, hb1⟩
    go_wp2
    go_ret
    rw [HE.out]
    exact Fresh.nil_ret (hb1.alloc hb1.size _)
  | true =>
    have HE := Lib.hid (invPerm_yes hu)
    have HU := Lib.hid hu
    clear hu
    go_enter Try.func53, Try.ntmps53
    go_wp2_with fail
    refine (arrayOf_x c HU.out hs hn).mono ?_
    rintro e w1 ⟨l, rfl, hlf, hb1⟩
    have HF := Lib.hid (hlf rfl)
    clear hlf
    have hK := Blk.new w1 71 (arrC l)
    go_wp2_with (refine wpList_load_blk rfl 71 (.tmp 3) rfl w1.heap.size rfl 71 (arrC l) 7 3 hK Try.undArr Try.infoArr ?_)
    have hb2 : Below w.heap.size w (w1.alloc (.cells (arrC l) 71)) := hb1.alloc hb1.size _
    generalize w1.alloc (.cells (arrC l) 71) = w2 at *
    refine (inverse_any l w2 ?_).mono ?_
    · have e := HF.out
      subst e
      rw [← hl]
      exact fun k hk => fillA_range (isPermB_P HU.out) k hk
    · rintro e w3 ⟨rfl, hb3⟩
      have hp := isPermB_P HU.out
      have h7 : n ≤ 7 := by have := hp.2.1; omega
      go_wp2_with fail
      refine (list_any (invM l 7 7) n w3 (invM_len _ _ _) h7).mono ?_
      rintro e w4 ⟨A4, n4, c4, rfl, ho4, hb4⟩
      go_wp2
      go_ret
      rw [HE.out]
      have e1 := HF.out
      have e2 := invM_take hp
      rw [hl] at e2
      rw [e1, e2] at ho4
      rw [hl]
      exact Fresh.after (hb2.trans (hb3.mono hb2.size)) ⟨A4, n4, c4, rfl, ho4, hb4⟩

end Go.Proofs.Ytoogmghmnfljjaa
