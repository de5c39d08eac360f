/-
  The program's RskOf. Conditions: lengths below 2^40.
-/
import Derived.Test.YtfaegfhbbkicgaaRskI
import Derived.Test.YtfaegfhbbkicgaaRskC
namespace Go.Proofs.Ytfaegfhbbkicgaa
open Go.RowKit

/-- Few and short. -/
def Small (ls : List (List Int)) : Prop := ls.length ≤ 16 ∧ ∀ j, (li ls j).length ≤ 16
theorem Small.nil : Small [] := ⟨by simp, fun j => by simp [li]⟩
/-- What the program's RskOf hands back: two lists of lists, no block of both. -/
def FreshLD (w w' : World) (e : Ending) (ls us : List (List Int)) (b : Bool) : Prop :=
  ∃ A1 n1 c1 E1 A2 c2 E2, e = .returned (.tuple #[.slice A1 n1 c1, .slice A2 n1 c2, .bool b]) ∧ OwnLE E1 w' w.heap.size w'.heap.size A1 n1 c1 ls ∧ OwnLE E2 w' w.heap.size w'.heap.size A2 n1 c2 us ∧ Disj E1 A1 n1 E2 A2 n1 ∧ Below w.heap.size w w' ∧ Small ls ∧ Small us
theorem FreshLD.nil_ret {w w' : World} {b : Bool} (h : Below w.heap.size w w') : FreshLD w w' (.returned (.tuple #[.slice none 0 0, .slice none 0 0, .bool b])) [] [] b :=
  ⟨none, 0, 0, fun _ => (none, 0, 0), none, 0, fun _ => (none, 0, 0), rfl, OwnLE.nil _ _ _ _, OwnLE.nil _ _ _ _, fun k => .inl ⟨(fun h => by cases h), fun j hj => absurd hj (by omega)⟩, h, Small.nil, Small.nil⟩
set_option maxHeartbeats 1000000 in
theorem implRskOf_any (A : Option Addr) (n c : Nat) (xs : List Int) (w : World) (hs : SI w A n xs) (hn : n ≤ 1099511627776) :
    Calls Try.prog 32 #[.slice A n c] w fun e w' => FreshLD w w' e (rskA xs) (rskC xs) (rskB xs) := by
  have HL := Lib.hid hs.1
  by_cases hbig : (n : Int) > 16
  · have HNO : Hid (rskB xs = false) := Lib.hid (by
      cases h : rskB xs with
      | false => rfl
      | true => have := ((rskB_iff xs).1 h).1; have := HL.out; omega)
    clear hs
    go_enter Try.func32, Try.ntmps32
    go_wp2_with fail
    go_ret3
    rw [(rsk_no HNO.out).1, (rsk_no HNO.out).2, HNO.out]
    exact FreshLD.nil_ret (Below.refl _ _)
  · have HN16 : Hid (n ≤ 16) := Lib.hid (by omega)
    by_cases hall : ∀ k, k < n → 0 ≤ nth xs k ∧ nth xs k ≤ 20
    · have HYES : Hid (rskB xs = true) := Lib.hid ((rskB_iff xs).2 ⟨by rw [HL.out]; exact HN16.out, by rw [HL.out]; exact hall⟩)
      have HC := Lib.hid (containsRsk_no A n c xs w hs hn hall)
      have HIW := Lib.hid (fun u (hd : Drawn w u) => insertWord_any A n c xs u (hd.si hs) HN16.out)
      clear hs hall
      go_enter Try.func32, Try.ntmps32
      go_wp2_with (first
        | (go_at_call 87; (with_reducible refine HC.out.mono ?_); rintro e w1 ⟨rfl, hd1⟩; have HD1 := Lib.hid hd1; clear hd1)
        | (go_at_call 88; (with_reducible refine (HIW.out _ HD1.out).mono ?_); rintro e w2 ⟨A1, n1, c1, E1, A2, c2, E2, rfl, he1, he2, hdj, hkk, hb⟩
           have HKK := Lib.hid hkk
           have HE1 := Lib.hid he1
           have HE2 := Lib.hid he2
           have HDJ := Lib.hid hdj
           have HB := Lib.hid hb
           clear he1 he2 hdj hkk hb))
      go_ret3
      rw [(rsk_yes HYES.out).1, (rsk_yes HYES.out).2, HYES.out, HL.out]
      have hz : w1.heap.size = w.heap.size := by rw [HD1.out.heap]
      have h1 := HE1.out
      have h2 := HE2.out
      have h3 := HB.out
      rw [hz] at h1 h2 h3
      exact ⟨A1, n1, c1, E1, A2, c2, E2, rfl, h1, h2, HDJ.out, (HD1.out.below _).trans h3, ⟨Nat.le_trans HKK.out.few HN16.out, fun j => Nat.le_trans (HKK.out.row j) HN16.out⟩, ⟨by rw [HKK.out.len]; exact Nat.le_trans HKK.out.few HN16.out, fun j => Nat.le_trans (HKK.out.row2 j) HN16.out⟩⟩
    · have HNO : Hid (rskB xs = false) := Lib.hid (by
        cases h : rskB xs with
        | false => rfl
        | true => exact absurd (by have := ((rskB_iff xs).1 h).2; rwa [HL.out] at this) hall)
      have HC := Lib.hid (containsRsk_yes A n c xs w hs hn hall)
      clear hs hall
      go_enter Try.func32, Try.ntmps32
      go_wp2_with (go_at_call 87; (with_reducible refine HC.out.mono ?_); rintro e w1 ⟨rfl, hd1⟩; have HD1 := Lib.hid hd1; clear hd1)
      go_ret3
      rw [(rsk_no HNO.out).1, (rsk_no HNO.out).2, HNO.out]
      exact FreshLD.nil_ret (HD1.out.below _)
end Go.Proofs.Ytfaegfhbbkicgaa
