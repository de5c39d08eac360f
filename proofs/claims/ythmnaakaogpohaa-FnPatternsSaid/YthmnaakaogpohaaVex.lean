/-
  Contracts of IsVexillary on both sides. Conditions: lengths below 2^40.
-/
import Derived.Test.YthmnaakaogpohaaPatI
import Derived.Test.YthmnaakaogpohaaPatS
namespace Go.Proofs.Ythmnaakaogpohaa
open Go.RowKit

/-- Is it a permutation without the pattern 2143. -/
def vexB (xs : List Int) : Bool := isPermB xs && !(hasPB xs [1, 0, 3, 2])
theorem vexB_no {xs : List Int} (h : isPermB xs = false) : vexB xs = false := by unfold vexB; rw [h]; rfl
theorem vexB_yes {xs : List Int} {b : Bool} (h : isPermB xs = true) (hb : hasPB xs [1, 0, 3, 2] = b) : vexB xs = !b := by unfold vexB; rw [h, hb]; rfl
theorem isPermB_lit : isPermB [1, 0, 3, 2] = true := by decide
theorem SI_lit4 (w : World) : SI (w.alloc (.cells #[.int .i64 1, .int .i64 0, .int .i64 3, .int .i64 2] 3)) (some ⟨w.heap.size, 0, none⟩) 4 [1, 0, 3, 2] := by
  refine ⟨rfl, fun _ => ⟨_, _, rfl, by simp, fun k hk => ?_⟩⟩
  rw [(Blk.new w 3 #[.int .i64 1, .int .i64 0, .int .i64 3, .int .i64 2]).cell]
  match k, hk with
  | 0, _ | 1, _ | 2, _ | 3, _ => rfl
set_option maxHeartbeats 400000 in
theorem implVex_any (A : Option Addr) (n c : Nat) (xs : List Int) (w : World) (hs : SI w A n xs) (hn : n ≤ 1099511627776) :
    Calls Try.prog 17 #[.slice A n c] w fun e w' => e = .returned (.bool (vexB xs)) ∧ Below w.heap.size w w' := by
  have hp := implIsPerm_any A n c xs w hs hn
  cases hu : isPermB xs with
  | false =>
    rw [hu] at hp
    have HE := Lib.hid (vexB_no hu)
    clear hu
    go_enter Try.func17, Try.ntmps17
    go_wp2_with fail
    refine hp.mono ?_
    rintro e w1 ⟨rfl, hb1⟩
    clear hp
    go_wp2
    go_ret
    exact ⟨ret_bool HE.out.symm, hb1⟩
  | true =>
    rw [hu] at hp
    have HU := Lib.hid hu
    clear hu
    go_enter Try.func17, Try.ntmps17
    go_wp2_with fail
    refine hp.mono ?_
    rintro e w1 ⟨rfl, hb1⟩
    clear hp
    go_wp2_with fail
    refine (implHasPattern_any A _ n c 4 4 xs [1, 0, 3, 2] _ ((hs.below hb1 (Nat.le_refl _)).alloc _) (SI_lit4 w1) hn (by omega)).mono ?_
    rintro e w3 ⟨rfl, hb3⟩
    obtain ⟨b, hb⟩ : ∃ b, b = hasPB xs [1, 0, 3, 2] := ⟨_, rfl⟩
    have HE := Lib.hid (vexB_yes HU.out hb.symm)
    rw [← hb]
    have HB : Hid (Below w.heap.size w w3) := Lib.hid (hb1.trans ((((Below.refl w1.heap.size w1).alloc (Nat.le_refl _) _).trans (hb3.mono (by simp))).mono hb1.size))
    clear hb3 hb
    go_wp2
    go_ret
    exact ⟨ret_bool HE.out.symm, HB.out⟩
end Go.Proofs.Ythmnaakaogpohaa
