/-
  What a list of classes is, and comparing two. Conditions: lengths below 2^40.
-/
import Derived.Test.YthinbmjcdcmioaaLexL
import Derived.Test.YthinbmjcdcmioaaSpecF
namespace Go.Proofs.Ythinbmjcdcmioaa
open Go.RowKit

def classAt (ts : List Tm) (k : Nat) : Prop := isPermB (tm ts k).1 = true ∧ trimN (tm ts k).1 (tm ts k).1.length = (tm ts k).1.length ∧ ((tm ts k).2 ≠ 0 ∧ -1000000 ≤ (tm ts k).2 ∧ (tm ts k).2 ≤ 1000000) ∧ (0 < k → lessL (tm ts (k - 1)).1 (tm ts k).1 = true)
instance (ts : List Tm) (k : Nat) : Decidable (classAt ts k) := by unfold classAt; infer_instance
def classesB (ts : List Tm) : Bool := decide (ts.length ≤ 100) && (List.range ts.length).all fun k => decide (classAt ts k)
theorem classesB_iff (ts : List Tm) : classesB ts = true ↔ ts.length ≤ 100 ∧ ∀ k, k < ts.length → classAt ts k := by simp [classesB]
theorem classesB_yes {ts : List Tm} (h0 : ts.length ≤ 100) (h : ∀ k, k < ts.length → classAt ts k) : classesB ts = true := (classesB_iff ts).2 ⟨h0, h⟩
theorem classesB_no {ts : List Tm} {k : Nat} (hk : k < ts.length) (h : ¬ classAt ts k) : classesB ts = false := by
  cases hb : classesB ts with
  | false => rfl
  | true => exact absurd (((classesB_iff ts).1 hb).2 k hk) h
theorem classesB_big {ts : List Tm} (h : 100 < ts.length) : classesB ts = false := by
  cases hb : classesB ts with
  | false => rfl
  | true => have := ((classesB_iff ts).1 hb).1; omega

set_option maxHeartbeats 1600000 in
theorem compareClasses_any (A A2 : Option Addr) (n c n2 c2 : Nat) (xs ys : List Int) (x y : Int) (w : World) (hs : SI w A n xs) (hs2 : SI w A2 n2 ys) (hn : n ≤ 1099511627776) (hn2 : n2 ≤ 1099511627776) :
    Calls Try.prog 92 #[.agg #[.slice A n c, .int .i64 x], .agg #[.slice A2 n2 c2, .int .i64 y]] w fun e w' => e = .returned (.int .i64 (cmpL xs ys)) ∧ Below w.heap.size w w' := by
  have HC := Lib.hid (fun (w1 : World) (hb : Below w.heap.size w w1) => sliceCompare_any A A2 n c n2 c2 xs ys w1 (hs.below hb (Nat.le_refl _)) (hs2.below hb (Nat.le_refl _)) hn hn2)
  clear hs hs2
  go_enter Try.func92, Try.ntmps92
  go_wp2_with (go_at_call 94; refine (HC.out _ (by go_grown)).mono ?_; rintro e w1 ⟨rfl, hd⟩; have HD := Lib.hid hd; clear hd)
  go_ret
  exact ⟨rfl, Below.trans (by go_grown) (HD.out.below _)⟩

end Go.Proofs.Ythinbmjcdcmioaa
