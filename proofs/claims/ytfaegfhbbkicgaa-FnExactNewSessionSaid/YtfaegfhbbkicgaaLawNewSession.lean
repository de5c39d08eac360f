/-
  FnExactNewSession: the law returns true: the program's NewSession answers as the specification's, and its answer owns its memory. No conditions.
-/
import Derived.Test.YtfaegfhbbkicgaaPkC3
namespace Go.Proofs.Ytfaegfhbbkicgaa
open Go.ChangeShapes Go.WideShapes Go.ChangeAt Go.RowKit

set_option maxRecDepth 100000 in
set_option maxHeartbeats 8000000 in
theorem walk_NewSession (wA : World) :
    Calls Try.prog 10 #[] wA fun e w' => e = .returned (.bool true) ∧ Below wA.heap.size wA w' := by
  go_enter Try.func10, Try.ntmps10
  go_wp2_with fail
  refine (specNew_any _).mono ?_
  rintro e w1 ⟨A1, c1, A2, c2, A3, c3, rfl, ho, hb⟩
  have HB1 := Lib.hid hb
  have OA1 := Lib.hid ho
  clear ho hb
  go_upto_region 2 with fail
  obtain ⟨w2, hw2⟩ : ∃ w2, w2 = w1.alloc (.cells #[.slice A1 1 c1, .slice A2 0 c2, .slice A3 0 c3, .int .i64 2, .int .i64 4] 58) := ⟨_, rfl⟩
  obtain ⟨g1, hg1⟩ : ∃ g, g = w1.heap.size := ⟨_, rfl⟩
  rw [← hw2, ← hg1]
  have hb : Below w1.heap.size w1 w2 := by rw [hw2]; exact Below.alloc_self _ _
  have KA2 : Hid (Blk w2 g1 58 #[.slice A1 1 c1, .slice A2 0 c2, .slice A3 0 c3, .int .i64 2, .int .i64 4]) := Lib.hid (by rw [hw2, hg1]; exact Blk.new _ _ _)
  have HB2 : Hid (Below wA.heap.size wA w2) := Lib.hid (HB1.out.trans (hb.mono HB1.out.size))
  have OA2 : Hid (Own w2 wA.heap.size w1.heap.size A1 1 c1 [0]) := Lib.hid (OA1.out.below hb (Nat.le_refl _))
  have HL12 : Hid (w1.heap.size ≤ w2.heap.size) := Lib.hid hb.size
  clear hb hw2 hg1 OA1
  go_wp2_with fail
  refine (implNew_any _).mono ?_
  rintro e w3 ⟨B1, d1, B2, d2, B3, d3, rfl, ho, hb⟩
  have KA3 := Lib.hid (KA2.out.below hb KA2.out.lt)
  have HB3 : Hid (Below wA.heap.size wA w3) := Lib.hid (HB2.out.trans (hb.mono HB2.out.size))
  have OA3 := Lib.hid (OA2.out.below hb HL12.out)
  have OB3 := Lib.hid ho
  have HG1 : Hid (g1 < w2.heap.size) := Lib.hid KA2.out.lt
  clear ho hb OA2 KA2
  go_upto_region 3 with fail
  obtain ⟨w4, hw4⟩ : ∃ w4, w4 = w3.alloc (.cells #[.slice B1 1 d1, .slice B2 0 d2, .slice B3 0 d3, .int .i64 2, .int .i64 4] 58) := ⟨_, rfl⟩
  obtain ⟨g2, hg2⟩ : ∃ g, g = w3.heap.size := ⟨_, rfl⟩
  rw [← hw4, ← hg2]
  have hb : Below w3.heap.size w3 w4 := by rw [hw4]; exact Below.alloc_self _ _
  have KB4 : Hid (Blk w4 g2 58 #[.slice B1 1 d1, .slice B2 0 d2, .slice B3 0 d3, .int .i64 2, .int .i64 4]) := Lib.hid (by rw [hw4, hg2]; exact Blk.new _ _ _)
  have KA4 := Lib.hid (KA3.out.below hb KA3.out.lt)
  have HB4 : Hid (Below wA.heap.size wA w4) := Lib.hid (HB3.out.trans (hb.mono HB3.out.size))
  have HL23 : Hid (w2.heap.size ≤ w3.heap.size) := Lib.hid (by have h1 := (OB3.out.place (by decide)); obtain ⟨_, _, h2, h3⟩ := h1; omega)
  have OA4 := Lib.hid (OA3.out.below hb (Nat.le_trans HL12.out HL23.out))
  have OB4 := Lib.hid (OB3.out.below hb (Nat.le_refl _))
  have HG2 : Hid (w3.heap.size ≤ g2) := Lib.hid (Nat.le_of_eq hg2.symm)
  have HL34 : Hid (w3.heap.size ≤ w4.heap.size) := Lib.hid hb.size
  clear hb hw4 hg2 KA3 OA3 OB3
  obtain ⟨a0, a1, a2, a3, a4⟩ := cells5 KA4.out
  obtain ⟨b0, b1, b2, b3, b4⟩ := cells5 KB4.out
  go_wp2_with fail
  refine (eqSession_new _ _ _ _ _ _ _ _ _ _ _ _ _ OB4.out.si OA4.out.si).mono ?_
  rintro e w5 ⟨rfl, hb⟩
  clear a0 a1 a2 a3 a4 b0 b1 b2 b3 b4
  have KA5 := Lib.hid (KA4.out.below hb KA4.out.lt)
  have KB5 := Lib.hid (KB4.out.below hb KB4.out.lt)
  have HB5 : Hid (Below wA.heap.size wA w5) := Lib.hid (HB4.out.trans (hb.mono HB4.out.size))
  have OA5 := Lib.hid (OA4.out.below hb (Nat.le_trans HL12.out (Nat.le_trans HL23.out HL34.out)))
  have OB5 := Lib.hid (OB4.out.below hb HL34.out)
  have HL45 : Hid (w3.heap.size ≤ w5.heap.size) := Lib.hid (Nat.le_trans HL34.out hb.size)
  clear hb KA4 KB4 OA4 OB4
  obtain ⟨b0, b1, b2, b3, b4⟩ := cells5 KB5.out
  go_wp2_with fail
  refine (markSession_new _ _ _ _ _ _ _ _ _ OB5.out HL45.out).mono ?_
  rintro e w6 ⟨rfl, ho, hw⟩
  clear b0 b1 b2 b3 b4
  have KA6 := Lib.hid (Blk.within_ KA5.out hw (.inl HG1.out))
  have KB6 := Lib.hid (Blk.within_ KB5.out hw (.inr HG2.out))
  have HB6 : Hid (Below wA.heap.size wA w6) := Lib.hid (HB5.out.trans (hw.below HB2.out.size HB5.out.size))
  have OA6 := Lib.hid (OA5.out.within hw (.inl HL12.out))
  have OB6 := Lib.hid ho
  have HL6 : Hid (w3.heap.size ≤ w6.heap.size) := Lib.hid (Nat.le_trans HL45.out hw.size)
  clear ho hw KA5 KB5 OA5 OB5
  obtain ⟨b0, b1, b2, b3, b4⟩ := cells5 KB6.out
  go_wp2_with fail
  refine (heldSession_new _ _ _ _ _ _ _ OB6.out.si).mono ?_
  rintro e w7 ⟨rfl, hb⟩
  clear b0 b1 b2 b3 b4
  have KA7 := Lib.hid (KA6.out.below hb KA6.out.lt)
  have KB7 := Lib.hid (KB6.out.below hb KB6.out.lt)
  have HB7 : Hid (Below wA.heap.size wA w7) := Lib.hid (HB6.out.trans (hb.mono HB6.out.size))
  have OA7 := Lib.hid (OA6.out.below hb (Nat.le_trans HL12.out (Nat.le_trans HL23.out HL6.out)))
  have OB7 := Lib.hid (OB6.out.below hb HL6.out)
  have HL7 : Hid (w3.heap.size ≤ w7.heap.size) := Lib.hid (Nat.le_trans HL6.out hb.size)
  clear hb KA6 KB6 OA6 OB6
  go_wp2_with fail
  refine (implNew_any _).mono ?_
  rintro e w8 ⟨C1, f1, C2, f2, C3, f3, rfl, ho, hb⟩
  have KA8 := Lib.hid (KA7.out.below hb KA7.out.lt)
  have KB8 := Lib.hid (KB7.out.below hb KB7.out.lt)
  have HB8 : Hid (Below wA.heap.size wA w8) := Lib.hid (HB7.out.trans (hb.mono HB7.out.size))
  have OA8 := Lib.hid (OA7.out.below hb (Nat.le_trans HL12.out (Nat.le_trans HL23.out HL7.out)))
  have OB8 := Lib.hid (OB7.out.below hb HL7.out)
  have OC8 := Lib.hid ho
  have HL8 : Hid (w3.heap.size ≤ w8.heap.size) := Lib.hid (Nat.le_trans HL7.out hb.size)
  clear ho hb KA7 KB7 OA7 OB7
  go_upto_region 14 with fail
  obtain ⟨w9, hw9⟩ : ∃ w9, w9 = w8.alloc (.cells #[.slice C1 1 f1, .slice C2 0 f2, .slice C3 0 f3, .int .i64 2, .int .i64 4] 58) := ⟨_, rfl⟩
  obtain ⟨g3, hg3⟩ : ∃ g, g = w8.heap.size := ⟨_, rfl⟩
  rw [← hw9, ← hg3]
  have hb : Below w8.heap.size w8 w9 := by rw [hw9]; exact Below.alloc_self _ _
  have KC9 : Hid (Blk w9 g3 58 #[.slice C1 1 f1, .slice C2 0 f2, .slice C3 0 f3, .int .i64 2, .int .i64 4]) := Lib.hid (by rw [hw9, hg3]; exact Blk.new _ _ _)
  have KA9 := Lib.hid (KA8.out.below hb KA8.out.lt)
  have KB9 := Lib.hid (KB8.out.below hb KB8.out.lt)
  have HB9 : Hid (Below wA.heap.size wA w9) := Lib.hid (HB8.out.trans (hb.mono HB8.out.size))
  have OA9 := Lib.hid (OA8.out.below hb (Nat.le_trans HL12.out (Nat.le_trans HL23.out HL8.out)))
  have OB9 := Lib.hid (OB8.out.below hb HL8.out)
  have OC9 := Lib.hid (OC8.out.below hb (Nat.le_refl _))
  have HL9 : Hid (w3.heap.size ≤ w9.heap.size) := Lib.hid (Nat.le_trans HL8.out hb.size)
  clear hb hw9 hg3 KA8 KB8 OA8 OB8 OC8
  obtain ⟨a0, a1, a2, a3, a4⟩ := cells5 KA9.out
  obtain ⟨b0, b1, b2, b3, b4⟩ := cells5 KC9.out
  go_wp2_with fail
  refine (eqSession_new _ _ _ _ _ _ _ _ _ _ _ _ _ OC9.out.si OA9.out.si).mono ?_
  rintro e w10 ⟨rfl, hb⟩
  clear a0 a1 a2 a3 a4 b0 b1 b2 b3 b4
  have KB10 := Lib.hid (KB9.out.below hb KB9.out.lt)
  have HB10 : Hid (Below wA.heap.size wA w10) := Lib.hid (HB9.out.trans (hb.mono HB9.out.size))
  have OB10 := Lib.hid (OB9.out.below hb HL9.out)
  clear hb KA9 KB9 KC9 OA9 OB9 OC9
  obtain ⟨b0, b1, b2, b3, b4⟩ := cells5 KB10.out
  go_wp2_with fail
  refine (heldSession_new _ _ _ _ _ _ _ OB10.out.si).mono ?_
  rintro e w11 ⟨rfl, hb⟩
  clear b0 b1 b2 b3 b4
  have HB11 : Hid (Below wA.heap.size wA w11) := Lib.hid (HB10.out.trans (hb.mono HB10.out.size))
  clear hb
  go_wp2
  go_ret
  exact ⟨rfl, HB11.out⟩

set_option maxRecDepth 100000 in
theorem lifted_NewSession (os : Os) (started : os.Started) (H : Type) (enc : TypeId × Value → H) :
    ReturnsInHanded {} Try.checked os 10 .any (Rows.fnExactNewSessionSpec.pre6 enc Try.prog Try.f10 Rows.fnExactNewSessionRow.domain false) (Rows.fnExactNewSessionSpec.post enc Try.prog Try.f10 false true false false) := by
  refine returnsInHanded_of_change (C := Try.checked) own started (by kernel_rfl) Try.func10
    (ChangeSpec.witness6 (enc := enc) (C := Try.checked) false ⟨#[], #[], []⟩ 8 (by kernel_rfl) (by kernel_rfl) (by kernel_rfl) (by kernel_rfl)) ?_
  intro W base args ds gs before hval0 hW hcnd _
  have hW' := hW
  obtain ⟨p, q, hA0, hV, rfl, hfz, hnd⟩ := hW
  have hA : DataW.TrodAll enc Try.prog W 0 (fun _ => true) true Try.f10.params.toList args.toList ds p := hA0
  rw [Try.params10] at hA
  obtain ⟨hargs, rfl, rfl⟩ := trodAll_nil hA
  obtain rfl : args = #[] := by cases args; simp_all
  obtain ⟨rfl, rfl⟩ := trodVars_none hV
  clear hA0 hval0
  refine (walk_NewSession W).mono fun e W' ⟨he, bel⟩ => ?_
  subst he
  exact ⟨_, rfl, _, _, _, [], _, [], hW', trodAll_mk1 (shut_bool Try.underlying4 _), trodAll_mk0, rfl, bel.frame _, fun h => by cases h⟩

theorem fnExactNewSession_holds : Rows.FnExactNewSessionSaid :=
  OpenClaim.holds_of_wide 10 Try.f10 rfl rfl rfl rfl rfl rfl rfl ⟨rfl, rfl, rfl, rfl, rfl⟩ rfl rfl rfl rfl rfl (by kernel_rfl) Try.func10 (by kernel_rfl)
    (of_decide_eq_true (by kernel_rfl)) (by unfold Func.isWrapper; first | (rw [if_pos (by decide +kernel)]; kernel_rfl) | (rw [if_neg (by decide +kernel)]; exact ⟨rfl, rfl⟩))
    (fun os started H enc _ => lifted_NewSession os started H enc)
end Go.Proofs.Ytfaegfhbbkicgaa
