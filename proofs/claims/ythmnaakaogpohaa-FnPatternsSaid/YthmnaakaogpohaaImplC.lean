/-
  Contracts of the program's ComposePerms and InversePerm. Conditions: lengths below 2^40.
-/
import Derived.Test.YthmnaakaogpohaaImplB
namespace Go.Proofs.Ythmnaakaogpohaa
open Go.RowKit

/-- arrayOf, whatever the list: an array, and whether it is a permutation's. -/
theorem arrayOf_x {A : Option Addr} {n : Nat} (c : Nat) {xs : List Int} {w : World} {b : Bool} (hb : isPermB xs = b) (hs : SI w A n xs) (hn : n ≤ 1099511627776) :
    Calls Try.prog 59 #[.slice A n c] w fun e w' => ∃ l, e = .returned (.tuple #[arr l, .bool b]) ∧ (b = true → l = fillA xs n) ∧ Below w.heap.size w w' := by
  subst hb
  refine (arrayOf_any A n c xs w hs hn).mono fun e w' ⟨he, hbl⟩ => ?_
  rcases he with ⟨h, he⟩ | ⟨h, he⟩
  · exact ⟨_, by rw [h]; exact he, fun _ => rfl, hbl⟩
  · exact ⟨[0, 0, 0, 0, 0, 0, 0], by rw [h]; exact he, (fun h' => by rw [h] at h'; cases h'), hbl⟩

set_option maxHeartbeats 1000000 in
theorem implInverse_any (A : Option Addr) (n c : Nat) (xs : List Int) (w : World) (hs : SI w A n xs) (hn : n ≤ 1099511627776) :
    Calls Try.prog 16 #[.slice A n c] w fun e w' => Fresh w w' e (invPerm xs) := by
  have hl := hs.1
  cases hu : isPermB xs with
  | false =>
    have HE := Lib.hid (invPerm_no hu)
    have HU := Lib.hid hu
    clear hu
    go_enter Try.func16, Try.ntmps16
    go_wp2_with fail
    refine (arrayOf_x c HU.out hs hn).mono ?_
    rintro e w1 ⟨l, rfl, -, hb1⟩
    go_wp2
    go_ret
    rw [HE.out]
    exact Fresh.nil_ret (hb1.alloc hb1.size _)
  | true =>
    have HE := Lib.hid (invPerm_yes hu)
    have HU := Lib.hid hu
    clear hu
    go_enter Try.func16, Try.ntmps16
    go_wp2_with fail
    refine (arrayOf_x c HU.out hs hn).mono ?_
    rintro e w1 ⟨l, rfl, hlf, hb1⟩
    have HF := Lib.hid (hlf rfl)
    clear hlf
    have hK := Blk.new w1 66 (arrC l)
    go_wp2_with (refine wpList_load_blk rfl 66 (.tmp 3) rfl w1.heap.size rfl 66 (arrC l) 7 3 hK Try.undArr Try.infoArr ?_)
    have hb2 : Below w.heap.size w (w1.alloc (.cells (arrC l) 66)) := hb1.alloc hb1.size _
    generalize w1.alloc (.cells (arrC l) 66) = w2 at *
    refine (inverse_any l w2 ?_).mono ?_
    · have e := HF.out
      subst e
      rw [← hl]
      exact fun k hk => fillA_range (isPermB_P HU.out) k hk
    · rintro e w3 ⟨rfl, hb3⟩
      have hp := isPermB_P HU.out
      have h7 : n ≤ 7 := by have := hp.2.1; omega
      go_wp2_with fail
      refine (list_any (invM l 7 7) n w3 (invM_len _ _ _) h7).mono ?_
      rintro e w4 ⟨A4, n4, c4, rfl, ho4, hb4⟩
      go_wp2
      go_ret
      rw [HE.out]
      have e1 := HF.out
      have e2 := invM_take hp
      rw [hl] at e2
      rw [e1, e2] at ho4
      rw [hl]
      exact Fresh.after (hb2.trans (hb3.mono hb2.size)) ⟨A4, n4, c4, rfl, ho4, hb4⟩

set_option maxHeartbeats 2000000 in
theorem implCompose_any (A A' : Option Addr) (n c n' c' : Nat) (us vs : List Int) (w : World) (hs : SI w A n us) (hs' : SI w A' n' vs) (hn : n ≤ 1099511627776) (hn' : n' ≤ 1099511627776) :
    Calls Try.prog 33 #[.slice A n c, .slice A' n' c'] w fun e w' => Fresh w w' e (compPerm us vs) := by
  have hl := hs.1
  have hl' := hs'.1
  have HLs := Lib.hid (And.intro hl hl')
  clear hl hl'
  cases hu : isPermB us with
  | false =>
    have HE := Lib.hid (compPerm_no (us := us) (vs := vs) (.inl hu))
    have HU := Lib.hid hu
    clear hu
    obtain ⟨b, hv⟩ : ∃ b, isPermB vs = b := ⟨_, rfl⟩
    have HV := Lib.hid hv
    clear hv
    go_enter Try.func33, Try.ntmps33
    go_wp2_with fail
    refine (arrayOf_x c HU.out hs hn).mono ?_
    rintro e w1 ⟨l, rfl, -, hb1⟩
    have hbx : Below w.heap.size w (w1.alloc (.cells (arrC l) 66)) := hb1.alloc hb1.size _
    go_wp2_with fail
    generalize w1.alloc (.cells (arrC l) 66) = w2 at *
    refine (arrayOf_x c' HV.out (hs'.below hbx (Nat.le_refl _)) hn').mono ?_
    rintro e w3 ⟨l', rfl, -, hb3⟩
    go_wp2
    go_ret
    rw [HE.out]
    exact Fresh.nil_ret ((hbx.trans (hb3.mono hbx.size)).alloc ((hbx.trans (hb3.mono hbx.size)).size) _)
  | true =>
    have HU := Lib.hid hu
    clear hu
    cases hv : isPermB vs with
    | false =>
      have HE := Lib.hid (compPerm_no (us := us) (vs := vs) (.inr (.inl hv)))
      have HV := Lib.hid hv
      clear hv
      go_enter Try.func33, Try.ntmps33
      go_wp2_with fail
      refine (arrayOf_x c HU.out hs hn).mono ?_
      rintro e w1 ⟨l, rfl, -, hb1⟩
      have hbx : Below w.heap.size w (w1.alloc (.cells (arrC l) 66)) := hb1.alloc hb1.size _
      go_wp2_with fail
      generalize w1.alloc (.cells (arrC l) 66) = w2 at *
      refine (arrayOf_x c' HV.out (hs'.below hbx (Nat.le_refl _)) hn').mono ?_
      rintro e w3 ⟨l', rfl, -, hb3⟩
      go_wp2
      go_ret
      rw [HE.out]
      exact Fresh.nil_ret ((hbx.trans (hb3.mono hbx.size)).alloc ((hbx.trans (hb3.mono hbx.size)).size) _)
    | true =>
      have HV := Lib.hid hv
      clear hv
      by_cases hnn : n = n'
      · subst hnn
        have HE := Lib.hid (compPerm_yes HU.out HV.out (by have := HLs.out; omega))
        go_enter Try.func33, Try.ntmps33
        go_wp2_with fail
        refine (arrayOf_x c HU.out hs hn).mono ?_
        rintro e w1 ⟨l, rfl, hlf, hb1⟩
        have HF := Lib.hid (hlf rfl)
        have hbx : Below w.heap.size w (w1.alloc (.cells (arrC l) 66)) := hb1.alloc hb1.size _
        have hK := Blk.new w1 66 (arrC l)
        clear hlf
        go_wp2_with fail
        obtain ⟨g1, hg1⟩ : ∃ g1, g1 = w1.heap.size := ⟨_, rfl⟩
        rw [← hg1] at hK ⊢
        have hG1 : w.heap.size ≤ g1 := by rw [hg1]; exact hb1.size
        clear hg1
        generalize w1.alloc (.cells (arrC l) 66) = w2 at *
        refine (arrayOf_x c' HV.out (hs'.below hbx (Nat.le_refl _)) hn').mono ?_
        rintro e w3 ⟨l', rfl, hlf', hb3⟩
        have HF' := Lib.hid (hlf' rfl)
        have hK3 := (hK.below hb3 hK.lt).alloc (.cells (arrC l') 66)
        have hK' := Blk.new w3 66 (arrC l')
        have hby : Below w.heap.size w (w3.alloc (.cells (arrC l') 66)) := (hbx.trans (hb3.mono hbx.size)).alloc ((hbx.trans (hb3.mono hbx.size)).size) _
        clear hlf' hK
        go_wp2_with (first | (refine wpList_load_blk rfl 66 (.tmp 5) rfl g1 rfl 66 (arrC l) 7 3 hK3 Try.undArr Try.infoArr ?_) | (refine wpList_load_blk rfl 66 (.tmp 7) rfl w3.heap.size rfl 66 (arrC l') 7 3 hK' Try.undArr Try.infoArr ?_))
        generalize w3.alloc (.cells (arrC l') 66) = w4 at *
        refine (times_any l l' w4 ?_).mono ?_
        · have e := HF'.out
          subst e
          have e1 : n = vs.length := HLs.out.2.symm
          rw [e1]
          exact fun k hk => fillA_range (isPermB_P HV.out) k hk
        · rintro e w5 ⟨rfl, hb5⟩
          have hp := isPermB_P HV.out
          have h7 : n ≤ 7 := by have := hp.2.1; have := HLs.out; omega
          go_wp2_with fail
          refine (list_any (permTimesL l l') n w5 (part7_len _ _ _) h7).mono ?_
          rintro e w6 ⟨A6, n6, c6, rfl, ho6, hb6⟩
          go_wp2
          go_ret
          rw [HE.out]
          have e1 := HF.out
          have e2 := HF'.out
          obtain ⟨e3, e4⟩ := HLs.out
          have e5 := permTimesL_take (isPermB_P HU.out) hp (by omega)
          rw [e1, e2] at ho6
          rw [e3, e4] at e5
          rw [e5] at ho6
          rw [e4]
          exact Fresh.after (hby.trans (hb5.mono hby.size)) ⟨A6, n6, c6, rfl, ho6, hb6⟩
      · have hne' : ¬ (n : Int) = (n' : Int) := by omega
        have HE := Lib.hid (compPerm_no (us := us) (vs := vs) (.inr (.inr (by have := HLs.out; omega))))
        go_enter Try.func33, Try.ntmps33
        go_wp2_with fail
        refine (arrayOf_x c HU.out hs hn).mono ?_
        rintro e w1 ⟨l, rfl, -, hb1⟩
        have hbx : Below w.heap.size w (w1.alloc (.cells (arrC l) 66)) := hb1.alloc hb1.size _
        go_wp2_with fail
        generalize w1.alloc (.cells (arrC l) 66) = w2 at *
        refine (arrayOf_x c' HV.out (hs'.below hbx (Nat.le_refl _)) hn').mono ?_
        rintro e w3 ⟨l', rfl, -, hb3⟩
        go_wp2
        go_ret
        rw [HE.out]
        exact Fresh.nil_ret ((hbx.trans (hb3.mono hbx.size)).alloc ((hbx.trans (hb3.mono hbx.size)).size) _)
end Go.Proofs.Ythmnaakaogpohaa
