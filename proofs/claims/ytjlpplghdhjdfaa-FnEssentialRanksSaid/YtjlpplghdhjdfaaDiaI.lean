/-
  Diagrams: the program's side. Conditions: lengths below 2^40.
-/
import Derived.Test.YtjlpplghdhjdfaaDiaS
import Derived.Test.YtjlpplghdhjdfaaImplC
namespace Go.Proofs.Ytjlpplghdhjdfaa
open Go.RowKit

set_option maxRecDepth 100000 in
set_option maxHeartbeats 1600000 in
theorem implDiagram_any (A : Option Addr) (n c : Nat) (xs : List Int) (w : World) (hs : SI w A n xs) (hn : n ≤ 1099511627776) :
    Calls Try.prog 63 #[.slice A n c] w fun e w' => FreshC w w' e (diaPerm xs) := by
  have hl := hs.1
  cases hu : isPermB xs with
  | false =>
    have HE := Lib.hid (diaPerm_no hu)
    have HU := Lib.hid hu
    clear hu
    go_enter Try.func63, Try.ntmps63
    go_wp2_with fail
    refine (arrayOf_x c HU.out hs hn).mono ?_
    rintro e w1 ⟨l, rfl, -, hb1⟩
    go_wp2
    go_ret
    rw [HE.out]
    exact FreshC.nil_ret (hb1.alloc hb1.size _)
  | true =>
    have hp := isPermB_P hu
    have HP := Lib.hid hp
    have HE := Lib.hid (diaPerm_yes hu)
    have HU := Lib.hid hu
    have HL := Lib.hid hl
    have h7 : n ≤ 7 := by have := hp.2.1; omega
    have hrng : ∀ k, k < n → 0 ≤ nth xs k ∧ nth xs k < (n : Int) := fun k hk => by have := hp.range k (by rw [hl]; exact hk); rw [hl] at this; exact this
    have HR := Lib.hid hrng
    clear hu hp hrng
    go_enter Try.func63, Try.ntmps63
    go_wp2_with fail
    refine (arrayOf_x c HU.out hs hn).mono ?_
    rintro e w1 ⟨l, rfl, hlf, hb1⟩
    have HF := Lib.hid (hlf rfl)
    clear hlf hl hs
    have hK := Blk.new w1 53 (arrC l)
    go_wp2_with (refine wpList_load_blk rfl 53 (.tmp 3) rfl w1.heap.size rfl 53 (arrC l) 7 3 hK Try.undArr Try.infoArr ?_)
    have hb2 : Below w.heap.size w (w1.alloc (.cells (arrC l) 53)) := hb1.alloc hb1.size _
    obtain ⟨g1, hg1⟩ : ∃ g1, g1 = w1.heap.size := ⟨_, rfl⟩
    rw [← hg1] at hK ⊢
    have hg1w : w.heap.size ≤ g1 := by rw [hg1]; exact hb1.size
    clear hg1
    generalize w1.alloc (.cells (arrC l) 53) = w2 at *
    refine (inverse_any l w2 ?_).mono ?_
    · have e := HF.out
      subst e
      rw [← HL.out]
      exact fun k hk => fillA_range HP.out k hk
    · rintro e w3 ⟨rfl, hb3⟩
      have hK3 := (hK.below hb3 hK.lt).alloc (.cells (arrC (invM l 7 7)) 53)
      have hK3' := Blk.new w3 53 (arrC (invM l 7 7))
      have hb4 : Below w.heap.size w (w3.alloc (.cells (arrC (invM l 7 7)) 53)) := (hb2.trans (hb3.mono hb2.size)).alloc ((hb2.trans (hb3.mono hb2.size)).size) _
      have e1 : ∀ j, j < n → nth l j = nth xs j := fun j hj => by rw [HF.out]; exact fillA_lt (by omega) (by omega)
      have e2 : ∀ j, j < n → nth (invM l 7 7) j = nth (invM xs n n) j := fun j hj => by
        have := invM_take HP.out
        rw [HL.out] at this
        rw [HF.out, ← nth_take (k := n) hj, this]
      have E1 := Lib.hid e1
      have E2 := Lib.hid e2
      have hl7 : l.length = 7 := by rw [HF.out, fillA_len]
      have HL7 := Lib.hid hl7
      clear e1 e2 hl7 hK hb3 hb2 hb1
      go_wp2
      obtain ⟨g2, hg2⟩ : ∃ g2, g2 = w3.heap.size := ⟨_, rfl⟩
      rw [← hg2] at hK3' ⊢
      clear hg2
      generalize w3.alloc (.cells (arrC (invM l 7 7)) 53) = w4 at *
      have HB4 := Lib.hid hb4
      have HK1 := Lib.hid hK3
      have HK2 := Lib.hid hK3'
      obtain ⟨bk, hbk⟩ : ∃ bk, bk = invM xs n n := ⟨_, rfl⟩
      rw [← hbk] at E2
      have HBK := Lib.hid hbk
      clear hb4 hK3 hK3' hbk
      go_loopw [6, 20] (fun v i wr => ∃ (k m : Nat) (A' : Option Addr) (c' : Nat), k ≤ n ∧ i = .int .i64 k ∧ v = .slice A' m c' ∧ OwnC wr w4.heap.size wr.heap.size A' m c' (dAll xs bk k) ∧ Below w4.heap.size w4 wr)
        (fun _ i _ => n - (intOf i).toNat)
      case atStart => exact ⟨0, 0, _, _, Nat.zero_le _, rfl, rfl, OwnC.nil _ _ _, Below.refl _ _⟩
      case round =>
        obtain ⟨k, m, A', c', hk, rfl, rfl, hoc, hbel⟩ := hrel
        have HOC := Lib.hid hoc
        have HB := Lib.hid hbel
        have K1 := HK1.out.below hbel HK1.out.lt
        clear hoc hbel
        by_cases hlt : k < n
        · have hlI : (k : Int) < (n : Int) := by omega
          obtain ⟨hx0, hx1⟩ := HR.out k hlt
          obtain ⟨q, hq⟩ : ∃ q : Nat, nth xs k = (q : Int) := ⟨(nth xs k).toNat, by omega⟩
          have hqn : q < n := by omega
          have HQ := Lib.hid hq
          have hda : dAll xs bk (k + 1) = dAll xs bk k ++ dRow bk k q := by show _ ++ dRow bk k (nth xs k).toNat = _; rw [hq, Int.toNat_natCast]
          have HDA := Lib.hid hda
          have hck : wr.cell? ⟨g1, k, none⟩ = some (.int .i64 (q : Int)) := by rw [K1.cell, arrC_get l k (by omega), E1.out k hlt, hq]
          clear hq hda hx0 hx1 K1
          go_wp2
          go_loopw [6, 26] (fun v i w5 => ∃ (j m : Nat) (A' : Option Addr) (c' : Nat), j ≤ q ∧ i = .int .i64 j ∧ v = .slice A' m c' ∧ OwnC w5 w4.heap.size w5.heap.size A' m c' (dAll xs bk k ++ dRow bk k j) ∧ Below w4.heap.size w4 w5)
            (fun _ i _ => q - (intOf i).toNat)
          case atStart => exact ⟨0, m, A', c', Nat.zero_le _, rfl, rfl, by simpa [dRow] using HOC.out, HB.out⟩
          case round =>
            clear HOC HB
            obtain ⟨j, m, A', c', hj, rfl, rfl, hoc, hbel⟩ := hrel
            have HOC := Lib.hid hoc
            have HB := Lib.hid hbel
            by_cases hjq : j < q
            · have hjI : (j : Int) < (q : Int) := by omega
              have K2 := HK2.out.below hbel HK2.out.lt
              have hcb : wr.cell? ⟨g2, j, none⟩ = some (.int .i64 (nth bk j)) := by rw [K2.cell, arrC_get (invM l 7 7) j (by omega), E2.out j (by omega)]
              obtain ⟨y, hy⟩ : ∃ y, y = nth bk j := ⟨_, rfl⟩
              rw [← hy] at hcb
              have HY := Lib.hid hy
              have hml : m ≤ 1099511627776 := by
                have h1 := hoc.len
                have h2 := dAll_len (xs := xs) (bk := bk) (fun i hi => by have := (HP.out.range i hi).2; rw [HL.out] at this; omega) k (by rw [HL.out]; omega)
                have h3 := dRow_len bk k j
                rw [List.length_append] at h1
                omega
              clear hoc hbel K2 hy
              by_cases hky : (k : Int) < y
              · have hrh := dRow_hit (bk := bk) (i := k) (m := j) (by rw [← HY.out]; exact hky)
                have HRH := Lib.hid hrh
                clear hrh
                go_wp2_with (at_builtin; refine wpList_appendC rfl (.tmp 34) (.tmp 38) rfl w4.heap.size A' m c' (dAll xs bk k ++ dRow bk k j) k j rfl rfl HOC.out HB.out.size hml ?_; intro A2 c2 w6 ho6 hb6 hg6 hn6)
                go_roundw
                case rel => exact ⟨j + 1, m + 1, A2, c2, by omega, by go_num, rfl, by rw [HRH.out, ← List.append_assoc]; exact ho6, HB.out.trans (hb6.mono (Nat.le_refl _))⟩
                case measure => simp [intOf]; omega
              · have hrh := dRow_miss (bk := bk) (i := k) (m := j) (by rw [← HY.out]; exact hky)
                have HRH := Lib.hid hrh
                clear hrh
                go_wp2
                go_roundw
                case rel => exact ⟨j + 1, m, A', c', by omega, by go_num, rfl, by rw [HRH.out]; exact HOC.out, HB.out⟩
                case measure => simp [intOf]; omega
            · have hjn : j = q := by omega
              subst hjn
              clear hoc hbel
              go_wp2
              go_roundw
              case rel => exact ⟨k + 1, m, A', c', by omega, by go_num, rfl, by rw [HDA.out]; exact HOC.out, HB.out⟩
              case measure => simp [intOf]; omega
        · have hkn : k = n := by omega
          subst hkn
          go_wp2
          go_ret
          refine ⟨A', m, c', rfl, ?_, HB4.out.trans (HB.out.mono HB4.out.size)⟩
          rw [HE.out, HL.out, ← HBK.out]
          exact HOC.out.wide HB4.out.size (Nat.le_refl _)
end Go.Proofs.Ytjlpplghdhjdfaa
