/-
  TermEq, for values of type Class instead of terms (made by wip/gen/gen_cls.py). Conditions: lengths below 2^40.
-/
import Derived.Test.YthinbmjcdcmioaaTermEq
import Derived.Test.YthinbmjcdcmioaaSzInt
import Derived.Test.YthinbmjcdcmioaaClsTermHelp
import Derived.RegionTactic
import Derived.BigRegion
namespace Go.Proofs.Ythinbmjcdcmioaa.Cls
open Go.RowKit
section
variable {P : Program} {ops : Array Oper} {C : World → Prop} {Q : Act → Prop} {a : Act} {o : Oper} {rest : List Oper}
end
set_option maxHeartbeats 400000 in
theorem szTerm_anyC (A : Option Addr) (n c : Nat) (x l : Int) (w : World) (hn : n ≤ 9223372036854775807) (h0 : 0 ≤ l) (h1 : l ≤ 1048576) :
    Calls Try.prog 85 #[.agg #[.slice A n c, .int .i64 x], .int .i64 l] w fun e w' => e = .returned (.int .i64 (if l < (n : Int) then -1 else l - n)) ∧ Below w.heap.size w w' := by
  by_cases h : l < (n : Int)
  · rw [if_pos h]
    have hS := fun w => szIntS_any A n c l w hn h0 h1
    rw [if_pos h] at hS
    have HS := Lib.hid hS
    clear hS
    go_enter Try.func85, Try.ntmps85
    go_wp2_with fail
    refine (HS.out _).mono ?_
    rintro e w1 ⟨rfl, rfl⟩
    go_wp2
    go_ret
    exact ⟨rfl, by go_grown⟩
  · rw [if_neg h]
    have hS := fun w => szIntS_any A n c l w hn h0 h1
    rw [if_neg h] at hS
    have HS := Lib.hid hS
    have h2 : ¬ l - (n : Int) < 0 := by omega
    clear hS
    go_enter Try.func85, Try.ntmps85
    go_wp2_with fail
    refine (HS.out _).mono ?_
    rintro e w1 ⟨rfl, rfl⟩
    obtain ⟨m, hm⟩ : ∃ m, m = l - (n : Int) := ⟨_, rfl⟩
    have HM := Lib.hid hm
    rw [← hm] at h2 ⊢
    clear hm
    go_wp2
    go_ret
    exact ⟨ret_int HM.out, by go_grown⟩

set_option maxHeartbeats 400000 in
theorem eqTerm_anyC (A A' : Option Addr) (n c n' c' : Nat) (xs ys : List Int) (x y : Int) (w : World) (hs : SI w A n xs) (hs' : SI w A' n' ys) (hn : n ≤ 1099511627776) (hn' : n' ≤ 1099511627776) :
    Calls Try.prog 93 #[.agg #[.slice A n c, .int .i64 x], .agg #[.slice A' n' c', .int .i64 y]] w fun e w' => e = .returned (.bool (decide ((xs, x) = (ys, y)))) ∧ Below w.heap.size w w' := by
  have hE := eqIntS_any A A' n c n' c' xs ys ((w.alloc (.cells #[.slice A n c, .int .i64 x] 87)).alloc (.cells #[.slice A' n' c', .int .i64 y] 87)) ((hs.alloc _).alloc _) ((hs'.alloc _).alloc _) hn hn'
  have HE := Lib.hid hE
  clear hE hs hs'
  cases hb : eqL xs ys with
  | false =>
    have hne : ¬ xs = ys := by simpa [eqL] using hb
    rw [hb] at HE
    have HN := Lib.hid hne
    clear hne hb
    go_enter Try.func93, Try.ntmps93
    go_wp2_with fail
    refine HE.out.mono ?_
    rintro e w1 ⟨rfl, m, rfl⟩
    go_wp2
    go_ret
    exact ⟨ret_bool (by simp [HN.out]), Below.drawnN (by go_grown) m⟩
  | true =>
    have he : xs = ys := by simpa [eqL] using hb
    rw [hb] at HE
    have HN := Lib.hid he
    clear he hb
    by_cases hxy : x = y
    · subst hxy
      go_enter Try.func93, Try.ntmps93
      go_wp2_with fail
      refine HE.out.mono ?_
      rintro e w1 ⟨rfl, m, rfl⟩
      go_wp2
      go_ret
      exact ⟨ret_bool (by simp [HN.out]), Below.drawnN (by go_grown) m⟩
    · have hb : (x != y) = true := by simpa using hxy
      have HXY := Lib.hid hxy
      clear hxy
      go_enter Try.func93, Try.ntmps93
      go_wp2_with fail
      refine HE.out.mono ?_
      rintro e w1 ⟨rfl, m, rfl⟩
      go_wp2
      go_ret
      exact ⟨ret_bool (by simp [HXY.out]), Below.drawnN (by go_grown) m⟩

set_option maxHeartbeats 800000 in
/-- szTermS: below 0, or everything is small. -/
theorem szTermS_anyC (A : Option Addr) (n c : Nat) (ts : List Tm) (w : World) (hs : TS w A n ts) (hn : n ≤ 9223372036854775807) (hne : ∀ k, k < n → (tm ts k).1.length ≤ 9223372036854775807) :
    Calls Try.prog 50 #[.slice A n c, .int .i64 1048576] w fun e w' => (∃ r : Int, e = .returned (.int .i64 r) ∧ (r < 0 ∨ (0 ≤ r ∧ n ≤ 1048576 ∧ ∀ k, k < n → (tm ts k).1.length ≤ 1048576))) ∧ Below w.heap.size w w' := by
  have HNE := Lib.hid hne
  clear hne
  by_cases hbig : (1048576 : Int) < (n : Int)
  · have h' : (1048576 : Int) - (n : Int) < 0 := by omega
    have hw : IntKind.i64.wrap (1048576 - (n : Int)) = 1048576 - (n : Int) := IntWalk.i64_in _ (by omega)
    go_enter Try.func50, Try.ntmps50
    go_wp2
    go_ret
    exact ⟨⟨_, rfl, .inl (by omega)⟩, Below.refl _ _⟩
  · have h' : ¬ (1048576 : Int) - (n : Int) < 0 := by omega
    have hw : IntKind.i64.wrap (1048576 - (n : Int)) = 1048576 - (n : Int) := IntWalk.i64_in _ (by omega)
    go_enter Try.func50, Try.ntmps50
    go_wp2
    go_loopw [1, 5] (fun v i wr => ∃ (k : Nat) (l : Int), k ≤ n ∧ i = .int .i64 k ∧ v = .int .i64 l ∧ 0 ≤ l ∧ l ≤ 1048576 ∧ (∀ j, j < k → (tm ts j).1.length ≤ 1048576) ∧ Below w.heap.size w wr)
      (fun _ i _ => n - (intOf i).toNat)
    case atStart => exact ⟨0, _, Nat.zero_le _, rfl, rfl, by omega, by omega, fun j hj => absurd hj (by omega), Below.refl _ _⟩
    case round =>
      obtain ⟨k, l, hk, rfl, rfl, hl0, hl1, hall, hbel⟩ := hrel
      have HA := Lib.hid hall
      have HB := Lib.hid hbel
      clear hall
      clear h' hw
      by_cases hlt : k < n
      · obtain ⟨b, o, A', n', c', rfl, hb, hc0, hc1, hsi, hnc, hnil⟩ := (hs.below hbel (by omega)).at_ hlt
        obtain ⟨x, hx⟩ : ∃ x, x = (tm ts k).2 := ⟨_, rfl⟩
        rw [← hx] at hc1
        have hlen := hsi.1
        have hn' : n' ≤ 9223372036854775807 := by have := HNE.out k hlt; omega
        have HLEN := Lib.hid hlen
        clear hx hsi hbel hs hlen hnil
        have hlI : (k : Int) < (n : Int) := by omega
        by_cases hsm : l < (n' : Int)
        · have hS := fun w => szTerm_anyC A' n' c' x l w hn' hl0 hl1
          rw [if_pos hsm] at hS
          have HS := Lib.hid hS
          clear hS
          go_wp2_with fail
          refine (HS.out _).mono ?_
          rintro e w2 ⟨rfl, hb2⟩
          have HB2 := Lib.hid (HB.out.trans (hb2.mono HB.out.size))
          clear hb2
          go_wp2
          go_ret
          exact ⟨⟨_, rfl, .inl (by omega)⟩, HB2.out⟩
        · have hS := fun w => szTerm_anyC A' n' c' x l w hn' hl0 hl1
          rw [if_neg hsm] at hS
          obtain ⟨m, hm⟩ : ∃ m, m = l - (n' : Int) := ⟨_, rfl⟩
          rw [← hm] at hS
          have HS := Lib.hid hS
          have hm0 : 0 ≤ m := by omega
          have hm1 : m ≤ 1048576 := by omega
          have hmn : ¬ m < 0 := by omega
          have hsml : n' ≤ 1048576 := by omega
          clear hS hm
          go_wp2_with fail
          refine (HS.out _).mono ?_
          rintro e w2 ⟨rfl, hb2⟩
          have HB2 := Lib.hid (HB.out.trans (hb2.mono HB.out.size))
          clear hb2
          go_wp2
          go_roundw
          case rel => exact ⟨k + 1, m, by omega, by go_num, rfl, hm0, hm1, fun j hj => by
            rcases Nat.lt_or_ge j k with h | h
            · exact HA.out j h
            · obtain rfl : j = k := by omega
              have := HLEN.out
              omega, HB2.out⟩
          case measure => simp [intOf]; omega
      · have hkn : k = n := by omega
        subst hkn
        go_wp2
        go_ret
        exact ⟨⟨l, rfl, .inr ⟨hl0, by omega, HA.out⟩⟩, HB.out⟩

set_option maxHeartbeats 1600000 in
theorem eqTermS_anyC (A A' : Option Addr) (n c n' c' : Nat) (ts us : List Tm) (w : World) (hs : TS w A n ts) (hs' : TS w A' n' us) (hn : n ≤ 1099511627776) (hn' : n' ≤ 1099511627776)
    (hne : ∀ k, k < n → (tm ts k).1.length ≤ 1099511627776) (hne' : ∀ k, k < n' → (tm us k).1.length ≤ 1099511627776) :
    Calls Try.prog 54 #[.slice A n c, .slice A' n' c'] w fun e w' => e = .returned (.bool (eqTs ts us)) ∧ Below w.heap.size w w' := by
  have HNE := Lib.hid (And.intro hne hne')
  have HL := Lib.hid (And.intro hs.1 hs'.1)
  clear hne hne'
  by_cases hnn : n = n'
  · subst hnn
    go_enter Try.func54, Try.ntmps54
    go_wp2
    go_loopw [5] (fun i wr => ∃ k : Nat, k ≤ n ∧ i = .int .i64 k ∧ (∀ j, j < k → tm ts j = tm us j) ∧ Below w.heap.size w wr)
      (fun i _ => n - (intOf i).toNat)
    case atStart => exact ⟨0, Nat.zero_le _, rfl, fun j hj => absurd hj (by omega), Below.refl _ _⟩
    case round =>
      obtain ⟨k, hk, rfl, hall, hbel⟩ := hrel
      have HA := Lib.hid hall
      have HB := Lib.hid hbel
      clear hall
      by_cases hlt : k < n
      · obtain ⟨b, o, A1, n1, c1, rfl, hb, hc0, hc1, hsi, hnc, hnil⟩ := (hs.below hbel (by omega)).at_ hlt
        obtain ⟨b', o', A2, n2, c2, rfl, hb', hc0', hc1', hsi', hnc', hnil'⟩ := (hs'.below hbel (by omega)).at_ hlt
        have hl1 : n1 ≤ 1099511627776 := by have := HNE.out.1 k hlt; have := hsi.1; omega
        have hl2 : n2 ≤ 1099511627776 := by have := HNE.out.2 k hlt; have := hsi'.1; omega
        have hlI : (k : Int) < (n : Int) := by omega
        have R1 := TS.range hc0 hc1
        have R2 := TS.range hc0' hc1'
        have call : ∀ w', AfterT wr w' → Calls Try.prog 93 #[.agg #[.slice A1 n1 c1, .int .i64 (tm ts k).2], .agg #[.slice A2 n2 c2, .int .i64 (tm us k).2]] w' (fun e w'' => e = .returned (.bool (decide (tm ts k = tm us k))) ∧ AfterT wr w'') := fun w' hw' =>
          (eqTerm_anyC A1 A2 n1 c1 n2 c2 _ _ _ _ w' (hsi.below hw' (Nat.le_refl _)) (hsi'.below hw' (Nat.le_refl _)) hl1 hl2).mono fun e w'' ⟨he, hb⟩ => ⟨he, Below.trans hw' (hb.mono hw'.size)⟩
        have LD1 : ∀ w', AfterT wr w' → w'.rangeAt b (o + k * 2) [.slice A1 n1 c1, .int .i64 (tm ts k).2] := fun w' hw' j v hj => by
          rw [Below.cell hw' (p := ⟨b, o + k * 2 + j, none⟩) hb]; exact R1 j v hj
        have LD2 : ∀ w', AfterT wr w' → w'.rangeAt b' (o' + k * 2) [.slice A2 n2 c2, .int .i64 (tm us k).2] := fun w' hw' j v hj => by
          rw [Below.cell hw' (p := ⟨b', o' + k * 2 + j, none⟩) hb']; exact R2 j v hj
        obtain ⟨x, hx⟩ : ∃ x, x = (tm ts k).2 := ⟨_, rfl⟩
        obtain ⟨y, hy⟩ : ∃ y, y = (tm us k).2 := ⟨_, rfl⟩
        obtain ⟨q, hq⟩ : ∃ q, q = decide (tm ts k = tm us k) := ⟨_, rfl⟩
        rw [← hx] at LD1 call
        rw [← hy] at LD2 call
        rw [← hq] at call
        have HQ := Lib.hid hq
        have CA := Lib.hid call
        have L1 := Lib.hid LD1
        have L2 := Lib.hid LD2
        clear hc0 hc1 hc0' hc1' hsi hsi' hs hs' hbel R1 R2 call LD1 LD2 hx hy hq hnil hnil'
        go_wp2_with fail
        refine tq_class (AfterT wr) (by kernel_rfl) (by kernel_rfl) (Below.refl _ _).drew ?_
        refine tq_move rfl _ rfl ?_
        refine tq_move rfl _ rfl ?_
        refine wpQuiet_step (fun K hK => ?_)
        go_simp
        refine ⟨.pointer (some ⟨b, o + k * 2, none⟩), fun w' _ => rfl, hK _ ?_⟩
        clear hK K
        refine tq_load rfl 87 (.tmp 19) rfl b (o + k * 2) rfl [.slice A1 n1 c1, .int .i64 x] _ L1.out Try.underlying87 rfl Try.infoTermC ?_
        refine tq_move rfl _ rfl ?_
        refine tq_move rfl _ rfl ?_
        refine wpQuiet_step (fun K hK => ?_)
        go_simp
        refine ⟨.pointer (some ⟨b', o' + k * 2, none⟩), fun w' _ => rfl, hK _ ?_⟩
        clear hK K
        refine tq_load rfl 87 (.tmp 23) rfl b' (o' + k * 2) rfl [.slice A2 n2 c2, .int .i64 y] _ L2.out Try.underlying87 rfl Try.infoTermC ?_
        refine wpQuiet_step (fun K hK => ?_)
        go_simp
        refine ⟨.bool q, fun w' hw' => CA.out w' hw', hK _ ?_⟩
        clear hK K
        refine wpQuiet_step (fun K hK => ?_)
        go_simp
        refine ⟨.bool (!q), fun w' _ => rfl, hK _ ?_⟩
        clear hK K
        refine wpQuiet_nil ?_
        intro w5 hw5
        have HB5 := Lib.hid (HB.out.trans (Below.mono hw5 HB.out.size))
        clear hw5 L1 L2 CA
        cases q with
        | true =>
          go_wp2
          go_roundw
          case rel => exact ⟨k + 1, by omega, by go_num, fun j hj => by
            rcases Nat.lt_or_ge j k with h | h
            · exact HA.out j h
            · obtain rfl : j = k := by omega
              exact of_decide_eq_true HQ.out.symm, HB5.out⟩
          case measure => simp [intOf]; omega
        | false =>
          go_wp2
          go_ret
          exact ⟨ret_bool (eqTs_ne (k := k) (of_decide_eq_false HQ.out.symm)).symm, HB5.out⟩
      · have hkn : k = n := by omega
        subst hkn
        go_wp2
        go_ret
        exact ⟨ret_bool (eqTs_all (by have := HL.out; omega) (by rw [HL.out.1]; exact HA.out)).symm, HB.out⟩
  · have hne' : ¬ (n : Int) = (n' : Int) := by omega
    go_enter Try.func54, Try.ntmps54
    go_wp2
    go_ret
    exact ⟨ret_bool (eqTs_len (by have := HL.out; omega)).symm, Below.refl _ _⟩
end Go.Proofs.Ythinbmjcdcmioaa.Cls
