/-
  Texts PolyOk to CopyA, merged. Conditions: as each says.
-/
import Derived.Laws.CopyOwn
import Derived.Deep.AppendLies
import Derived.Maps.RangeWalk
import Derived.DeepKeys4
import Derived.Deep.RegionHeld3
import Derived.Deep.Cut
import Derived.Deep.CutRange
import Derived.Test.YtmndchhbafkbeaaPkA1
/-
  Is a list of terms a polynomial: both sides answer polyB. Conditions: lengths below 2^40.
-/

namespace Go.Proofs.Ytmndchhbafkbeaa
open Go.RowKit

theorem isCoef_yes {x : Int} (h : x ≠ 0 ∧ -1000000 ≤ x ∧ x ≤ 1000000) (w : World) : Calls Try.prog 133 #[.int .i64 x] w fun r w' => r = .returned (.bool true) ∧ w' = w := by
  obtain ⟨h0, h1, h2⟩ := h
  have hb : (x != 0) = true := by simpa using h0
  go_enter Try.func133, Try.ntmps133
  go_wp2
  go_ret
  exact ⟨rfl, rfl⟩
theorem isCoef_no {x : Int} (h : ¬ (x ≠ 0 ∧ -1000000 ≤ x ∧ x ≤ 1000000)) (w : World) : Calls Try.prog 133 #[.int .i64 x] w fun r w' => r = .returned (.bool false) ∧ w' = w := by
  by_cases h0 : x = 0
  · subst h0
    clear h
    go_enter Try.func133, Try.ntmps133
    go_wp2
    go_ret
    exact ⟨rfl, rfl⟩
  · have hb : (x != 0) = true := by simpa using h0
    by_cases h1 : -1000000 ≤ x
    · have h2 : ¬ x ≤ 1000000 := fun h2 => h ⟨h0, h1, h2⟩
      clear h h0
      go_enter Try.func133, Try.ntmps133
      go_wp2
      go_ret
      exact ⟨rfl, rfl⟩
    · clear h h0
      go_enter Try.func133, Try.ntmps133
      go_wp2
      go_ret
      exact ⟨rfl, rfl⟩
set_option maxHeartbeats 1600000 in
theorem isValid_any (A : Option Addr) (n c : Nat) (xs : List Int) (x : Int) (w : World) (hs : SI w A n xs) (hn : n ≤ 1099511627776) :
    Calls Try.prog 113 #[.agg #[.slice A n c, .int .i64 x]] w fun r w' => r = .returned (.bool (goodT (xs, x))) ∧ Below w.heap.size w w' := by
  have hl := hs.1
  have no : ∀ (h : ¬ (xs.length = 7 ∧ smallE xs = true ∧ x ≠ 0 ∧ -1000000 ≤ x ∧ x ≤ 1000000)), goodT (xs, x) = false := fun h => goodT_no h
  have NO := Lib.hid no
  have HL := Lib.hid hl
  clear no hl
  by_cases h7 : n = 7
  · subst h7
    by_cases hc3 : x ≠ 0 ∧ -1000000 ≤ x ∧ x ≤ 1000000
    · go_enter Try.func113, Try.ntmps113
      go_wp2_with (go_at_call 133; refine (isCoef_yes hc3 _).mono ?_; rintro e w1 ⟨rfl, rfl⟩)
      have hb0 : Below w.heap.size w (w.alloc (.cells #[.slice A 7 c, .int .i64 x] 60)) := by go_grown
      have hs0 := hs.below hb0 (Nat.le_refl _)
      generalize (w.alloc (.cells #[.slice A 7 c, .int .i64 x] 60)) = w0 at *
      have HB := Lib.hid hb0
      clear hb0 hs
      go_loopw [18] (fun i wr => ∃ k : Nat, k ≤ 7 ∧ i = .int .i64 k ∧ (∀ j, j < k → 0 ≤ nth xs j ∧ nth xs j ≤ 24) ∧ Drawn w0 wr)
        (fun i _ => 7 - (intOf i).toNat)
      case atStart => exact ⟨0, Nat.zero_le _, rfl, fun j hj => absurd hj (by omega), Drawn.refl _⟩
      case round =>
        obtain ⟨k, hk, rfl, hall, hD⟩ := hrel
        have HA := Lib.hid hall
        have hs := hD.si hs0
        have HD := Lib.hid hD
        clear hall hD
        by_cases hlt : k < 7
        · obtain ⟨b, o, rfl, hb, hc⟩ := hs.at_ (by omega)
          have hc1 := hc k hlt
          obtain ⟨p, hp⟩ : ∃ p, p = nth xs k := ⟨_, rfl⟩
          rw [← hp] at hc1
          have HP := Lib.hid hp
          have hkI : (k : Int) < 7 := by omega
          clear hc hs hs0 hp
          by_cases hp0 : p < 0
          · go_wp2
            go_ret
            exact ⟨ret_bool (NO.out (fun h => by have := smallE_nth h.2.1 (k := k) (by rw [HL.out]; exact hlt); rw [← HP.out] at this; omega)).symm, HB.out.trans (HD.out.below _)⟩
          · by_cases hp1 : 24 < p
            · go_wp2
              go_ret
              exact ⟨ret_bool (NO.out (fun h => by have := smallE_nth h.2.1 (k := k) (by rw [HL.out]; exact hlt); rw [← HP.out] at this; omega)).symm, HB.out.trans (HD.out.below _)⟩
            · go_wp2
              go_roundw
              case rel => exact ⟨k + 1, by omega, by go_num, fun j hj => by
                rcases Nat.lt_or_ge j k with h | h
                · exact HA.out j h
                · obtain rfl : j = k := by omega
                  rw [← HP.out]; omega, HD.out⟩
              case measure => simp [intOf]; omega
        · have hk7 : k = 7 := by omega
          subst hk7
          go_wp2
          go_ret
          refine ⟨ret_bool ((goodT_iff _).2 ⟨HL.out, smallE_all (by show ∀ k, k < xs.length → _; rw [HL.out]; exact HA.out), hc3.1, hc3.2.1, hc3.2.2⟩).symm, HB.out.trans (HD.out.below _)⟩
    · go_enter Try.func113, Try.ntmps113
      go_wp2_with (go_at_call 133; refine (isCoef_no hc3 _).mono ?_; rintro e w1 ⟨rfl, rfl⟩)
      go_ret
      exact ⟨ret_bool (NO.out (fun h => hc3 h.2.2)).symm, by go_grown⟩
  · have h7' : ¬ (n : Int) = 7 := by omega
    go_enter Try.func113, Try.ntmps113
    go_wp2
    go_ret
    exact ⟨ret_bool (NO.out (fun h => by have := HL.out; omega)).symm, by go_grown⟩

set_option maxRecDepth 100000 in
set_option maxHeartbeats 1200000 in
theorem specPolyOk_any (A : Option Addr) (n c : Nat) (ts : List Tm) (w : World) (hs : TS w A n ts) (hn : n ≤ 1099511627776) (hne : ∀ k, k < n → (tm ts k).1.length ≤ 1099511627776) :
    Calls Try.prog 52 #[.slice A n c] w fun r w' => r = .returned (.bool (polyB ts)) ∧ Drawn w w' := by
  have HL := Lib.hid hs.1
  have HNE := Lib.hid hne
  clear hne
  by_cases hbig : 600 < n
  · go_enter Try.func52, Try.ntmps52
    go_wp2
    go_ret
    exact ⟨ret_bool (polyB_big (by rw [HL.out]; exact hbig)).symm, Drawn.refl _⟩
  go_enter Try.func52, Try.ntmps52
  go_wp2
  go_loopw [3] (fun i wr => ∃ k : Nat, k ≤ n ∧ i = .int .i64 k ∧ (∀ j, j < k → okAt ts j = true) ∧ Drawn w wr)
    (fun i _ => n - (intOf i).toNat)
  case atStart => exact ⟨0, Nat.zero_le _, rfl, fun j hj => absurd hj (by omega), Drawn.refl _⟩
  case round =>
    obtain ⟨k, hk, rfl, hall, hD⟩ := hrel
    have HA := Lib.hid hall
    have HD := Lib.hid hD
    have hts := hs.drawn hD
    clear hall hD hs
    by_cases hlt : k < n
    · have hlI : (k : Int) < (n : Int) := by omega
      obtain ⟨b, o, A', n', c', rfl, hb, hc0, hc1, hsi, hnc, hnil⟩ := hts.at_ hlt
      have no : goodT (tm ts k) = false → polyB ts = false := fun h => polyB_no (by rw [HL.out]; exact hlt) (okAt_bad h)
      have NO := Lib.hid no
      have HT := Lib.hid hts
      have HSI := Lib.hid hsi
      obtain ⟨x, hx⟩ : ∃ x, x = (tm ts k).2 := ⟨_, rfl⟩
      rw [← hx] at hc1
      have HX := Lib.hid hx
      have hlx : n' = (tm ts k).1.length := hsi.1.symm
      have HLX := Lib.hid hlx
      clear hts hsi hx no hnil hlx
      by_cases h7 : n' = 7
      · subst h7
        by_cases h0 : x = 0
        · subst h0
          go_wp2
          go_ret
          exact ⟨ret_bool (NO.out (goodT_no (fun h => h.2.2.1 HX.out.symm))).symm, HD.out⟩
        · have hx0 : (x == 0) = false := by simpa using h0
          by_cases hr : -1000000 ≤ x ∧ x ≤ 1000000
          · obtain ⟨hr0, hr1⟩ := hr
            go_wp2_with (go_at_call 68; refine (l1In_yes' hr0 hr1 _).mono ?_; rintro e w1 ⟨rfl, rfl⟩)
            go_loopw [4] (fun i w2 => ∃ j : Nat, j ≤ 7 ∧ i = .int .i64 j ∧ (∀ t, t < j → 0 ≤ nth (tm ts k).1 t ∧ nth (tm ts k).1 t ≤ 24) ∧ Drawn wr w2)
              (fun i _ => 7 - (intOf i).toNat)
            case atStart => exact ⟨0, Nat.zero_le _, rfl, fun j hj => absurd hj (by omega), Drawn.refl _⟩
            case round =>
              obtain ⟨j, hj, rfl, hall2, hD2⟩ := hrel
              have HA2 := Lib.hid hall2
              have hsi := hD2.si HSI.out
              have hts := HT.out.drawn hD2
              have HD2 := Lib.hid (HD.out.trans hD2)
              have HDw := Lib.hid hD2
              have hcx : wr.cell? ⟨b, o + k * 2, none⟩ = some (.slice A' 7 c') := by obtain ⟨m, rfl⟩ := hD2; exact hc0
              clear hall2 hD2 hc0 hc1
              by_cases hj7 : j < 7
              · have hjI : (j : Int) < 7 := by omega
                obtain ⟨b2, o2, rfl, hb2, hc2⟩ := hsi.at_ (by omega)
                have hcj := hc2 j hj7
                obtain ⟨p, hp⟩ : ∃ p, p = nth (tm ts k).1 j := ⟨_, rfl⟩
                rw [← hp] at hcj
                have HP := Lib.hid hp
                clear hc2 hsi hts hp
                by_cases hpr : 0 ≤ p ∧ p ≤ 24
                · obtain ⟨hp0, hp1⟩ := hpr
                  go_wp2_with (go_at_call 68; refine (l1In_yes' hp0 hp1 _).mono ?_; rintro e w1 ⟨rfl, rfl⟩)
                  go_roundw
                  case rel => exact ⟨j + 1, by omega, by go_num, fun t ht => by
                    rcases Nat.lt_or_ge t j with h | h
                    · exact HA2.out t h
                    · obtain rfl : t = j := by omega
                      rw [← HP.out]; omega, HDw.out⟩
                  case measure => simp [intOf]; omega
                · go_wp2_with (go_at_call 68; refine (l1In_no' (by omega) _).mono ?_; rintro e w1 ⟨rfl, rfl⟩)
                  go_ret
                  exact ⟨ret_bool (NO.out (goodT_no (fun h => hpr (by rw [HP.out]; exact smallE_nth h.2.1 (by rw [← HLX.out]; exact hj7))))).symm, HD2.out⟩
              · have hj7 : j = 7 := by omega
                subst hj7
                have hgood : goodT (tm ts k) = true := (goodT_iff _).2 ⟨HLX.out.symm, smallE_all (by rw [← HLX.out]; exact HA2.out), by rw [← HX.out]; exact h0, by rw [← HX.out]; exact hr0, by rw [← HX.out]; exact hr1⟩
                have HG := Lib.hid hgood
                have HSI2 := Lib.hid hsi
                clear hgood hsi
                by_cases hk0 : k = 0
                · subst hk0
                  clear hts
                  go_wp2_with fail
                  go_quiet (fail)
                  go_wp2
                  go_roundw
                  case rel => exact ⟨1, by omega, by go_num, fun j hj => by
                    obtain rfl : j = 0 := by omega
                    exact okAt_zero HG.out, HD2.out.drewN _⟩
                  case measure => simp [intOf]; omega
                · obtain ⟨m, rfl⟩ : ∃ m, k = m + 1 := ⟨k - 1, by omega⟩
                  obtain ⟨b3, o3, A3, n3, c3, e3, hb3, hd0, hd1, hsi3, hnc3, hnil3⟩ := hts.at_ (k := m) (by omega)
                  injection e3 with e3
                  injection e3 with e31 e32 e33
                  subst e31; subst e32
                  have hg3 := (goodT_iff _).1 (okAt_good (HA.out m (by omega)))
                  have e7 : n3 = 7 := by rw [← hsi3.1]; exact hg3.1
                  subst e7
                  have HSI3 := Lib.hid hsi3
                  have HG3 := Lib.hid hg3.2.1
                  have HG2 := Lib.hid ((goodT_iff _).1 HG.out).2.1
                  have hmw : IntKind.i64.wrap (((m + 1 : Nat) : Int) - 1) = (m : Int) := by rw [IntWalk.i64_in _ (by omega)]; omega
                  have hm0 : (0 : Int) < ((m + 1 : Nat) : Int) := by omega
                  have hmI : (m : Int) < (n : Int) := by omega
                  obtain ⟨p, hp⟩ : ∃ p, p = key7 (tm ts m).1 := ⟨_, rfl⟩
                  obtain ⟨q, hq⟩ : ∃ q, q = key7 (tm ts (m + 1)).1 := ⟨_, rfl⟩
                  have HPQ := Lib.hid (And.intro hp hq)
                  have K1 := fun nd => Calls.quiet_of (l2Key_any A3 c3 (tm ts m).1 (wr.drewN nd) (HSI3.out.drewN nd) HG3.out)
                  have K2 := fun nd => Calls.quiet_of (l2Key_any A' c' (tm ts (m + 1)).1 (wr.drewN nd) (HSI2.out.drewN nd) HG2.out)
                  rw [← hp] at K1
                  rw [← hq] at K2
                  have HK1 := Lib.hid K1
                  have HK2 := Lib.hid K2
                  clear hts hsi3 hg3 hd1 hp hq K1 K2 hnil3
                  by_cases hpq : p ≤ q
                  · go_wp2_with fail
                    go_quiet ((go_at_call 86; first | with_reducible exact HK1.out _ | with_reducible exact HK2.out _))
                    go_wp2
                    go_ret
                    exact ⟨ret_bool (polyB_no (k := m + 1) (by rw [HL.out]; exact hlt) (okAt_wrong (by omega) (by show ¬ key7 (tm ts (m + 1)).1 < key7 (tm ts m).1; rw [← HPQ.out.1, ← HPQ.out.2]; omega))).symm, HD2.out.drewN _⟩
                  · go_wp2_with fail
                    go_quiet ((go_at_call 86; first | with_reducible exact HK1.out _ | with_reducible exact HK2.out _))
                    go_wp2
                    go_roundw
                    case rel => exact ⟨m + 1 + 1, by omega, by go_num, fun j hj => by
                      rcases Nat.lt_or_ge j (m + 1) with h | h
                      · exact HA.out j h
                      · obtain rfl : j = m + 1 := by omega
                        exact okAt_step HG.out (by show key7 (tm ts (m + 1)).1 < key7 (tm ts m).1; rw [← HPQ.out.1, ← HPQ.out.2]; omega), HD2.out.drewN _⟩
                    case measure => simp [intOf]; omega
          · go_wp2_with (go_at_call 68; refine (l1In_no' (by omega) _).mono ?_; rintro e w1 ⟨rfl, rfl⟩)
            go_ret
            exact ⟨ret_bool (NO.out (goodT_no (fun h => hr (by rw [HX.out]; exact h.2.2.2)))).symm, HD.out⟩
      · have h7' : ¬ (n' : Int) = 7 := by omega
        go_wp2
        go_ret
        exact ⟨ret_bool (NO.out (goodT_no (fun h => h7 (by rw [HLX.out]; exact h.1)))).symm, HD.out⟩
    · have hkn : k = n := by omega
      subst hkn
      go_wp2
      go_ret
      exact ⟨ret_bool (polyB_all (by rw [HL.out]; omega) (by rw [HL.out]; exact HA.out)).symm, HD.out⟩
end Go.Proofs.Ytmndchhbafkbeaa

/-
  Is a list of terms a polynomial: the program's side answers polyB. Conditions: lengths below 2^40.
-/

namespace Go.Proofs.Ytmndchhbafkbeaa
open Go.RowKit

theorem quiet_loadmid {P : Program} {C : World → Prop} {a : Act} {o : Oper} {K : Act → Prop} (ty : TypeId) (x : Operand) (ho : o.op = .load ty x) (b off : Nat) (hx : a.eval x = .pointer (some ⟨b, off, none⟩)) (cs : List Value) (d : TypeDesc)
    (hb : ∀ w, C w → w.rangeAt b off cs) (hu : P.underlying ty = some d) (hd : d.isRow = true) (hi : (P.info? ty).map (·.size) = some cs.length) (hk : K (a.put o.dst (.agg cs.toArray))) : o.quiet P a C K :=
  ⟨_, fun w hw => by
    unfold Oper.quietAt execOp
    simp only [ho, hx, Instr.loadAt, Instr.sureAddr, Sem.run_bind, Sem.run_pure, Result.andThen_ok, run_loadVar_mid w b off ty cs d (hb w hw) hu hd hi]
    exact ⟨rfl, rfl⟩, hk⟩

set_option maxRecDepth 100000 in
set_option maxHeartbeats 400000 in
theorem implPolyOk_any (A : Option Addr) (n c : Nat) (ts : List Tm) (w : World) (hs : TS w A n ts) (hn : n ≤ 1099511627776) (hne : ∀ k, k < n → (tm ts k).1.length ≤ 1099511627776) :
    Calls Try.prog 69 #[.slice A n c] w fun r w' => r = .returned (.bool (polyB ts)) ∧ Below w.heap.size w w' := by
  have HL := Lib.hid hs.1
  have HNE := Lib.hid hne
  clear hne
  by_cases hbig : 600 < n
  · go_enter Try.func69, Try.ntmps69
    go_wp2
    go_ret
    exact ⟨ret_bool (polyB_big (by rw [HL.out]; exact hbig)).symm, Below.refl _ _⟩
  go_enter Try.func69, Try.ntmps69
  go_wp2
  go_loopw [10] (fun i wr => ∃ k : Nat, k ≤ n ∧ i = .int .i64 k ∧ (∀ j, j < k → okAt ts j = true) ∧ Below w.heap.size w wr)
    (fun i _ => n - (intOf i).toNat)
  case atStart => exact ⟨0, Nat.zero_le _, rfl, fun j hj => absurd hj (by omega), Below.refl _ _⟩
  case round =>
    obtain ⟨k, hk, rfl, hall, hbel⟩ := hrel
    have HA := Lib.hid hall
    have HB := Lib.hid hbel
    have hts := hs.below hbel (Nat.le_refl _)
    clear hall hbel hs
    by_cases hlt : k < n
    · have hlI : (k : Int) < (n : Int) := by omega
      obtain ⟨b, o, A', n', c', rfl, hb, hc0, hc1, hsi, hnc, hnil⟩ := hts.at_ hlt
      have no : goodT (tm ts k) = false → polyB ts = false := fun h => polyB_no (by rw [HL.out]; exact hlt) (okAt_bad h)
      have NO := Lib.hid no
      obtain ⟨x, hx⟩ : ∃ x, x = (tm ts k).2 := ⟨_, rfl⟩
      obtain ⟨e, he⟩ : ∃ e, e = (tm ts k).1 := ⟨_, rfl⟩
      have het : (e, x) = tm ts k := by rw [hx, he]
      rw [← hx] at hc1
      rw [← he] at hsi
      have HET := Lib.hid het
      have HE := Lib.hid he
      have hln : n' ≤ 1099511627776 := by have := HNE.out k hlt; rw [← he] at this; have := hsi.1; omega
      have HT := Lib.hid hts
      have HSI := Lib.hid hsi
      clear hts hsi hx he het no hnil
      go_wp2_with fail
      obtain ⟨w5, hw5⟩ : ∃ w5, w5 = wr.alloc (.cells #[.slice A' n' c', .int .i64 x] 60) := ⟨_, rfl⟩
      have hb5 : Below wr.heap.size wr w5 := by rw [hw5]; exact (Below.refl _ _).alloc (Nat.le_refl _) _
      have hK5 : Blk w5 wr.heap.size 60 #[.slice A' n' c', .int .i64 x] := by rw [hw5]; exact Blk.new _ _ _
      have LG : ∀ w', AfterT w5 w' → w'.rangeAt wr.heap.size 0 [.slice A' n' c', .int .i64 x] := fun w' hw' j v hj => by
        rw [(hK5.below hw' hK5.lt).cell]
        match j, hj with
        | 0, hj => simp at hj; subst hj; rfl
        | 1, hj => simp at hj; subst hj; rfl
      have S5 := HSI.out.below hb5 (Nat.le_refl _)
      have T5 := HT.out.below hb5 (Nat.le_refl _)
      have call1 : ∀ w', AfterT w5 w' → Calls Try.prog 113 #[.agg #[.slice A' n' c', .int .i64 x]] w' (fun r w'' => r = .returned (.bool (goodT (tm ts k))) ∧ AfterT w5 w'') := fun w' hw' =>
        (isValid_any A' n' c' e x w' (S5.below hw' (Nat.le_refl _)) hln).mono fun r w'' ⟨hr, hb⟩ => ⟨by rw [hr, HET.out], Below.trans hw' (hb.mono hw'.size)⟩
      have HB5 := Lib.hid (HB.out.trans (hb5.mono HB.out.size))
      obtain ⟨G, hG⟩ : ∃ G, G = wr.heap.size := ⟨_, rfl⟩
      rw [← hG] at LG ⊢
      rw [← hw5]
      have L1 := Lib.hid LG
      clear hw5 hb5 hK5 LG hG hc0 hc1
      cases hgd : goodT (tm ts k) with
      | false =>
        rw [hgd] at call1
        have CA1 := Lib.hid call1
        have HN := Lib.hid (NO.out hgd)
        clear call1 hgd S5 T5
        refine tq_class (AfterT w5) (by kernel_rfl) (by kernel_rfl) (Below.refl _ _).drew ?_
        refine tq_load rfl 60 (.tmp 4) rfl G 0 rfl [.slice A' n' c', .int .i64 x] _ L1.out Try.underlying60 rfl Try.infoTerm ?_
        refine wpQuiet_step (fun K hK => ?_)
        go_simp
        refine ⟨.bool false, fun w' hw' => CA1.out w' hw', hK _ ?_⟩
        clear hK K
        go_big_quiet_want
        go_big_quiet_op
        first | go_big_quiet_on | (refine ⟨_, fun _ _ => rfl, ?_⟩; go_big_quiet_on)
        go_big_quiet_want
        go_big_quiet_op
        first | go_big_quiet_on | (refine ⟨_, fun _ _ => rfl, ?_⟩; go_big_quiet_on)
        repeat go_big_quiet_skip
        go_big_quiet_want
        go_big_quiet_op
        first | go_big_quiet_on | (refine ⟨_, fun _ _ => rfl, ?_⟩; go_big_quiet_on)
        refine wpQuiet_nil ?_
        intro w6 hw6
        have HB6 := Lib.hid (HB5.out.trans (Below.mono hw6 HB5.out.size))
        clear hw6 L1 CA1
        go_wp2
        go_ret
        exact ⟨ret_bool HN.out.symm, HB6.out⟩
      | true =>
        rw [hgd] at call1
        have CA1 := Lib.hid call1
        have HG := Lib.hid hgd
        have HT5 := Lib.hid T5
        clear call1
        by_cases hk0 : k = 0
        · subst hk0
          clear hgd S5 T5
          refine tq_class (AfterT w5) (by kernel_rfl) (by kernel_rfl) (Below.refl _ _).drew ?_
          refine tq_load rfl 60 (.tmp 4) rfl G 0 rfl [.slice A' n' c', .int .i64 x] _ L1.out Try.underlying60 rfl Try.infoTerm ?_
          refine wpQuiet_step (fun K hK => ?_)
          go_simp
          refine ⟨.bool true, fun w' hw' => CA1.out w' hw', hK _ ?_⟩
          clear hK K
          go_big_quiet_want
          go_big_quiet_op
          first | go_big_quiet_on | (refine ⟨_, fun _ _ => rfl, ?_⟩; go_big_quiet_on)
          go_big_quiet_want
          go_big_quiet_op
          first | go_big_quiet_on | (refine ⟨_, fun _ _ => rfl, ?_⟩; go_big_quiet_on)
          go_big_quiet_want
          go_big_quiet_op
          first | go_big_quiet_on | (refine ⟨_, fun _ _ => rfl, ?_⟩; go_big_quiet_on)
          go_big_quiet_want
          go_big_quiet_op
          first | go_big_quiet_on | (refine ⟨_, fun _ _ => rfl, ?_⟩; go_big_quiet_on)
          go_big_quiet_want
          go_big_quiet_op
          first | go_big_quiet_on | (refine ⟨_, fun _ _ => rfl, ?_⟩; go_big_quiet_on)
          repeat go_big_quiet_skip
          go_big_quiet_want
          go_big_quiet_op
          first | go_big_quiet_on | (refine ⟨_, fun _ _ => rfl, ?_⟩; go_big_quiet_on)
          go_big_quiet_want
          go_big_quiet_op
          first | go_big_quiet_on | (refine ⟨_, fun _ _ => rfl, ?_⟩; go_big_quiet_on)
          refine wpQuiet_nil ?_
          intro w6 hw6
          have HB6 := Lib.hid (HB5.out.trans (Below.mono hw6 HB5.out.size))
          clear hw6 L1 CA1
          go_wp2
          go_roundw
          case rel => exact ⟨1, by omega, by go_num, fun j hj => by
            obtain rfl : j = 0 := by omega
            exact okAt_zero HG.out, HB6.out⟩
          case measure => simp [intOf]; omega
        · obtain ⟨m, rfl⟩ : ∃ m, k = m + 1 := ⟨k - 1, by omega⟩
          obtain ⟨b3, o3, A3, n3, c3, e3, hb3, hd0, hd1, hsi3, hnc3, hnil3⟩ := T5.at_ (k := m) (by omega)
          injection e3 with e3
          injection e3 with e31 e32 e33
          subst e31; subst e32
          have hg3 := (goodT_iff _).1 (okAt_good (HA.out m (by omega)))
          have hg2 := (goodT_iff _).1 hgd
          have e7 : n3 = 7 := by rw [← hsi3.1]; exact hg3.1
          subst e7
          have e7' : n' = 7 := by have := S5.1; rw [HE.out, hg2.1] at this; exact this.symm
          subst e7'
          have R3 := TS.range hd0 hd1
          have LP : ∀ w', AfterT w5 w' → w'.rangeAt b (o + m * 2) [.slice A3 7 c3, .int .i64 (tm ts m).2] := fun w' hw' j v hj => by
            rw [Below.cell hw' (p := ⟨b, o + m * 2 + j, none⟩) hb3]; exact R3 j v hj
          have call2 : ∀ w', AfterT w5 w' → Calls Try.prog 103 #[.agg #[.slice A3 7 c3, .int .i64 (tm ts m).2], .agg #[.slice A' 7 c', .int .i64 x]] w' (fun r w'' => r = .returned (.int .i64 (cmpK (tm ts m).1 (tm ts (m + 1)).1)) ∧ AfterT w5 w'') := fun w' hw' =>
            (compareTerms_any A3 A' c3 c' (tm ts m).1 e (tm ts m).2 x w' (hsi3.below hw' (Nat.le_refl _)) (S5.below hw' (Nat.le_refl _)) hg3.2.1 (by rw [HE.out]; exact hg2.2.1)).mono fun r w'' ⟨hr, hb⟩ => ⟨by rw [hr, HE.out], Below.trans hw' (hb.mono hw'.size)⟩
          obtain ⟨y, hy⟩ : ∃ y, y = (tm ts m).2 := ⟨_, rfl⟩
          obtain ⟨q, hq⟩ : ∃ q, q = cmpK (tm ts m).1 (tm ts (m + 1)).1 := ⟨_, rfl⟩
          rw [← hy] at LP call2
          rw [← hq] at call2
          have HQ := Lib.hid hq
          have LP1 := Lib.hid LP
          have CA2 := Lib.hid call2
          have hmw : IntKind.i64.wrap (((m + 1 : Nat) : Int) - 1) = (m : Int) := by rw [IntWalk.i64_in _ (by omega)]; omega
          have hm0 : (0 : Int) < ((m + 1 : Nat) : Int) := by omega
          have hmI : (m : Int) < (n : Int) := by omega
          clear hgd S5 T5 hsi3 hg3 hg2 hd0 hd1 R3 LP call2 hy hq hnil3
          refine tq_class (AfterT w5) (by kernel_rfl) (by kernel_rfl) (Below.refl _ _).drew ?_
          refine tq_load rfl 60 (.tmp 4) rfl G 0 rfl [.slice A' 7 c', .int .i64 x] _ L1.out Try.underlying60 rfl Try.infoTerm ?_
          refine wpQuiet_step (fun K hK => ?_)
          go_simp
          refine ⟨.bool true, fun w' hw' => CA1.out w' hw', hK _ ?_⟩
          clear hK K
          go_big_quiet_want
          go_big_quiet_op
          first | go_big_quiet_on | (refine ⟨_, fun _ _ => rfl, ?_⟩; go_big_quiet_on)
          go_big_quiet_want
          go_big_quiet_op
          first | go_big_quiet_on | (refine ⟨_, fun _ _ => rfl, ?_⟩; go_big_quiet_on)
          go_big_quiet_want
          go_big_quiet_op
          first | go_big_quiet_on | (refine ⟨_, fun _ _ => rfl, ?_⟩; go_big_quiet_on)
          go_big_quiet_want
          go_big_quiet_op
          first | go_big_quiet_on | (refine ⟨_, fun _ _ => rfl, ?_⟩; go_big_quiet_on)
          go_big_quiet_want
          go_big_quiet_op
          first | go_big_quiet_on | (refine ⟨_, fun _ _ => rfl, ?_⟩; go_big_quiet_on)
          go_big_quiet_want
          go_big_quiet_op
          first | go_big_quiet_on | (refine ⟨_, fun _ _ => rfl, ?_⟩; go_big_quiet_on)
          go_big_quiet_want
          go_big_quiet_op
          first | go_big_quiet_on | (refine ⟨_, fun _ _ => rfl, ?_⟩; go_big_quiet_on)
          go_big_quiet_want
          go_big_quiet_op
          first | go_big_quiet_on | (refine ⟨_, fun _ _ => rfl, ?_⟩; go_big_quiet_on)
          go_big_quiet_want
          go_big_quiet_op
          first | go_big_quiet_on | (refine ⟨_, fun _ _ => rfl, ?_⟩; go_big_quiet_on)
          go_big_quiet_want
          refine quiet_loadmid 60 (.tmp 25) rfl b (o + m * 2) rfl [.slice A3 7 c3, .int .i64 y] _ LP1.out Try.underlying60 rfl Try.infoTerm ?_
          go_big_quiet_on
          go_simp
          go_big_quiet_want
          refine quiet_loadmid 60 (.tmp 4) rfl G (0) rfl [.slice A' 7 c', .int .i64 x] _ L1.out Try.underlying60 rfl Try.infoTerm ?_
          go_big_quiet_on
          go_simp
          go_big_quiet_want
          go_big_quiet_op
          refine ⟨.int .i64 q, fun w' hw' => CA2.out w' hw', ?_⟩
          go_big_quiet_on
          go_big_quiet_want
          go_big_quiet_op
          first | go_big_quiet_on | (refine ⟨_, fun _ _ => rfl, ?_⟩; go_big_quiet_on)
          go_big_quiet_want
          go_big_quiet_op
          first | go_big_quiet_on | (refine ⟨_, fun _ _ => rfl, ?_⟩; go_big_quiet_on)
          go_big_quiet_want
          go_big_quiet_op
          first | go_big_quiet_on | (refine ⟨_, fun _ _ => rfl, ?_⟩; go_big_quiet_on)
          refine wpQuiet_nil ?_
          intro w6 hw6
          have HB6 := Lib.hid (HB5.out.trans (Below.mono hw6 HB5.out.size))
          clear hw6 L1 CA1 LP1 CA2
          by_cases hq0 : 0 ≤ q
          · go_wp2
            go_ret
            refine ⟨ret_bool (polyB_no (k := m + 1) (by rw [HL.out]; exact hlt) (okAt_wrong (by omega) ?_)).symm, HB6.out⟩
            show ¬ key7 (tm ts (m + 1)).1 < key7 (tm ts m).1
            intro hk2
            have := HQ.out
            unfold cmpK at this
            rw [if_pos hk2] at this
            omega
          · go_wp2
            go_roundw
            case rel => exact ⟨m + 1 + 1, by omega, by go_num, fun j hj => by
              rcases Nat.lt_or_ge j (m + 1) with h | h
              · exact HA.out j h
              · obtain rfl : j = m + 1 := by omega
                refine okAt_step HG.out ?_
                show key7 (tm ts (m + 1)).1 < key7 (tm ts m).1
                have := HQ.out
                unfold cmpK at this
                by_cases h1 : key7 (tm ts (m + 1)).1 < key7 (tm ts m).1
                · exact h1
                · rw [if_neg h1] at this
                  split at this <;> omega, HB6.out⟩
            case measure => simp [intOf]; omega
    · have hkn : k = n := by omega
      subst hkn
      go_wp2
      go_ret
      exact ⟨ret_bool (polyB_all (by rw [HL.out]; omega) (by rw [HL.out]; exact HA.out)).symm, HB.out⟩
end Go.Proofs.Ytmndchhbafkbeaa

/-
  Constants and monomials, on both sides. Conditions: lengths below 2^40.
-/



namespace Go.Proofs.Ytmndchhbafkbeaa
open Go.RowKit

theorem OwnT.single {w : World} {lo hi n c : Nat} {A : Option Addr} {xs : List Int} (h : Own w lo hi A n c xs) (hi' : hi ≤ w.heap.size) (hlo : lo ≤ w.heap.size) (x : Int) :
    OwnT (w.alloc (.cells #[.slice A n c, .int .i64 x] 60)) lo (w.heap.size + 1) (some ⟨w.heap.size, 0, none⟩) 1 1 [(xs, x)] := by
  refine ⟨fun _ => (A, n, c), rfl, ?_, fun k hk => by simp [Value.ownBlock] at hk; omega, fun j hj => ?_, fun j b hj hb => ?_, fun i j b hij hj _ => absurd hj (by omega)⟩
  · exact row_eq (World.ownsRow_lit w #[.slice A n c, .int .i64 x] 1 hlo (by unfold maxLen; omega) rfl) rfl
  · obtain rfl : j = 0 := by omega
    exact (h.below ((Below.refl w.heap.size w).alloc (Nat.le_refl _) _) hi').wide (Nat.le_refl _) (by omega)
  · have := h.lt b hb
    simp [Value.ownBlock]; omega
theorem FreshT.one {w w' : World} {A : Option Addr} {n c : Nat} {xs : List Int} (hb : Below w.heap.size w w') (h : Own w' w.heap.size w'.heap.size A n c xs) (x : Int) :
    FreshT w (w'.alloc (.cells #[.slice A n c, .int .i64 x] 60)) (.returned (.slice (some ⟨w'.heap.size, 0, none⟩) 1 1)) [(xs, x)] :=
  ⟨_, _, _, rfl, by have := OwnT.single h (Nat.le_refl _) hb.size x; simpa using this, hb.alloc hb.size _⟩
theorem FreshT.nil_ret {w w' : World} (h : Below w.heap.size w w') : FreshT w w' (.returned (.slice none 0 0)) [] := ⟨none, 0, 0, rfl, OwnT.nil _ _ _, h⟩

/-- The polynomial k. -/
def constPoly (k : Int) : List Tm := if k ≠ 0 ∧ -1000000 ≤ k ∧ k ≤ 1000000 then [(List.replicate 7 0, k)] else []
theorem constPoly_no {k : Int} (h : ¬ (k ≠ 0 ∧ -1000000 ≤ k ∧ k ≤ 1000000)) : constPoly k = [] := by unfold constPoly; rw [if_neg h]
theorem constPoly_yes {k : Int} (h : k ≠ 0 ∧ -1000000 ≤ k ∧ k ≤ 1000000) : constPoly k = [(List.replicate 7 0, k)] := by unfold constPoly; rw [if_pos h]
/-- What is short: at most one term of seven exponents. -/
def shortT (ts : List Tm) : Prop := ts = [] ∨ ∃ e x, ts = [(e, x)] ∧ e.length = 7
theorem shortT.le {ts : List Tm} (h : shortT ts) : ts.length ≤ 1099511627776 := by
  rcases h with rfl | ⟨e, x, rfl, _⟩ <;> simp
theorem shortT.lens {ts : List Tm} (h : shortT ts) (k : Nat) : (tm ts k).1.length ≤ 1099511627776 := by
  rcases h with rfl | ⟨e, x, rfl, h7⟩
  · simp [tm]
  · match k with
    | 0 => show e.length ≤ _; omega
    | k + 1 => simp [tm, List.getD]
theorem shortT.ends {ts : List Tm} (h : shortT ts) (k : Nat) : 0 ≤ endT (ts.take k) 1 ∧ endT (ts.take k) 1 ≤ 1099511627776 := by
  rcases h with rfl | ⟨e, x, rfl, h7⟩
  · simp [endT]
  · match k with
    | 0 => simp [endT]
    | k + 1 => simp [endT, h7]
theorem constPoly_short (k : Int) : shortT (constPoly k) := by
  by_cases h : k ≠ 0 ∧ -1000000 ≤ k ∧ k ≤ 1000000
  · exact .inr ⟨_, _, constPoly_yes h, by simp⟩
  · exact .inl (constPoly_no h)

/-- Exponents with zeros behind them, seven in all: the first k of e. -/
def fillE (e : List Int) (k : Nat) : List Int := e.take k ++ List.replicate (7 - k) 0
theorem fillE_len {e : List Int} {k : Nat} (h : k ≤ e.length) (h7 : k ≤ 7) : (fillE e k).length = 7 := by simp [fillE]; omega
theorem fillE_succ {e : List Int} {k : Nat} (h : k < e.length) (h7 : k < 7) : (fillE e k).set k (nth e k) = fillE e (k + 1) := by
  unfold fillE
  have hl : (e.take k).length = k := by simp; omega
  rw [List.set_append_right _ _ (by omega), hl, Nat.sub_self, show 7 - k = (7 - (k + 1)) + 1 by omega, List.replicate_succ, List.set_cons_zero, take_nth h, List.append_assoc]
  rfl
/-- The polynomial of one term. -/
def monoPoly (e : List Int) : List Tm := if e.length ≤ 7 ∧ smallE e = true then [(fillE e e.length, 1)] else []
theorem monoPoly_no {e : List Int} (h : ¬ (e.length ≤ 7 ∧ smallE e = true)) : monoPoly e = [] := by unfold monoPoly; rw [if_neg h]
theorem monoPoly_yes {e : List Int} (h : e.length ≤ 7 ∧ smallE e = true) : monoPoly e = [(fillE e e.length, 1)] := by unfold monoPoly; rw [if_pos h]
theorem monoPoly_short (e : List Int) : shortT (monoPoly e) := by
  by_cases h : e.length ≤ 7 ∧ smallE e = true
  · exact .inr ⟨_, _, monoPoly_yes h, fillE_len (Nat.le_refl _) h.1⟩
  · exact .inl (monoPoly_no h)
theorem smallE_fill {e : List Int} (_h7 : e.length ≤ 7) : smallE (fillE e e.length) = smallE e := by
  unfold fillE smallE
  rw [List.take_of_length_le (Nat.le_refl _), List.all_append]
  have : (List.replicate (7 - e.length) (0 : Int)).all (fun x => decide (0 ≤ x ∧ x ≤ 24)) = true := by
    rw [List.all_eq_true]; intro x hx; rw [List.eq_of_mem_replicate hx]; decide
  rw [this, Bool.and_true]

theorem Try.infoIntS : (Try.prog.info? 3).map (·.size) = some 1 := by kernel_rfl
/-- 'copy(d, s)' into a slice of the call's own that is at least as long. -/
theorem wpList_copy_ints {ops : Array Oper} {rest : List Oper} {o : Oper} {a : Act} {w : World} {Q : Exit → Act → World → Prop} (hgd : o.guard = none) (d s : Operand)
    (ho : o.op = .call { callee := .builtin .copy, args := #[d, s], argTypes := #[35, 35] }) (g n' : Nat) (A : Option Addr) (n c : Nat) (hd : a.eval d = .slice (some ⟨g, 0, none⟩) n' n') (hs : a.eval s = .slice A n c)
    (lo hi : Nat) (ys e : List Int) (hown : Own w lo hi (some ⟨g, 0, none⟩) n' n' ys) (hsi : SI w A n e) (hle : n ≤ n')
    (hK : ∀ w', Own w' lo hi (some ⟨g, 0, none⟩) n' n' (e ++ ys.drop n) → w.grownBy w' (some g) → wpList Try.prog ops Q rest (a.put o.dst (goInt n)) w') : wpList Try.prog ops Q (o :: rest) a w := by
  have hl := hsi.1
  by_cases h0 : n = 0
  · subst h0
    obtain rfl : e = [] := List.eq_nil_of_length_eq_zero hl
    exact Go.wpList_copy_nothing hgd d s 35 35 ho 3 Try.underlying35 Try.infoIntS (some ⟨g, 0, none⟩) A n' n' 0 c hd hs (by simp) (hK w (by simpa using hown) (World.grownBy.refl _ _))
  · obtain ⟨b, off, rfl, hb, hc⟩ := hsi.2 (by omega)
    rcases hown.1.2 with ⟨hx, _⟩ | ⟨g', cap, cur, hv, hlo, hg, hnc, hcm, hcs, htake⟩
    · cases hx
    · have hv' := hv
      simp only [Value.slice.injEq, Option.some.injEq, Addr.mk.injEq, and_true, true_and] at hv'
      obtain ⟨rfl, rfl⟩ := hv'
      have hyl := hown.len
      have hcur : cur.toList = ys.map (Value.int .i64) := by rw [← htake, List.take_of_length_le (by simp; omega)]
      have hE : (cur.toList.take 0 ++ (e.map (Value.int .i64) ++ cur.toList.drop (0 + (e.map (Value.int .i64)).length))).toArray = ((e ++ ys.drop n).map (Value.int .i64)).toArray := by
        rw [hcur]; simp [hl, List.map_drop]
      refine Go.wpList_copy_own hgd d s 35 35 ho 3 Try.underlying35 Try.infoIntS g 0 n' n' ⟨b, off, none⟩ n c hd hs cur 3 hg (e.map (Value.int .i64)) (by simp [hl]; exact (Nat.min_eq_left hle).symm) ?_ (by simp [hl]; omega) (ints_oneCell _ _) ?_
      · intro j v hj
        have hjl : j < e.length := by
          rcases Nat.lt_or_ge j e.length with h | h
          · exact h
          · rw [List.getElem?_eq_none (by simpa using h)] at hj; cases hj
        rw [List.getElem?_map, nth_get? hjl] at hj
        rw [add_pt, hc j (by omega)]
        exact hj
      · rw [hE]
        have hk := hK (w.setRow g ((e ++ ys.drop n).map (Value.int .i64)).toArray) ⟨⟨by simp; omega, .inr ⟨g, n', _, rfl, hlo, setRow_heap w g cur _ _ (0, 0) hg, Nat.le_refl _, hcm, by simp; omega, List.take_of_length_le (by simp; omega)⟩⟩, hown.2⟩ (grownBy_setRow w g _)
        simpa [hl] using hk

end Go.Proofs.Ytmndchhbafkbeaa

/-
  Slices of terms that a call owns: the empty one, a wider frame, a term more behind them. Plain lemmas. No conditions.
-/


namespace Go.Proofs.Ytmndchhbafkbeaa
open Go.RowKit

theorem OwnT.empty (w : World) : OwnT (w.alloc (.cells #[] 60)) w.heap.size (w.heap.size + 1) (some ⟨w.heap.size, 0, none⟩) 0 0 [] :=
  ⟨fun _ => (none, 0, 0), rfl, World.ownsRow_lit w #[] 0 (Nat.le_refl _) (Nat.zero_le _) rfl, fun k hk => by simp [Value.ownBlock] at hk; omega, fun j hj => absurd hj (by omega), fun j g hj => absurd hj (by omega), fun i j g _ hj => absurd hj (by omega)⟩
theorem OwnT.wide {w : World} {lo hi lo' hi' n c : Nat} {A : Option Addr} {ts : List Tm} (h : OwnT w lo hi A n c ts) (h1 : lo' ≤ lo) (h2 : hi ≤ hi') : OwnT w lo' hi' A n c ts := by
  obtain ⟨E, e1, e2, e3, e4, e5, e6⟩ := h
  refine ⟨E, e1, ⟨e2.1, ?_⟩, fun k hk => Nat.lt_of_lt_of_le (e3 k hk) h2, fun j hj => (e4 j hj).wide h1 h2, e5, e6⟩
  rcases e2.2 with hn | ⟨g, cap, cur, e, hl, rest⟩
  · exact .inl hn
  · exact .inr ⟨g, cap, cur, e, Nat.le_trans h1 hl, rest⟩
/-- The same, the blocks of the exponents named. -/
def OwnE (E : Nat → Sv) (w : World) (lo hi : Nat) (A : Option Addr) (n c : Nat) (ts : List Tm) : Prop :=
  ts.length = n ∧ w.ownsRow lo 60 2 (.slice A n c) n (cells2 n fun k => (sv (E k), .int .i64 (tm ts k).2)) ∧ (∀ k, (Value.slice A n c).ownBlock = some k → k < hi) ∧
    (∀ j, j < n → Own w lo hi (E j).1 (E j).2.1 (E j).2.2 (tm ts j).1) ∧ (∀ j g, j < n → (sv (E j)).ownBlock = some g → (Value.slice A n c).ownBlock ≠ some g) ∧
    (∀ i j g, i < j → j < n → (sv (E i)).ownBlock = some g → (sv (E j)).ownBlock ≠ some g)
theorem OwnE.below {E : Nat → Sv} {w w' : World} {lo hi n c B : Nat} {A : Option Addr} {ts : List Tm} (h : OwnE E w lo hi A n c ts) (hb : Below B w w') (hB : hi ≤ B) : OwnE E w' lo hi A n c ts := by
  obtain ⟨h1, h2, h3, h4, h5, h6⟩ := h
  refine ⟨h1, ⟨h2.1, ?_⟩, h3, fun j hj => (h4 j hj).below hb hB, h5, h6⟩
  rcases h2.2 with hn | ⟨g, cap, cur, e, hl, hg, rest⟩
  · exact .inl hn
  · have hlt := h3 g (by rw [e]; rfl)
    exact .inr ⟨g, cap, cur, e, hl, (hb.block g (by omega)).trans hg, rest⟩
theorem OwnT.named {w : World} {lo hi n c : Nat} {A : Option Addr} {ts : List Tm} (h : OwnT w lo hi A n c ts) : ∃ E, OwnE E w lo hi A n c ts := h
/-- A term more behind them. -/
theorem OwnE.app {E : Nat → Sv} {w w' : World} {lo hi n c : Nat} {A : Option Addr} {ts : List Tm} (h : OwnE E w lo hi A n c ts) {lo2 hi2 n2 c2 : Nat} {A2 : Option Addr} {xs : List Int} (x : Int) (hx : Own w lo2 hi2 A2 n2 c2 xs)
    (hlo : lo ≤ lo2) (hd : hi ≤ lo2) {H g cap : Nat} (hH : hi2 ≤ H) (hHh : hi ≤ H) (hHw : H ≤ w.heap.size)
    (ho : w'.ownsRow lo 60 2 (.slice (some ⟨g, 0, none⟩) (n + 1) cap) (n + 1) (cells2 n (fun k => (sv (E k), .int .i64 (tm ts k).2)) ++ [.slice A2 n2 c2, .int .i64 x]))
    (hg : w.grownBy w' (Value.slice A n c).ownBlock) (hat : (Value.slice A n c).ownBlock = some g ∨ H ≤ g) (hlt : g < w'.heap.size) : OwnT w' lo w'.heap.size (some ⟨g, 0, none⟩) (n + 1) cap (ts ++ [(xs, x)]) := by
  obtain ⟨h1, h2, h3, h4, h5, h6⟩ := h
  have hsz := hg.size
  rw [cells2_app] at ho
  have eE : ∀ j, j < n → (if j = n then ((A2, n2, c2) : Sv) else E j) = E j := fun j hj => by rw [if_neg (by omega)]
  have eN : (if n = n then ((A2, n2, c2) : Sv) else E n) = (A2, n2, c2) := if_pos rfl
  refine ⟨fun j => if j = n then (A2, n2, c2) else E j, by simp [h1], row_eq ho (cells2_congr fun j hj => ?_), ?_, ?_, ?_, ?_⟩
  · by_cases e : j = n
    · subst e
      have := @tm_app_at ts (xs, x)
      rw [h1] at this
      rw [if_pos rfl]
      show (Value.slice A2 n2 c2, Value.int .i64 x) = (sv (if j = j then ((A2, n2, c2) : Sv) else E j), Value.int .i64 (tm (ts ++ [(xs, x)]) j).2)
      rw [eN, this]; rfl
    · rw [if_neg e]
      show _ = (sv (if j = n then ((A2, n2, c2) : Sv) else E j), Value.int .i64 (tm (ts ++ [(xs, x)]) j).2)
      rw [eE j (by omega), tm_app_lt (by rw [h1]; omega)]
  · intro k hk
    simp [Value.ownBlock] at hk
    omega
  · intro j hj
    by_cases e : j = n
    · subst e
      have := @tm_app_at ts (xs, x)
      rw [h1] at this
      rw [this]
      show Own w' lo w'.heap.size (if j = j then ((A2, n2, c2) : Sv) else E j).1 (if j = j then ((A2, n2, c2) : Sv) else E j).2.1 (if j = j then ((A2, n2, c2) : Sv) else E j).2.2 xs
      rw [eN]
      exact (hx.kept hg (fun b hb e => by have h7 := hx.lt b hb; have h8 := h3 b e; omega)).wide hlo (by omega)
    · rw [tm_app_lt (by rw [h1]; omega)]
      show Own w' lo w'.heap.size (if j = n then ((A2, n2, c2) : Sv) else E j).1 (if j = n then ((A2, n2, c2) : Sv) else E j).2.1 (if j = n then ((A2, n2, c2) : Sv) else E j).2.2 _
      rw [eE j (by omega)]
      exact ((h4 j (by omega)).kept hg (fun b hb e => h5 j b (by omega) hb e)).wide (Nat.le_refl _) (by omega)
  · intro j b hj hb e2
    have hbg : b = g := by simp [Value.ownBlock] at e2; omega
    subst hbg
    have hb' : (sv (if j = n then ((A2, n2, c2) : Sv) else E j)).ownBlock = some b := hb
    by_cases e : j = n
    · subst e
      rw [eN] at hb'
      have h7 := hx.lt b hb'
      rcases hat with ha | ha
      · have := h3 b ha; omega
      · omega
    · rw [eE j (by omega)] at hb'
      rcases hat with ha | ha
      · exact h5 j b (by omega) hb' ha
      · have := (h4 j (by omega)).lt b hb'; omega
  · intro i j b hij hj hb hb2
    have hb' : (sv (if i = n then ((A2, n2, c2) : Sv) else E i)).ownBlock = some b := hb
    have hb2' : (sv (if j = n then ((A2, n2, c2) : Sv) else E j)).ownBlock = some b := hb2
    rw [eE i (by omega)] at hb'
    by_cases e : j = n
    · subst e
      rw [eN] at hb2'
      have h7 := hx.lt b hb2'
      have h8 := (h4 i (by omega)).lt b hb'
      omega
    · rw [eE j (by omega)] at hb2'
      exact h6 i j b hij (by omega) hb' hb2'

/-- 'out = append(out, Term{..})' in a region that draws. -/
theorem step_appendT (w : World) {ops : Array Oper} {o : Oper} {a : Act} {K : Act → World → Prop} {Q : Exit → Act → World → Prop} {E0 : Prop} (hgd : o.guard = none) (s x : Operand)
    (ho : o.op = .call { callee := .builtin .append, args := #[s, x], argTypes := #[24, 24] })
    (lo hi : Nat) (A : Option Addr) (n c : Nat) (ts : List Tm) (lo2 hi2 : Nat) (A3 : Option Addr) (n3 c3 : Nat) (xs : List Int) (z : Int) (nb : Nat) (hs : a.eval s = .slice A n c) (hx : a.eval x = .slice (some ⟨nb, 0, none⟩) 1 1) (hblk : Blk w nb 60 #[.slice A3 n3 c3, .int .i64 z])
    (hown : OwnT w lo hi A n c ts) (hxs : Own w lo2 hi2 A3 n3 c3 xs) (hlo : lo ≤ lo2) (hd : hi ≤ lo2) (h1 : hi2 ≤ w.heap.size) (h2 : hi ≤ w.heap.size) (h3 : lo ≤ w.heap.size) (hn : n ≤ 1099511627776)
    (h : ∀ A' c' w', OwnT w' lo w'.heap.size A' (n + 1) c' (ts ++ [(xs, z)]) → Below lo w w' → K (a.put o.dst (.slice A' (n + 1) c')) w') :
    if Region.wanted o (yielded ops a.tmps) = true then Oper.wp Try.prog o a w K Q else E0 := by
  obtain ⟨i0, hi0, hz0, hz1, hz2⟩ := info_parts Try.infoTermZ
  obtain ⟨E, hE⟩ := hown.named
  refine step_append_lies w hgd s x 24 ho lo 60 i0 _ 2 32 Try.underlying24 hi0 hz0 hz1 hz2 rfl (by decide) _ n _ hs hE.2.1 ⟨nb, 0, none⟩ 1 1 [.slice A3 n3 c3, .int .i64 z] hx rfl
    (World.news_of_block hblk) (by intro u hu; simp at hu; rcases hu with rfl | rfl <;> rfl) (by omega) (by unfold maxLen; omega) (by omega) h3 w.heap.size rfl ?_
  intro g cap w1 ho1 hg1 hat hlt
  exact h _ _ w1 (hE.app z hxs hlo hd (H := w.heap.size) h1 h2 (Nat.le_refl _) ho1 hg1 (hat.imp id (fun h => by omega)) hlt) (grow_below hg1 h3 (fun k hk => (hE.2.1.lt k hk).1))
end Go.Proofs.Ytmndchhbafkbeaa

/-
  The document's polynomials as lists of terms by their keys: opened, and shut again. Conditions: lengths below 2^30, keys below 2^49.
-/



namespace Go.Proofs.Ytmndchhbafkbeaa
open Go.RowKit

/-- The terms of a polynomial by their keys. -/
def openM (ts : List Tm) : List Mn := ts.map fun t => (key7 t.1, t.2)
theorem openM_next {ts : List Tm} {k : Nat} (h : k < ts.length) : openM (ts.take (k + 1)) = openM (ts.take k) ++ [(key7 (tm ts k).1, (tm ts k).2)] := by
  unfold openM; rw [take_tm h]; simp
set_option maxRecDepth 100000 in
set_option maxHeartbeats 1000000 in
theorem l2Open_any (A : Option Addr) (n c : Nat) (ts : List Tm) (w : World) (hs : TS w A n ts) (hn : n ≤ 1000000000) (hg : ∀ k, k < n → (tm ts k).1.length = 7 ∧ smallE (tm ts k).1 = true) :
    Calls Try.prog 56 #[.slice A n c] w fun e w' => FreshM w w' e (openM ts) := by
  have HL := Lib.hid hs.1
  have HGD := Lib.hid hg
  clear hg
  obtain ⟨B, hB⟩ : ∃ B, B = w.heap.size := ⟨_, rfl⟩
  have HB0 : Hid (B = w.heap.size) := Lib.hid hB
  have HO5 : Hid (OwnM (w.alloc (.cells #[] 85)) B (w.alloc (.cells #[] 85)).heap.size (some ⟨B, 0, none⟩) 0 0 []) := Lib.hid (by rw [hB]; simpa using OwnM.empty w)
  have HB5 : Hid (Below B w (w.alloc (.cells #[] 85))) := Lib.hid (by rw [hB]; exact (Below.refl _ _).alloc (Nat.le_refl _) _)
  have HZ5 : Hid (B ≤ (w.alloc (.cells #[] 85)).heap.size) := Lib.hid (by rw [hB]; simp)
  go_enter Try.func56, Try.ntmps56
  go_wp2_with fail
  rw [← hB]
  clear hB
  go_loopw [3, 4] (fun lf k wx => ∃ A5 c5 kk, lf = .slice A5 kk c5 ∧ k = .int .i64 (kk : Nat) ∧ kk ≤ n ∧ OwnM wx B wx.heap.size A5 kk c5 (openM (ts.take kk)) ∧ Below B w wx ∧ B ≤ wx.heap.size)
    (fun _ k _ => n - (intOf k).toNat)
  case atStart => exact ⟨_, 0, 0, rfl, rfl, Nat.zero_le _, by simpa [openM] using HO5.out, HB5.out, HZ5.out⟩
  case round =>
    obtain ⟨A5, c5, k, rfl, rfl, hk, ho5, hb5, hz5⟩ := hrel
    clear HO5 HB5 HZ5
    have HO5 := Lib.hid ho5
    have HB5 := Lib.hid hb5
    have HZ5 := Lib.hid hz5
    have hsr := hs.below hb5 (by rw [← HB0.out]; exact Nat.le_refl _)
    have hs0 := hs
    clear ho5 hb5 hz5 hs
    by_cases hlt : k < n
    · have hltI : (k : Int) < (n : Int) := by omega
      have HNX := Lib.hid (openM_next (ts := ts) (k := k) (by rw [HL.out]; exact hlt))
      have hg := HGD.out k hlt
      obtain ⟨b, o, A2, n2, c2, rfl, hb, hi0, hi1, hsi, hnc, hnil⟩ := hsr.at_ (k := k) hlt
      have hbw : b < B := by
        obtain ⟨b2, o2, _, _, _, e2, hb2, _⟩ := hs0.at_ (k := k) hlt
        simp only [Option.some.injEq, Addr.mk.injEq, and_true] at e2
        rw [HB0.out, e2.1]; exact hb2
      obtain rfl : n2 = 7 := by rw [← hsi.1]; exact hg.1
      obtain ⟨z, hz⟩ : ∃ z, z = key7 (tm ts k).1 := ⟨_, rfl⟩
      obtain ⟨q1, hq1⟩ : ∃ q1, q1 = (tm ts k).2 := ⟨_, rfl⟩
      rw [← hq1] at hi1
      have CA : Calls Try.prog 86 #[.slice A2 7 c2] wr.drew fun e w3 => e = .returned (.int .i64 z) ∧ (w3.cell? ⟨b, o + k * 2, none⟩ = some (.slice A2 7 c2) ∧ w3.cell? ⟨b, o + k * 2 + 1, none⟩ = some (.int .i64 q1)) ∧ Hid (OwnM w3 B w3.heap.size A5 k c5 (openM (ts.take k))) ∧ Hid (Below B w w3) ∧ Hid (B ≤ w3.heap.size) := by
        refine (l2Key_any A2 c2 (tm ts k).1 wr.drew (hsi.drewN 1) hg.2).mono ?_
        rintro e w3 ⟨rfl, m, rfl⟩
        exact ⟨by rw [hz], ⟨hi0, hi1⟩, Lib.hid (HO5.out.drawn ⟨1 + m, by rw [← World.drewN_drewN]; rfl⟩), Lib.hid ((HB5.out.drawnN 1).drawnN m), Lib.hid HZ5.out⟩
      have HPQ : Hid ((key7 (tm ts k).1, (tm ts k).2) = (z, q1)) := Lib.hid (by rw [hz, hq1])
      have HCA := Lib.hid CA
      have HK : Hid (b < B) := Lib.hid hbw
      clear hsr hs0 hq1 hb CA hz hbw hg hsi hnil
      go_wp2_with fail
      go_region_held3 (fun w' => w'.cell? ⟨b, o + k * 2, none⟩ = some (.slice A2 7 c2) ∧ w'.cell? ⟨b, o + k * 2 + 1, none⟩ = some (.int .i64 q1))
        (first | go_keep | exact K3 | exact K5)
        (first
          | (go_at_call 86
             with_reducible refine HCA.out.mono ?_
             rintro r3 w3 ⟨rfl, K3, HO3, HB3, HZ3⟩)
          | (refine step_appendM _ (by rfl) (.tmp 12) (.tmp 25) (by rfl) B w3.heap.size A5 k c5 (openM (ts.take k)) z q1 w3.heap.size (by rfl) (by rfl) (Blk.new w3 _ _) (HO3.out.below ((Below.refl w3.heap.size w3).alloc (Nat.le_refl _) _) (Nat.le_refl _)) (by have := HZ3.out; simp; omega) (by omega) ?_
             intro A6 c6 w6 ho6 hb6
             have K5 : w6.cell? ⟨b, o + k * 2, none⟩ = some (.slice A2 7 c2) ∧ w6.cell? ⟨b, o + k * 2 + 1, none⟩ = some (.int .i64 q1) := by
               have g3 := ((Below.refl B w3).alloc HZ3.out (.cells #[.int .i64 z, .int .i64 q1] 85)).trans hb6
               exact ⟨(Below.cell g3 (p := ⟨b, o + k * 2, none⟩) HK.out).trans K3.1, (Below.cell g3 (p := ⟨b, o + k * 2 + 1, none⟩) HK.out).trans K3.2⟩
             have HO6 := Lib.hid ho6
             have HB6 : Hid (Below B w w6) := Lib.hid ((HB3.out.alloc HZ3.out _).trans hb6)
             have HZ6 : Hid (B ≤ w6.heap.size) := Lib.hid (Nat.le_trans HZ3.out (Nat.le_trans (by simp) hb6.size))
             clear ho6 hb6))
      go_wp2
      go_roundw
      case rel => exact ⟨A6, c6, k + 1, rfl, by go_num, by omega, by rw [HNX.out, HPQ.out]; exact HO6.out, HB6.out, HZ6.out⟩
      case measure => simp [intOf]; omega
    · have hkn : k = n := by omega
      subst hkn
      have HOL : Hid (OwnM wr B wr.heap.size A5 k c5 (openM ts)) := Lib.hid (by have := HO5.out; rwa [List.take_of_length_le (by rw [HL.out]; omega)] at this)
      go_wp2
      go_ret
      exact ⟨A5, k, c5, rfl, by rw [← HB0.out]; exact HOL.out, by rw [← HB0.out]; exact HB5.out⟩

/-- The first i exponents that a key holds. -/
def digN (x : Int) (i : Nat) : List Int := (List.range i).map fun j => x / unitI j % 128
theorem digN_next (x : Int) (i : Nat) : digN x (i + 1) = digN x i ++ [x / unitI i % 128] := by unfold digN; rw [List.range_succ, List.map_append]; rfl
theorem unitI_next (x : Int) (i : Nat) : x / unitI i / 128 = x / unitI (i + 1) := by
  unfold unitI
  rw [Int.pow_succ, Int.ediv_ediv_of_nonneg (Int.pow_nonneg (by omega))]
theorem dig_pos {x : Int} (h : 0 ≤ x) (i : Nat) : 0 ≤ x / unitI i ∧ x / unitI i ≤ x := by
  have h1 : (0 : Int) ≤ unitI i := by unfold unitI; exact Int.pow_nonneg (by omega)
  exact ⟨Int.ediv_nonneg h h1, Int.ediv_le_self _ h⟩
set_option maxRecDepth 100000 in
set_option maxHeartbeats 400000 in
theorem l2Exp_any (x : Int) (w : World) (h : in49 x) : Calls Try.prog 106 #[.int .i64 x] w fun e w' => Fresh w w' e (digN x 7) := by
  obtain ⟨h0, h1⟩ := h
  obtain ⟨B, hB⟩ : ∃ B, B = w.heap.size := ⟨_, rfl⟩
  have HB0 : Hid (B = w.heap.size) := Lib.hid hB
  have HO5 : Hid (Own (w.alloc (.cells #[] 3)) B (w.alloc (.cells #[] 3)).heap.size (some ⟨B, 0, none⟩) 0 0 []) := Lib.hid (by rw [hB]; simpa using Own.empty w)
  have HB5 : Hid (Below B w (w.alloc (.cells #[] 3))) := Lib.hid (by rw [hB]; exact (Below.refl _ _).alloc (Nat.le_refl _) _)
  have HZ5 : Hid (B ≤ (w.alloc (.cells #[] 3)).heap.size) := Lib.hid (by rw [hB]; simp)
  go_enter Try.func106, Try.ntmps106
  go_wp2_with fail
  rw [← hB]
  clear hB
  go_loopw [0, 3, 4] (fun kv lf i wx => ∃ A5 c5 j, kv = .int .i64 (x / unitI j) ∧ lf = .slice A5 j c5 ∧ i = .int .i64 (j : Nat) ∧ j ≤ 7 ∧ Own wx B wx.heap.size A5 j c5 (digN x j) ∧ Below B w wx ∧ B ≤ wx.heap.size)
    (fun _ _ i _ => 7 - (intOf i).toNat)
  case atStart => exact ⟨_, 0, 0, by simp [unitI], rfl, rfl, by omega, by simpa [digN] using HO5.out, HB5.out, HZ5.out⟩
  case round =>
    obtain ⟨A5, c5, j, rfl, rfl, rfl, hj, ho5, hb5, hz5⟩ := hrel
    clear HO5 HB5 HZ5
    have HO5 := Lib.hid ho5
    have HB5 := Lib.hid hb5
    have HZ5 := Lib.hid hz5
    clear ho5 hb5 hz5
    by_cases hlt : j < 7
    · have hltI : (j : Int) < 7 := by omega
      have HNX := Lib.hid (digN_next x j)
      have hy := dig_pos h0 j
      have HN := Lib.hid (unitI_next x j)
      obtain ⟨y, hyy⟩ : ∃ y, y = x / unitI j := ⟨_, rfl⟩
      rw [← hyy] at hy HN HNX ⊢
      have hy1 : y < 562949953421312 := by omega
      have hy0 := hy.1
      have HYY := Lib.hid hyy
      have ht1 : Int.tmod y 128 = y % 128 := Int.tmod_eq_emod_of_nonneg hy0
      have ht2 : Int.tdiv y 128 = y / 128 := Int.tdiv_eq_ediv_of_nonneg hy0
      have hw1 : IntKind.i64.wrap (y / 128) = y / 128 := IntWalk.i64_in _ (by omega)
      have hw2 : IntKind.i64.wrap (y % 128) = y % 128 := IntWalk.i64_in _ (by omega)
      clear hy hyy
      go_wp2_with (at_builtin; refine wpList_append1 rfl (.tmp 10) (.tmp 13) rfl B A5 j c5 (digN x j) (y % 128) rfl rfl HO5.out HZ5.out (by omega) ?_; intro A6 c6 w6 ho6 hg6 hb6; have HO6 := Lib.hid ho6; have HB6 := Lib.hid hb6; clear ho6 hb6 hg6)
      go_roundw
      case rel => exact ⟨A6, c6, j + 1, by rw [← HN.out], rfl, by go_num, by omega, by rw [HNX.out]; exact HO6.out, HB5.out.trans HB6.out, Nat.le_trans HZ5.out HB6.out.size⟩
      case measure => simp [intOf]; omega
    · have hj7 : j = 7 := by omega
      subst hj7
      go_wp2
      go_ret
      exact ⟨A5, 7, c5, rfl, by rw [← HB0.out]; exact HO5.out, by rw [← HB0.out]; exact HB5.out⟩

/-- The terms that keys stand for. -/
def termsK (l : List Mn) : List Tm := l.map fun t => (digN t.1 7, t.2)
/-- .. where they are a polynomial. -/
def shutL (l : List Mn) : List Tm := if polyB (termsK l) = true then termsK l else []
theorem termsK_next {l : List Mn} {k : Nat} (h : k < l.length) : termsK (l.take (k + 1)) = termsK (l.take k) ++ [(digN (ce l k).1 7, (ce l k).2)] := by
  unfold termsK; rw [take_ce h]; simp
theorem digN_len (x : Int) (i : Nat) : (digN x i).length = i := by simp [digN]
theorem termsK_exp {l : List Mn} {k : Nat} (h : k < (termsK l).length) : (tm (termsK l) k).1.length = 7 := by
  unfold tm termsK at *
  simp at h
  simp [List.getD, h, digN_len]
set_option maxRecDepth 100000 in
set_option maxHeartbeats 1000000 in
theorem l2Shut_any (A : Option Addr) (n c : Nat) (l : List Mn) (w : World) (hs : MS w A n l) (hn : n ≤ 1000000000) (h49 : ∀ t ∈ l, in49 t.1) :
    Calls Try.prog 54 #[.slice A n c] w fun e w' => ∃ A' n' c', e = .returned (.tuple #[.slice A' n' c', .bool (polyB (termsK l))]) ∧ OwnT w' w.heap.size w'.heap.size A' n' c' (shutL l) ∧ Below w.heap.size w w' := by
  have HL := Lib.hid hs.1
  have H49 := Lib.hid h49
  clear h49
  by_cases hbig : 600 < n
  · have hP : polyB (termsK l) = false := polyB_big (by unfold termsK; rw [List.length_map, HL.out]; exact hbig)
    have HS : Hid (shutL l = []) := Lib.hid (by unfold shutL; rw [hP]; rfl)
    have hbI : (600 : Int) < (n : Int) := by omega
    have HP := Lib.hid hP
    clear hP
    go_enter Try.func54, Try.ntmps54
    go_wp2
    go_ret2
    rw [HP.out, HS.out]
    exact ⟨none, 0, 0, rfl, OwnT.nil _ _ _, Below.refl _ _⟩
  · obtain ⟨B, hB⟩ : ∃ B, B = w.heap.size := ⟨_, rfl⟩
    have HB0 : Hid (B = w.heap.size) := Lib.hid hB
    have HO5 : Hid (OwnT (w.alloc (.cells #[] 60)) B (w.alloc (.cells #[] 60)).heap.size (some ⟨B, 0, none⟩) 0 0 []) := Lib.hid (by rw [hB]; simpa using OwnT.empty w)
    have HB5 : Hid (Below B w (w.alloc (.cells #[] 60))) := Lib.hid (by rw [hB]; exact (Below.refl _ _).alloc (Nat.le_refl _) _)
    have HZ5 : Hid (B ≤ (w.alloc (.cells #[] 60)).heap.size) := Lib.hid (by rw [hB]; simp)
    have hbI : ¬ (600 : Int) < (n : Int) := by omega
    go_enter Try.func54, Try.ntmps54
    go_wp2_with fail
    rw [← hB]
    clear hB
    go_loopw [4, 5] (fun lf k wx => ∃ A5 c5 kk, lf = .slice A5 kk c5 ∧ k = .int .i64 (kk : Nat) ∧ kk ≤ n ∧ OwnT wx B wx.heap.size A5 kk c5 (termsK (l.take kk)) ∧ Below B w wx ∧ B ≤ wx.heap.size)
      (fun _ k _ => n - (intOf k).toNat)
    case atStart => exact ⟨_, 0, 0, rfl, rfl, Nat.zero_le _, by simpa [termsK] using HO5.out, HB5.out, HZ5.out⟩
    case round =>
      obtain ⟨A5, c5, k, rfl, rfl, hk, ho5, hb5, hz5⟩ := hrel
      clear HO5 HB5 HZ5
      have HO5 := Lib.hid ho5
      have HB5 := Lib.hid hb5
      have HZ5 := Lib.hid hz5
      have hsr := hs.below hb5 (by rw [← HB0.out]; exact Nat.le_refl _)
      have hs0 := hs
      clear ho5 hb5 hz5 hs
      by_cases hlt : k < n
      · have hltI : (k : Int) < (n : Int) := by omega
        have HNX := Lib.hid (termsK_next (l := l) (k := k) (by rw [HL.out]; exact hlt))
        have h49 := H49.out _ (ce_mem (l := l) (k := k) (by rw [HL.out]; exact hlt))
        obtain ⟨b, o, rfl, hb, hi0, hi1⟩ := hsr.at_ (k := k) hlt
        have hbw : b < B := by
          obtain ⟨b2, o2, e2, hb2, _⟩ := hs0.at_ (k := k) hlt
          simp only [Option.some.injEq, Addr.mk.injEq, and_true] at e2
          rw [HB0.out, e2.1]; exact hb2
        obtain ⟨p1, hp1⟩ : ∃ p1, p1 = (ce l k).1 := ⟨_, rfl⟩
        obtain ⟨q1, hq1⟩ : ∃ q1, q1 = (ce l k).2 := ⟨_, rfl⟩
        rw [← hp1] at hi0 h49
        rw [← hq1] at hi1
        have HPQ : Hid ((digN (ce l k).1 7, (ce l k).2) = (digN p1 7, q1)) := Lib.hid (by rw [hp1, hq1])
        have CA : Calls Try.prog 106 #[.int .i64 p1] wr.drew fun e w3 => ∃ A3 c3, e = .returned (.slice A3 7 c3) ∧ (w3.cell? ⟨b, o + k * 2, none⟩ = some (.int .i64 p1) ∧ w3.cell? ⟨b, o + k * 2 + 1, none⟩ = some (.int .i64 q1)) ∧ Hid (OwnT w3 B wr.heap.size A5 k c5 (termsK (l.take k))) ∧ Hid (Own w3 wr.heap.size w3.heap.size A3 7 c3 (digN p1 7)) ∧ Hid (Below B w w3) ∧ Hid (wr.heap.size ≤ w3.heap.size) := by
          refine (l2Exp_any p1 wr.drew h49).mono ?_
          rintro e w3 ⟨A3, n3, c3, rfl, ho3, hb3⟩
          obtain rfl : 7 = n3 := by have := ho3.len; rw [digN_len] at this; exact this
          have hb3' : Below wr.heap.size wr w3 := (Below.refl wr.heap.size wr).drew.trans hb3
          exact ⟨A3, c3, rfl, ⟨(Below.cell hb3' (p := ⟨b, o + k * 2, none⟩) hb).trans hi0, (Below.cell hb3' (p := ⟨b, o + k * 2 + 1, none⟩) hb).trans hi1⟩, Lib.hid (HO5.out.below hb3' (Nat.le_refl _)), Lib.hid ho3, Lib.hid (HB5.out.trans (hb3'.mono HZ5.out)), Lib.hid hb3'.size⟩
        have HCA := Lib.hid CA
        have HK : Hid (b < B) := Lib.hid hbw
        clear hsr hs0 hp1 hq1 hb h49 CA hbw
        go_wp2_with fail
        go_region_held3 (fun w' => w'.cell? ⟨b, o + k * 2, none⟩ = some (.int .i64 p1) ∧ w'.cell? ⟨b, o + k * 2 + 1, none⟩ = some (.int .i64 q1))
          (first | go_keep | exact K3 | exact K5)
          (first
            | (refine step_appendT _ (by rfl) (.tmp 16) (.tmp 29) (by rfl) B wr.heap.size A5 k c5 (termsK (l.take k)) wr.heap.size w3.heap.size A3 7 c3 (digN p1 7) q1 w3.heap.size (by rfl) (by rfl) (Blk.new w3 _ _)
                 (HO3.out.below ((Below.refl w3.heap.size w3).alloc (Nat.le_refl _) _) HZ3.out) (HE3.out.below ((Below.refl w3.heap.size w3).alloc (Nat.le_refl _) _) (Nat.le_refl _)) HZ5.out (Nat.le_refl _) (by simp) (by have := HZ3.out; simp; omega) (by have := HZ3.out; have := HZ5.out; simp; omega) (by omega) ?_
               intro A6 c6 w6 ho6 hb6
               have hz3 : B ≤ w3.heap.size := Nat.le_trans HZ5.out HZ3.out
               have K5 : w6.cell? ⟨b, o + k * 2, none⟩ = some (.int .i64 p1) ∧ w6.cell? ⟨b, o + k * 2 + 1, none⟩ = some (.int .i64 q1) := by
                 have g3 := ((Below.refl B w3).alloc hz3 (.cells #[.slice A3 7 c3, .int .i64 q1] 60)).trans hb6
                 exact ⟨(Below.cell g3 (p := ⟨b, o + k * 2, none⟩) HK.out).trans K3.1, (Below.cell g3 (p := ⟨b, o + k * 2 + 1, none⟩) HK.out).trans K3.2⟩
               have HO6 := Lib.hid ho6
               have HB6 : Hid (Below B w w6) := Lib.hid ((HB3.out.alloc hz3 _).trans hb6)
               have HZ6 : Hid (B ≤ w6.heap.size) := Lib.hid (Nat.le_trans hz3 (Nat.le_trans (by simp) hb6.size))
               clear ho6 hb6 hz3)
            | (go_at_call 106
               with_reducible refine HCA.out.mono ?_
               rintro r3 w3 ⟨A3, c3, rfl, K3, HO3, HE3, HB3, HZ3⟩))
        go_wp2
        go_roundw
        case rel => exact ⟨A6, c6, k + 1, rfl, by go_num, by omega, by rw [HNX.out, HPQ.out]; exact HO6.out, HB6.out, HZ6.out⟩
        case measure => simp [intOf]; omega
      · have hkn : k = n := by omega
        subst hkn
        have HOL : Hid (OwnT wr B wr.heap.size A5 k c5 (termsK l)) := Lib.hid (by have := HO5.out; rwa [List.take_of_length_le (by rw [HL.out]; omega)] at this)
        have hP := specPolyOk_any A5 k c5 (termsK l) wr HOL.out.si (by omega) (fun j hj => by rw [termsK_exp (by rw [HOL.out.len]; exact hj)]; omega)
        obtain ⟨q, hq⟩ : ∃ q, q = polyB (termsK l) := ⟨_, rfl⟩
        rw [← hq] at hP
        have HQ := Lib.hid hq
        have HP := Lib.hid hP
        have HST : Hid (q = true → shutL l = termsK l) := Lib.hid (fun h => by unfold shutL; rw [← hq, if_pos h])
        have HSF : Hid (q = false → shutL l = []) := Lib.hid (fun h => by unfold shutL; rw [← hq, h]; rfl)
        clear hP hq
        cases q with
        | true =>
          go_wp2_with (go_at_call 52; refine HP.out.mono ?_; rintro e w7 ⟨rfl, hd7⟩; have HD7 := Lib.hid hd7; clear hd7)
          go_ret2
          rw [HST.out (by simp), ← HQ.out]
          refine ⟨A5, k, c5, rfl, ?_, by rw [← HB0.out]; exact HB5.out.trans (HD7.out.below _)⟩
          rw [← HB0.out]
          have := HOL.out.drawn HD7.out
          rwa [show w7.heap.size = wr.heap.size by rw [HD7.out.heap]]
        | false =>
          go_wp2_with (go_at_call 52; refine HP.out.mono ?_; rintro e w7 ⟨rfl, hd7⟩; have HD7 := Lib.hid hd7; clear hd7)
          go_ret2
          rw [HSF.out (by simp), ← HQ.out]
          exact ⟨none, 0, 0, rfl, OwnT.nil _ _ _, by rw [← HB0.out]; exact HB5.out.trans (HD7.out.below _)⟩
end Go.Proofs.Ytmndchhbafkbeaa

/-
  Variables exchanged, the document's side; the one list of terms with given coefficients. Conditions: lengths below 2^40.
-/

namespace Go.Proofs.Ytmndchhbafkbeaa
open Go.RowKit

theorem gatherL_keys : ∀ (l : List Mn) (u : Mn), u ∈ gatherL l → ∃ v ∈ l, u.1 = v.1
  | [], u, h => by simp [gatherL] at h
  | t :: l, u, h => by
    rcases addM_keys t (gatherL l) u h with e | ⟨x, hx, e⟩
    · exact ⟨t, List.mem_cons_self, e⟩
    · obtain ⟨v, hv, e2⟩ := gatherL_keys l x hx
      exact ⟨v, List.mem_cons_of_mem _ hv, e.trans e2⟩
theorem addM_len (t : Mn) : ∀ g : List Mn, (addM t g).length ≤ g.length + 1
  | [] => by unfold addM; split <;> simp
  | u :: g => by
    unfold addM
    split
    · split <;> simp
    · split
      · split <;> simp <;> omega
      · have := addM_len t g; simp; omega
theorem gatherL_len : ∀ l : List Mn, (gatherL l).length ≤ l.length
  | [] => by simp [gatherL]
  | t :: l => by have := gatherL_len l; have := addM_len t (gatherL l); show (addM t (gatherL l)).length ≤ _; simp; omega
theorem digN_nth (x : Int) {i j : Nat} (h : j < i) : nth (digN x i) j = x / unitI j % 128 := by
  rw [nth_get (by rw [digN_len]; exact h)]
  simp [digN]
theorem digN_key {e : List Int} (h : ex7 e) : digN (key7 e) 7 = e := by
  apply List.ext_getElem (by rw [digN_len, h.1])
  intro j h1 h2
  rw [← nth_get, ← nth_get]
  rw [digN_len] at h1
  rw [digN_nth _ h1, key7_at h h1]
theorem termsK_open {us : List Tm} (h : ∀ u ∈ us, ex7 u.1) : termsK (openM us) = us := by
  unfold termsK openM
  rw [List.map_map]
  conv => rhs; rw [← List.map_id us]
  apply List.map_congr_left
  intro u hu
  show (digN (key7 u.1) 7, u.2) = u
  rw [digN_key (h u hu)]
/-- Terms in descending order, none 0, with the coefficients of l: there is one such list. -/
theorem gather_open {us : List Tm} {l : List Mn} (hs : us.Pairwise fun a b => key7 b.1 < key7 a.1) (hc : ∀ u ∈ us, u.2 ≠ 0 ∧ in64 u.2) (hcf : ∀ k, eqm (cfL (openM us) k) (cfL l k)) : gatherL l = openM us := by
  refine (gatherL_one ⟨?_, fun t ht => ?_⟩ hcf).symm
  · unfold openM; rw [List.pairwise_map]; exact hs
  · unfold openM at ht
    obtain ⟨u, hu, rfl⟩ := List.mem_map.1 ht
    exact hc u hu
theorem shut_open {us : List Tm} (h : ∀ u ∈ us, ex7 u.1) : shutL (openM us) = if polyB us = true then us else [] := by unfold shutL; rw [termsK_open h]
theorem tm_mem {ts : List Tm} {k : Nat} (h : k < ts.length) : tm ts k ∈ ts := by
  unfold tm; simp [List.getD, h]
theorem mem_tm {ts : List Tm} {u : Tm} (h : u ∈ ts) : ∃ k, k < ts.length ∧ u = tm ts k := by
  obtain ⟨k, hk, e⟩ := List.mem_iff_getElem.1 h
  exact ⟨k, hk, by unfold tm; simp [List.getD, hk, e]⟩
theorem polyB_ex7 {ts : List Tm} (h : polyB ts = true) : ∀ u ∈ ts, ex7 u.1 := fun u hu => by
  obtain ⟨k, hk, rfl⟩ := mem_tm hu
  have := (goodT_iff _).1 (polyB_good h hk)
  exact smallE_ex7 this.1 this.2.1
theorem polyB_good' {ts : List Tm} (h : polyB ts = true) : ∀ u ∈ ts, goodT u = true := fun u hu => by
  obtain ⟨k, hk, rfl⟩ := mem_tm hu
  exact polyB_good h hk
theorem good_in64 {u : Tm} (h : goodT u = true) : u.2 ≠ 0 ∧ in64 u.2 := by
  have := (goodT_iff _).1 h
  refine ⟨this.2.2.1, ?_⟩
  unfold in64; omega
theorem polyB_desc {ts : List Tm} (h : polyB ts = true) : ts.Pairwise fun a b => key7 b.1 < key7 a.1 := by
  have step : ∀ k, k + 1 < ts.length → key7 (tm ts (k + 1)).1 < key7 (tm ts k).1 := fun k hk => by
    have := polyB_ok h hk
    simp [okAt] at this
    exact this.2
  have all : ∀ d i, i + d + 1 < ts.length → key7 (tm ts (i + d + 1)).1 < key7 (tm ts i).1 := by
    intro d
    induction d with
    | zero => intro i hi; exact step i hi
    | succ d ih => intro i hi; have h1 := ih i (by omega); have h2 := step (i + d + 1) (by omega); rw [show i + (d + 1) + 1 = i + d + 1 + 1 by omega]; omega
  rw [List.pairwise_iff_getElem]
  intro i j hi hj hij
  have := all (j - i - 1) i (by omega)
  rw [show i + (j - i - 1) + 1 = j by omega] at this
  have e : ∀ k (hk : k < ts.length), tm ts k = ts[k] := fun k hk => by unfold tm; simp [List.getD, hk]
  rwa [e j hj, e i hi] at this
theorem polyB_of {ts : List Tm} (hl : ts.length ≤ 600) (hg : ∀ u ∈ ts, goodT u = true) (hd : ts.Pairwise fun a b => key7 b.1 < key7 a.1) : polyB ts = true := by
  refine polyB_all hl fun k hk => ?_
  have e : ∀ k (hk : k < ts.length), tm ts k = ts[k] := fun k hk => by unfold tm; simp [List.getD, hk]
  have hgk := hg _ (tm_mem hk)
  cases k with
  | zero => exact okAt_zero hgk
  | succ k =>
    refine okAt_step hgk ?_
    rw [List.pairwise_iff_getElem] at hd
    have := hd k (k + 1) (by omega) hk (by omega)
    rw [e _ hk]
    show _ < key7 (tm ts k).1
    rw [e k (by omega)]
    exact this

/-- The polynomial with two variables, one behind the other, exchanged. -/
def swapPoly (ts : List Tm) (i : Int) : List Tm := if polyB ts = true ∧ 0 ≤ i ∧ i ≤ 5 then shutL (gatherL ((openM ts).map fun t => (swK t.1 i.toNat, t.2))) else []
theorem swapPoly_no {ts : List Tm} {i : Int} (h : ¬ (polyB ts = true ∧ 0 ≤ i ∧ i ≤ 5)) : swapPoly ts i = [] := by unfold swapPoly; rw [if_neg h]
theorem swapPoly_yes {ts : List Tm} {i : Nat} (h : polyB ts = true) (hi : i ≤ 5) : swapPoly ts i = shutL (gatherL ((openM ts).map fun t => (swK t.1 i, t.2))) := by
  unfold swapPoly; rw [if_pos ⟨h, by omega, by omega⟩, Int.toNat_natCast]
/-- A term with two exponents, one beside the other, exchanged. -/
def swE (e : List Int) (i : Nat) : List Int := putE e i (nth e (i + 1)) (nth e i)
theorem swK_key {e : List Int} (h : ex7 e) {i : Nat} (hi : i < 6) : swK (key7 e) i = key7 (swE e i) := by
  unfold swK swE
  rw [putE_key h.1 hi, key7_at h (by omega), key7_at h (by omega), Int.sub_mul, Int.sub_mul]
  omega
theorem swE_ex7 {e : List Int} (h : ex7 e) {i : Nat} (hi : i < 6) : ex7 (swE e i) := putE_ex7 h hi (h.2 _ (by omega)) (h.2 _ (by omega))
theorem open_in49 {ts : List Tm} (h : ∀ u ∈ ts, ex7 u.1) : ∀ t ∈ openM ts, in49 t.1 := fun t ht => by
  unfold openM at ht
  obtain ⟨u, hu, rfl⟩ := List.mem_map.1 ht
  exact key7_range (h u hu)
theorem open_in64 {ts : List Tm} (h : ∀ u ∈ ts, in64 u.2) : ∀ t ∈ openM ts, in64 t.2 := fun t ht => by
  unfold openM at ht
  obtain ⟨u, hu, rfl⟩ := List.mem_map.1 ht
  exact h u hu
/-- The same terms, each with its exponents exchanged. -/
def swT (ts : List Tm) (i : Nat) : List Tm := ts.map fun t => (swE t.1 i, t.2)
theorem open_swT {ts : List Tm} (h : ∀ u ∈ ts, ex7 u.1) {i : Nat} (hi : i < 6) : ((openM ts).map fun t => (swK t.1 i, t.2)) = openM (swT ts i) := by
  unfold openM swT
  rw [List.map_map, List.map_map]
  apply List.map_congr_left
  intro u hu
  show (swK (key7 u.1) i, u.2) = (key7 (swE u.1 i), u.2)
  rw [swK_key (h u hu) hi]
theorem swT_ex7 {ts : List Tm} (h : ∀ u ∈ ts, ex7 u.1) {i : Nat} (hi : i < 6) : ∀ u ∈ swT ts i, ex7 u.1 := fun u hu => by
  unfold swT at hu
  obtain ⟨t, ht, rfl⟩ := List.mem_map.1 hu
  exact swE_ex7 (h t ht) hi

set_option maxHeartbeats 400000 in
theorem l2Variable_any (i : Int) (w : World) : Calls Try.prog 53 #[.int .i64 i] w fun e w' => e = .returned (.bool (decide (0 ≤ i ∧ i ≤ 5))) ∧ w = w' := by
  by_cases h : 0 ≤ i ∧ i ≤ 5
  · rw [decide_eq_true h]
    obtain ⟨h0, h1⟩ := h
    go_enter Try.func53, Try.ntmps53
    go_wp2_with (go_at_call 68; refine (l1In_yes' h0 h1 _).mono ?_; rintro e w1 ⟨rfl, rfl⟩)
    go_ret
    exact ⟨rfl, rfl⟩
  · rw [decide_eq_false h]
    go_enter Try.func53, Try.ntmps53
    go_wp2_with (go_at_call 68; refine (l1In_no' (by omega) _).mono ?_; rintro e w1 ⟨rfl, rfl⟩)
    go_ret
    exact ⟨rfl, rfl⟩
end Go.Proofs.Ytmndchhbafkbeaa

/-
  Maps from exponents to coefficients: what they hold, a coefficient read, one put. Conditions: exponents from 0 to 127.
-/



namespace Go.Proofs.Ytmndchhbafkbeaa
open Go.RowKit
open Go.ChangeMaps (setBlock heap_setBlock_same heap_setBlock_other)
open Go.MapKept (Stamped stamped_iff)

/-- The coefficient that a list of terms, a term for each exponents, has. -/
def cfT : List Tm → List Int → Int
  | [], _ => 0
  | t :: M, e => if t.1 = e then t.2 else cfT M e
/-- .. with another coefficient at some exponents. -/
def putT : List Tm → List Int → Int → List Tm
  | [], e, x => [(e, x)]
  | t :: M, e, x => if t.1 = e then (e, x) :: M else t :: putT M e x
theorem putT_twice (e : List Int) (x y : Int) : ∀ M : List Tm, putT (putT M e x) e y = putT M e y
  | [] => if_pos rfl
  | t :: M => by
    by_cases h : t.1 = e
    · rw [show putT (t :: M) e x = (e, x) :: M from if_pos h, show putT (t :: M) e y = (e, y) :: M from if_pos h]
      exact if_pos rfl
    · rw [show putT (t :: M) e x = t :: putT M e x from if_neg h, show putT (t :: M) e y = t :: putT M e y from if_neg h, show putT (t :: putT M e x) e y = t :: putT (putT M e x) e y from if_neg h, putT_twice e x y M]
theorem putT_new {e : List Int} (x : Int) : ∀ {M : List Tm}, (∀ t ∈ M, t.1 ≠ e) → putT M e x = M ++ [(e, x)] ∧ cfT M e = 0
  | [], _ => ⟨rfl, rfl⟩
  | t :: M, h => by
    have ih := putT_new x (M := M) (fun u hu => h u (List.mem_cons_of_mem _ hu))
    unfold putT cfT
    rw [if_neg (h t List.mem_cons_self), if_neg (h t List.mem_cons_self), ih.1, ih.2]
    exact ⟨rfl, rfl⟩
theorem putT_old {e : List Int} (x : Int) : ∀ {M : List Tm} {j : Nat} {t : Tm}, (M.map (·.1)).Nodup → M[j]? = some t → t.1 = e → putT M e x = M.set j (e, x) ∧ cfT M e = t.2
  | [], j, t, _, h, _ => by simp at h
  | u :: M, 0, t, _, h, he => by
    simp at h; subst h
    unfold putT cfT
    rw [if_pos he, if_pos he]
    exact ⟨rfl, rfl⟩
  | u :: M, j + 1, t, hn, h, he => by
    simp at h
    obtain ⟨n1, n2⟩ := List.nodup_cons.1 hn
    have hne : ¬ u.1 = e := fun h2 => n1 (List.mem_map.2 ⟨t, List.mem_of_getElem? h, he.trans h2.symm⟩)
    have ih := putT_old x n2 h he
    unfold putT cfT
    rw [if_neg hne, if_neg hne, ih.1, ih.2]
    exact ⟨rfl, rfl⟩
theorem putT_cf {e : List Int} (x : Int) (k : Int) : ∀ M : List Tm, cfL (openM (putT M e x)) k = cfL (openM M) k + (if key7 e = k then x - cfT M e else 0)
  | [] => by
    show (if key7 e = k then x else 0) + 0 = 0 + (if key7 e = k then x - 0 else 0)
    split <;> omega
  | t :: M => by
    have ih := putT_cf (e := e) x k M
    unfold putT cfT
    split
    · rename_i h
      show (if key7 e = k then x else 0) + cfL (openM M) k = ((if key7 t.1 = k then t.2 else 0) + cfL (openM M) k) + (if key7 e = k then x - t.2 else 0)
      rw [h]
      split <;> omega
    · show (if key7 t.1 = k then t.2 else 0) + cfL (openM (putT M e x)) k = ((if key7 t.1 = k then t.2 else 0) + cfL (openM M) k) + _
      rw [ih]; omega
theorem putT_mem {e : List Int} {x : Int} : ∀ {M : List Tm} {t : Tm}, t ∈ putT M e x → t = (e, x) ∨ t ∈ M
  | [], t, h => by simp [putT] at h; exact .inl h
  | u :: M, t, h => by
    unfold putT at h
    split at h
    · rcases List.mem_cons.1 h with h | h
      · exact .inl h
      · exact .inr (List.mem_cons_of_mem _ h)
    · rcases List.mem_cons.1 h with h | h
      · exact .inr (by rw [h]; exact List.mem_cons_self)
      · rcases putT_mem h with h | h
        · exact .inl h
        · exact .inr (List.mem_cons_of_mem _ h)
theorem putT_len {e : List Int} {x : Int} : ∀ M : List Tm, (putT M e x).length ≤ M.length + 1
  | [] => by simp [putT]
  | t :: M => by
    unfold putT
    split
    · simp
    · have := putT_len (e := e) (x := x) M; simp; omega
theorem cfT_in {e : List Int} : ∀ {M : List Tm}, (∀ t ∈ M, in64 t.2) → in64 (cfT M e)
  | [], _ => by unfold cfT in64; omega
  | t :: M, h => by
    unfold cfT
    split
    · exact h t List.mem_cons_self
    · exact cfT_in fun u hu => h u (List.mem_cons_of_mem _ hu)

/-! ### keys -/
theorem Try.laidOut : laidOutB Try.prog = true := by kernel_rfl
theorem Try.rowExp : (79 : TypeId) < Try.prog.types.size := of_decide_eq_true (by kernel_rfl)
theorem Try.wideExp : (match Try.prog.underlying 79 with | some (.array _ _) | some (.struct _) => true | _ => false) = true := by rw [Try.undExp]
set_option maxRecDepth 100000 in
theorem Try.keyExp : Maps.Keyed Try.prog 79 := Maps.Keyed.of_law (deep_law_laid Try.laidOut (m := 2) (by omega) Try.rowExp (by kernel_rfl) Try.wideExp)
theorem Try.cellsExp : Try.prog.cellsOf 79 = 7 := by kernel_rfl
theorem Try.cellsInt : Try.prog.cellsOf 3 = 1 := by kernel_rfl
theorem Try.keyTExp : Try.prog.keyType 79 = true := by kernel_rfl
theorem Try.zeroInt (w : World) : (zeroValue 3).run Try.prog w = .ok (.int .i64 0) w := by kernel_rfl
theorem keyLits_int {d : Nat} {x : Int} (h : in64 x) : Try.prog.keyLits (d + 1) 3 [.int .i64 x] = some [.int .i64 x] := by
  unfold Program.keyLits
  rw [Try.underlying3]
  simp [WalkArith.wf_i64 h]
theorem keyLits_exp {d : Nat} {e : List Int} (h : ∀ k, k < 7 → in64 (nth e k)) : ∃ ls, Try.prog.keyLits (d + 2) 79 (arrC e).toList = some ls := by
  unfold Program.keyLits
  rw [Try.undExp]
  simp only [Try.cellsExp, Try.cellsInt]
  refine ⟨[.int .i64 (nth e 0), .int .i64 (nth e 1), .int .i64 (nth e 2), .int .i64 (nth e 3), .int .i64 (nth e 4), .int .i64 (nth e 5), .int .i64 (nth e 6)], ?_⟩
  simp [List.range_succ, List.mapM_cons, keyLits_int (h 0 (by omega)), keyLits_int (h 1 (by omega)), keyLits_int (h 2 (by omega)), keyLits_int (h 3 (by omega)), keyLits_int (h 4 (by omega)), keyLits_int (h 5 (by omega)), keyLits_int (h 6 (by omega))]
theorem keyOf_exp {e : List Int} (h : ex7 e) : ∃ kl, keyOf Try.prog 79 (arr e) = some kl := by
  obtain ⟨d, hd⟩ : ∃ d, Try.prog.types.size + 1 = d + 2 := ⟨Try.prog.types.size - 1, by have h0 : 0 < Try.prog.types.size := Nat.lt_of_le_of_lt (Nat.zero_le _) Try.rowExp; omega⟩
  obtain ⟨ls, hls⟩ := keyLits_exp (d := d) (e := e) (fun k hk => by have := h.2 k hk; unfold in64; omega)
  refine ⟨.string (keyBytes ls), ?_⟩
  unfold keyOf
  rw [Try.undExp]
  have hf : (arr e).formed Try.prog 79 = true := by simp [Value.formed, Try.cellsExp]
  have hc : (arr e).cells.toList = (arrC e).toList := by simp [Value.cells]
  simp only [Try.keyTExp, hf, hc, hd, hls, Bool.and_self, if_true, Option.map_some]
theorem arr_inj {e e' : List Int} (hl : e.length = 7) (hl' : e'.length = 7) (h : arr e = arr e') : e = e' := by
  have hk : ∀ k, k < 7 → nth e k = nth e' k := fun k hk => by
    simp only [Value.agg.injEq] at h
    have h1 := arrC_get e k hk
    rw [h, arrC_get e' k hk] at h1
    simp at h1
    exact h1.symm
  apply List.ext_getElem (by rw [hl, hl'])
  intro j h1 h2
  rw [← nth_get, ← nth_get]
  exact hk j (by omega)

/-! ### the map -/
abbrev kvE (x : MapEntry) : Value × Value := (x.key, x.val)
abbrev tvE (t : Tm) : Value × Value := (arr t.1, .int .i64 t.2)
def goodM (M : List Tm) : Prop := ∀ t ∈ M, ex7 t.1 ∧ in64 t.2
/-- Block b of w is a map that has the entries M. -/
def MapE (w : World) (b : Nat) (M : List Tm) : Prop :=
  ∃ es clock, w.heap[b]? = some (.map es clock) ∧ Stamped es clock ∧ es.toList.map kvE = M.map tvE ∧ goodM M
theorem get_rel {es : List MapEntry} {M : List Tm} (h : es.map kvE = M.map tvE) {j : Nat} {x : MapEntry} (hx : es[j]? = some x) : ∃ t, M[j]? = some t ∧ x.key = arr t.1 ∧ x.val = .int .i64 t.2 := by
  have h1 : (es.map kvE)[j]? = some (kvE x) := by rw [List.getElem?_map, hx]; rfl
  rw [h, List.getElem?_map] at h1
  cases ht : M[j]? with
  | none => rw [ht] at h1; simp at h1
  | some t =>
    rw [ht] at h1
    simp only [Option.map_some, Option.some.injEq, Prod.mk.injEq] at h1
    exact ⟨t, rfl, h1.1.symm, h1.2.symm⟩
theorem mem_rel {es : List MapEntry} {M : List Tm} (h : es.map kvE = M.map tvE) {x : MapEntry} (hx : x ∈ es) : ∃ t ∈ M, x.key = arr t.1 ∧ x.val = .int .i64 t.2 := by
  obtain ⟨j, hj⟩ := List.getElem?_of_mem hx
  obtain ⟨t, ht, h1, h2⟩ := get_rel h hj
  exact ⟨t, List.mem_of_getElem? ht, h1, h2⟩
theorem rel_mem {es : List MapEntry} {M : List Tm} (h : es.map kvE = M.map tvE) {t : Tm} (ht : t ∈ M) : ∃ x ∈ es, x.key = arr t.1 ∧ x.val = .int .i64 t.2 := by
  have : tvE t ∈ es.map kvE := by rw [h]; exact List.mem_map.2 ⟨t, ht, rfl⟩
  obtain ⟨x, hx, e⟩ := List.mem_map.1 this
  simp only [Prod.mk.injEq] at e
  exact ⟨x, hx, e.1, e.2⟩
theorem keys_rel {es : List MapEntry} {M : List Tm} (h : es.map kvE = M.map tvE) (hg : goodM M) : ∀ x ∈ es, ∃ l, keyOf Try.prog 79 x.key = some l := fun x hx => by
  obtain ⟨t, ht, e, _⟩ := mem_rel h hx
  rw [e]
  exact keyOf_exp (hg t ht).1
theorem nodup_rel {es : List MapEntry} {M : List Tm} (h : es.map kvE = M.map tvE) (hn : (es.map (·.key)).Nodup) : (M.map (·.1)).Nodup := by
  have e : es.map (·.key) = M.map (fun t => arr t.1) := by
    have := congrArg (List.map Prod.fst) h
    simpa [List.map_map, Function.comp_def] using this
  rw [e] at hn
  rw [List.Nodup, List.pairwise_map] at hn ⊢
  exact hn.imp fun h1 h2 => h1 (by rw [h2])
theorem MapE.good {w : World} {b : Nat} {M : List Tm} (h : MapE w b M) : goodM M := by obtain ⟨_, _, _, _, _, hg⟩ := h; exact hg
theorem MapE.nodup {w : World} {b : Nat} {M : List Tm} (h : MapE w b M) : (M.map (·.1)).Nodup := by
  obtain ⟨es, clock, _, hs, hm, _⟩ := h
  exact nodup_rel hm hs.2.2
theorem MapE.lt {w : World} {b : Nat} {M : List Tm} (h : MapE w b M) : b < w.heap.size := by
  obtain ⟨es, clock, hb, _⟩ := h
  exact (Array.getElem?_eq_some_iff.1 hb).1
theorem MapE.made (w : World) : MapE (w.alloc (.map #[] 0)) w.heap.size [] := ⟨#[], 0, (MapKept.heap_alloc w _).1, MapKept.stamped_empty 0, rfl, fun t ht => by simp at ht⟩
theorem MapE.same {w w' : World} {b : Nat} {M : List Tm} (h : MapE w b M) (e : w'.heap[b]? = w.heap[b]?) : MapE w' b M := by
  obtain ⟨es, clock, hb, rest⟩ := h
  exact ⟨es, clock, e.trans hb, rest⟩
theorem MapE.below {w w' : World} {b B : Nat} {M : List Tm} (h : MapE w b M) (hb : Below B w w') (hlt : b < B) : MapE w' b M := h.same (hb.block b hlt)
theorem MapE.alloc {w : World} {b : Nat} {M : List Tm} (h : MapE w b M) (o : Obj) : MapE (w.alloc o) b M := h.same ((MapKept.heap_alloc w o).2 b h.lt)
theorem MapE.kept {w w' : World} {b : Nat} {M : List Tm} {row : Option Nat} (h : MapE w b M) (hg : w.grownBy w' row) (hne : some b ≠ row) : MapE w' b M := h.same (hg.block b h.lt hne)
theorem MapE.drawn {w w' : World} {b : Nat} {M : List Tm} (h : MapE w b M) (hd : Drawn w w') : MapE w' b M := by obtain ⟨m, rfl⟩ := hd; exact h
theorem MapE.find {es : Array MapEntry} {clock : Nat} {M : List Tm} (hs : Stamped es clock) (hm : es.toList.map kvE = M.map tvE) (hg : goodM M) {e : List Int} (he : ex7 e) (w : World) :
    ((Instr.findKey 79 (arr e) es.toList).run Try.prog w = .ok none w ∧ (∀ x ∈ es.toList, x.key ≠ arr e) ∧ ∀ t ∈ M, t.1 ≠ e) ∨
    ∃ (j : Nat) (x : MapEntry) (t : Tm), (Instr.findKey 79 (arr e) es.toList).run Try.prog w = .ok (some (j, .int .i64 (cfT M e))) w ∧ es.toList[j]? = some x ∧ x.key = arr e ∧ x.val = .int .i64 (cfT M e) ∧ M[j]? = some t ∧ t.1 = e ∧ t.2 = cfT M e := by
  obtain ⟨kl, hk⟩ := keyOf_exp he
  rcases Try.keyExp.find w hk es.toList (keys_rel hm hg) with ⟨h1, h2⟩ | ⟨j, x, h1, h2, h3⟩
  · refine .inl ⟨h1, h2, fun t ht e1 => ?_⟩
    obtain ⟨x, hx, hxk, _⟩ := rel_mem hm ht
    exact h2 x hx (by rw [hxk, e1])
  · obtain ⟨t, ht, hk1, hv1⟩ := get_rel hm h2
    have hte : t.1 = e := arr_inj (hg t (List.mem_of_getElem? ht)).1.1 he.1 (by rw [← hk1, h3])
    have hc := (putT_old 0 (nodup_rel hm hs.2.2) ht hte).2
    refine .inr ⟨j, x, t, ?_, h2, h3, by rw [hv1, hc], ht, hte, hc.symm⟩
    rw [h1, hv1, hc]
theorem set_selfM {α : Type} : ∀ {l : List α} {j : Nat} {a : α}, l[j]? = some a → l.set j a = l
  | [], _, _, h => by simp at h
  | b :: r, 0, a, h => by simp at h; subst h; rfl
  | b :: r, j + 1, a, h => by
    simp only [List.getElem?_cons_succ] at h
    rw [List.set_cons_succ, set_selfM h]
theorem findIdx_arrM (xs : Array MapEntry) (p : MapEntry → Bool) : xs.findIdx? p = xs.toList.findIdx? p := by cases xs; simp
theorem findIdx_bornM {l : List MapEntry} (hn : (l.map (·.born)).Nodup) : ∀ {j : Nat} {x : MapEntry}, l[j]? = some x → l.findIdx? (fun e => ((e.born : Nat) : Int) == ((x.born : Nat) : Int)) = some j := by
  induction l with
  | nil => intro j x h; simp at h
  | cons a r ih =>
    intro j x h
    obtain ⟨n1, n2⟩ := List.nodup_cons.1 hn
    cases j with
    | zero =>
      simp only [List.getElem?_cons_zero, Option.some.injEq] at h
      subst h
      simp [List.findIdx?_cons]
    | succ j =>
      simp only [List.getElem?_cons_succ] at h
      have hne : a.born ≠ x.born := fun e1 => n1 (List.mem_map.2 ⟨x, List.mem_of_getElem? h, e1.symm⟩)
      have hb : (((a.born : Nat) : Int) == ((x.born : Nat) : Int)) = false := by
        simp only [beq_eq_false_iff_ne, ne_eq, Int.natCast_inj]
        exact hne
      rw [List.findIdx?_cons, hb]
      simp [ih n2 h]
/-- 'm[e]'. -/
theorem MapE.lookup {w : World} {b : Nat} {M : List Tm} (h : MapE w b M) {e : List Int} (he : ex7 e) :
    (Instr.lookup 88 (.map (some b)) (arr e) false).run Try.prog w = .ok (.int .i64 (cfT M e)) w := by
  obtain ⟨es, clock, hb, hs, hm, hg⟩ := h
  obtain ⟨kl, hk⟩ := keyOf_exp he
  rcases MapE.find hs hm hg he w with ⟨h1, _, h3⟩ | ⟨j, x, t, h1, _⟩
  · rw [(putT_new 0 h3).2]
    simp [Instr.lookup, run_underlying Try.underlying88, MapKept.run_getObj_map hb, Try.keyExp.check w _ hk, h1, Result.andThen]
  · simp [Instr.lookup, run_underlying Try.underlying88, MapKept.run_getObj_map hb, Try.keyExp.check w _ hk, h1, Result.andThen]
/-- .. with an entry for e that bears the stamp st. -/
def MapAt (w : World) (b : Nat) (M : List Tm) (e : List Int) (st : Nat) : Prop :=
  ∃ es clock, w.heap[b]? = some (.map es clock) ∧ Stamped es clock ∧ es.toList.map kvE = M.map tvE ∧ goodM M ∧ ∃ (j : Nat) (x : MapEntry), es.toList[j]? = some x ∧ x.key = arr e ∧ x.born = st
theorem MapAt.map {w : World} {b st : Nat} {M : List Tm} {e : List Int} (h : MapAt w b M e st) : MapE w b M := by
  obtain ⟨es, clock, hb, hs, hm, hg, _⟩ := h
  exact ⟨es, clock, hb, hs, hm, hg⟩
theorem MapAt.same {w w' : World} {b st : Nat} {M : List Tm} {e : List Int} (h : MapAt w b M e st) (e1 : w'.heap[b]? = w.heap[b]?) : MapAt w' b M e st := by
  obtain ⟨es, clock, hb, rest⟩ := h
  exact ⟨es, clock, e1.trans hb, rest⟩
theorem grown_setM {w : World} {b : Nat} {es : Array MapEntry} {clock : Nat} {o' : Obj} (hb : w.heap[b]? = some (.map es clock)) : w.grownBy (setBlock w b o') (some b) ∧ (setBlock w b o').heap.size = w.heap.size :=
  ⟨⟨rfl, rfl, rfl, by simp [setBlock], fun i _ hi => heap_setBlock_other hb _ (fun e => hi (by rw [e]))⟩, by simp [setBlock]⟩
theorem goodM_put {M : List Tm} (hg : goodM M) {e : List Int} (he : ex7 e) {x : Int} (hx : in64 x) : goodM (putT M e x) := fun t ht => by
  rcases putT_mem ht with rfl | ht
  · exact ⟨he, hx⟩
  · exact hg t ht
/-- 'm[e] += ..', its first half: the entry, made where there is none. -/
theorem MapE.entry {w : World} {b : Nat} {M : List Tm} (h : MapE w b M) {e : List Int} (he : ex7 e) :
    ∃ (st : Nat) (w1 : World), (Instr.mapEntry 88 (.map (some b)) (arr e)).run Try.prog w = .ok (.tuple #[.int .i64 (cfT M e), goInt st]) w1 ∧ MapAt w1 b (putT M e (cfT M e)) e st ∧ w.grownBy w1 (some b) ∧ w1.heap.size = w.heap.size := by
  obtain ⟨es, clock, hb, hs, hm, hg⟩ := h
  obtain ⟨kl, hk⟩ := keyOf_exp he
  have hin : in64 (cfT M e) := cfT_in fun t ht => (hg t ht).2
  rcases MapE.find hs hm hg he w with ⟨h1, h2, h3⟩ | ⟨j, x, t, h1, h2, h3, hv, ht, hte, htc⟩
  · obtain ⟨e1, e2⟩ := putT_new (cfT M e) h3
    refine ⟨clock, setBlock w b (.map (es.push ⟨arr e, .int .i64 0, clock⟩) (clock + 1)), ?_, ⟨_, _, heap_setBlock_same hb _, MapKept.stamped_push hs h2, ?_, goodM_put hg he hin, es.size, ⟨arr e, .int .i64 0, clock⟩, by simp, rfl, rfl⟩, (grown_setM hb).1, (grown_setM hb).2⟩
    · rw [e2]
      simp [Instr.mapEntry, run_underlying Try.underlying88, MapKept.run_getObj_map hb, Try.keyExp.check w false hk, h1, MapKept.run_setObj_map _ hb, Result.andThen, setBlock]
    · rw [e1, Array.toList_push, List.map_append, List.map_append, hm, e2]
      rfl
  · have hj : es[j]? = some x := by simpa using h2
    have hsame : es.modify j (fun e' => { e' with key := arr e }) = es := by
      apply Array.ext'
      rw [Array.toList_modify, ChangeMaps.modify_eq_set _ _ _ _ h2]
      have : ({ x with key := arr e } : MapEntry) = x := by rw [← h3]
      rw [this]
      exact set_selfM h2
    have hput : putT M e (cfT M e) = M := by
      rw [(putT_old (cfT M e) (nodup_rel hm hs.2.2) ht hte).1]
      have : ((e, cfT M e) : Tm) = t := Prod.ext hte.symm htc.symm
      rw [this]
      exact set_selfM ht
    refine ⟨x.born, setBlock w b (.map es clock), ?_, ⟨es, clock, heap_setBlock_same hb _, hs, by rw [hput]; exact hm, by rw [hput]; exact hg, j, x, h2, h3, rfl⟩, (grown_setM hb).1, (grown_setM hb).2⟩
    simp [Instr.mapEntry, run_underlying Try.underlying88, MapKept.run_getObj_map hb, Try.keyExp.check w false hk, h1, hj, h3, Try.keyExp.stays w hk, hsame, MapKept.run_setObj_map _ hb, Result.andThen, setBlock]
/-- .. its second half: the coefficient. -/
theorem MapAt.store {w : World} {b st : Nat} {M : List Tm} {e : List Int} (h : MapAt w b M e st) (he : ex7 e) {v : Int} (hv : in64 v) :
    ∃ w1, (Instr.entryStore 88 (.map (some b)) (goInt st) (.int .i64 v)).run Try.prog w = .ok () w1 ∧ MapE w1 b (putT M e v) ∧ w.grownBy w1 (some b) ∧ w1.heap.size = w.heap.size := by
  obtain ⟨es, clock, hb, hs, hm, hg, j, x, hj, hxk, rfl⟩ := h
  have hidx : es.findIdx? (fun e' => ((e'.born : Nat) : Int) == ((x.born : Nat) : Int)) = some j := by
    rw [findIdx_arrM]
    exact findIdx_bornM hs.2.1 hj
  obtain ⟨t, ht, hk1, hv1⟩ := get_rel hm hj
  have hte : t.1 = e := arr_inj (hg t (List.mem_of_getElem? ht)).1.1 he.1 (by rw [← hk1, hxk])
  have hput := (putT_old v (nodup_rel hm hs.2.2) ht hte).1
  refine ⟨setBlock w b (.map (es.modify j fun e' => { e' with val := .int .i64 v }) clock), ?_, ⟨_, _, heap_setBlock_same hb _, MapKept.stamped_modify hs j _ (fun _ _ => rfl) (fun _ _ _ => rfl), ?_, goodM_put hg he hv⟩, (grown_setM hb).1, (grown_setM hb).2⟩
  · simp [Instr.entryStore, MapKept.run_getObj_map hb, asInt, asIntOf, goInt, hidx, MapKept.run_setObj_map _ hb, Result.andThen, setBlock]
  · rw [Array.toList_modify, ChangeMaps.modify_eq_set _ _ _ _ hj, hput, List.map_set, List.map_set, hm]
    show (M.map tvE).set j (x.key, .int .i64 v) = (M.map tvE).set j (arr e, .int .i64 v)
    rw [hxk]

/-! ### ranging -/
/-- 'for e, c := range m' under way: block r is the iterator, 'done' has come. -/
def RangeE (w : World) (b r : Nat) (M done : List Tm) : Prop :=
  ∃ es clock since seen c0, w.heap[b]? = some (.map es clock) ∧ Stamped es clock ∧ es.toList.map kvE = M.map tvE ∧ goodM M ∧
    w.heap[r]? = some (.mapIter (some b) since seen c0) ∧ (∀ x ∈ es.toList, x.born < since) ∧ since ≤ c0 ∧ since ≤ clock ∧
    ∃ todo : List Tm, (leftOf es seen).toList.map kvE = todo.map tvE ∧ (done ++ todo).Perm M
section
variable {w w' : World} {b r : Nat} {M done : List Tm}
theorem RangeE.map (h : RangeE w b r M done) : MapE w b M := by
  obtain ⟨es, clock, _, _, _, hb, hs, hm, hg, _⟩ := h
  exact ⟨es, clock, hb, hs, hm, hg⟩
theorem RangeE.lt (h : RangeE w b r M done) : r < w.heap.size := by
  obtain ⟨es, clock, since, seen, c0, _, _, _, _, hr, _⟩ := h
  exact (Array.getElem?_eq_some_iff.1 hr).1
theorem RangeE.same (h : RangeE w b r M done) (e1 : w'.heap[b]? = w.heap[b]?) (e2 : w'.heap[r]? = w.heap[r]?) : RangeE w' b r M done := by
  obtain ⟨es, clock, since, seen, c0, hb, hs, hm, hg, hr, rest⟩ := h
  exact ⟨es, clock, since, seen, c0, e1.trans hb, hs, hm, hg, e2.trans hr, rest⟩
theorem RangeE.kept {row : Option Nat} (h : RangeE w b r M done) (hg : w.grownBy w' row) (h1 : some b ≠ row) (h2 : some r ≠ row) : RangeE w' b r M done :=
  h.same (hg.block b h.map.lt h1) (hg.block r h.lt h2)
theorem RangeE.below {B : Nat} (h : RangeE w b r M done) (hb : Below B w w') (h1 : b < B) (h2 : r < B) : RangeE w' b r M done := h.same (hb.block b h1) (hb.block r h2)
theorem RangeE.left_eq (h : RangeE w b r M done) : w.rangeLeft b r + done.length = M.length := by
  obtain ⟨es, clock, since, seen, c0, hb, _, _, _, hr, _, _, _, todo, ht, hp⟩ := h
  have e1 : w.rangeLeft b r = todo.length := by
    simp only [World.rangeLeft, hb, hr]
    have := congrArg List.length ht
    simpa using this
  have := hp.length_eq
  rw [List.length_append] at this
  omega
/-- 'range m'. -/
theorem MapE.range (h : MapE w b M) :
    ∃ w', (Instr.range 88 (.map (some b))).run Try.prog w = .ok (.pointer (some ⟨w.heap.size, 0, none⟩)) w' ∧ RangeE w' b w.heap.size M [] ∧ w.grownBy w' none ∧ w'.heap.size = w.heap.size + 1 := by
  have hlt := h.lt
  obtain ⟨es, clock, hb, hs, hm, hg⟩ := h
  refine ⟨_, run_range_map w _ _ _ b es clock Try.underlying88 hb, ⟨es, clock, clock, #[], clock, ((MapKept.heap_alloc w _).2 b hlt).trans hb, hs, hm, hg, (MapKept.heap_alloc w _).1, hs.1, Nat.le_refl _, Nat.le_refl _, M, ?_, by simp⟩, World.grownBy_alloc w _ none, by simp⟩
  have e0 : (leftOf es #[]).toList = es.toList := by
    unfold leftOf
    rw [Array.toList_filter]
    exact List.filter_eq_self.2 fun x _ => by simp
  rw [e0, hm]
theorem cut_born {x : MapEntry} : ∀ {L : List MapEntry}, (L.map (·.born)).Nodup → x ∈ L → ∃ l1 l2, L = l1 ++ x :: l2 ∧ L.filter (fun y => !(y.born == x.born)) = l1 ++ l2
  | [], _, h => by simp at h
  | y :: L, hn, h => by
    obtain ⟨n1, n2⟩ := List.nodup_cons.1 hn
    by_cases e : y = x
    · subst e
      refine ⟨[], L, rfl, ?_⟩
      rw [List.filter_cons_of_neg (by simp)]
      exact List.filter_eq_self.2 fun z hz => by
        have : z.born ≠ y.born := fun e => n1 (List.mem_map.2 ⟨z, hz, e⟩)
        simpa using this
    · have hx : x ∈ L := by rcases List.mem_cons.1 h with h | h; exact absurd h.symm e; exact h
      obtain ⟨l1, l2, e1, e2⟩ := cut_born n2 hx
      have hne : y.born ≠ x.born := fun e => n1 (List.mem_map.2 ⟨x, hx, e.symm⟩)
      refine ⟨y :: l1, l2, by rw [e1]; rfl, ?_⟩
      rw [List.filter_cons_of_pos (by simpa using hne), e2]
      rfl
/-- The step. -/
theorem RangeE.next (h : RangeE w b r M done) (ty : TypeId) :
    (done.Perm M ∧ (Instr.next (.pointer (some ⟨r, 0, none⟩)) false ty).run Try.prog w = .ok (.tuple #[.bool false]) w) ∨
    ∃ t w', t ∈ M ∧ (Instr.next (.pointer (some ⟨r, 0, none⟩)) false ty).run Try.prog w = .ok (.tuple #[.bool true, arr t.1, .int .i64 t.2]) w' ∧ RangeE w' b r M (done ++ [t]) ∧ done.length < M.length ∧
      w.grownBy w' (some r) ∧ w'.heap.size = w.heap.size ∧ (Instr.entry (.pointer (some ⟨r, 0, none⟩))).run Try.prog w' = .ok (.tuple #[arr t.1, .int .i64 t.2]) w' := by
  obtain ⟨es, clock, since, seen, c0, hb, hs, hm, hg, hr, hold, hsc, hsk, todo, ht, hp⟩ := h
  have hne : r ≠ b := by
    intro e
    rw [e, hb] at hr
    cases hr
  rcases run_next_at (P := Try.prog) w ty r b since c0 seen es clock hr hb hold hsc with ⟨h0, hrun⟩ | ⟨e, he, w1, hal, hrun⟩
  · refine .inl ⟨?_, hrun⟩
    have : todo = [] := by
      have := congrArg List.length ht
      simp [h0] at this
      exact List.eq_nil_of_length_eq_zero this.symm
    subst this
    simpa using hp
  · obtain ⟨hem, hes⟩ := mem_left he
    have hnL : ((leftOf es seen).toList.map (·.born)).Nodup := by
      unfold leftOf
      rw [Array.toList_filter]
      exact (List.filter_sublist.map _).nodup hs.2.1
    obtain ⟨l1, l2, e1, e2⟩ := cut_born hnL he
    rw [e1, List.map_append, List.map_cons] at ht
    obtain ⟨t1, t', rfl, ht1, ht'⟩ := List.map_eq_append_iff.1 ht.symm
    obtain ⟨t, t2, rfl, htv, ht2⟩ := List.map_eq_cons_iff.1 ht'
    simp only [Prod.mk.injEq] at htv
    have hr1 : w1.heap[r]? = some (.mapIter (some b) since seen c0) := by rcases hal with rfl | rfl <;> exact hr
    have hb1 : w1.heap[b]? = some (.map es clock) := by rcases hal with rfl | rfl <;> exact hb
    have hset := MapKept.heap_set (o' := .mapIter (some b) since (seen.push e.born) clock) hr1
    have hb' : (setBlock w1 r (.mapIter (some b) since (seen.push e.born) clock)).heap[b]? = some (.map es clock) := (hset.2 b (fun e1 => hne e1.symm)).trans hb1
    have htM : t ∈ M := hp.mem_iff.1 (by simp)
    rw [← htv.1, ← htv.2] at hrun
    refine .inr ⟨t, _, htM, hrun, ⟨es, clock, since, seen.push e.born, clock, hb', hs, hm, hg, hset.1, hold, hsk, hsk, t1 ++ t2, ?_, ?_⟩, ?_, ?_, ?_, ?_⟩
    · have e3 : (leftOf es (seen.push e.born)).toList = l1 ++ l2 := by
        rw [← e2]
        unfold leftOf
        rw [Array.toList_filter, Array.toList_filter, List.filter_filter]
        apply List.filter_congr
        intro y _
        rw [contains_push]
        cases seen.contains y.born <;> cases (y.born == e.born) <;> rfl
      rw [e3, List.map_append, List.map_append, ht1, ht2]
    · refine List.Perm.trans ?_ hp
      rw [List.append_assoc]
      refine List.Perm.append_left _ ?_
      simp only [List.singleton_append]
      exact (List.perm_middle).symm
    · have := hp.length_eq
      simp at this
      omega
    · rcases hal with rfl | rfl <;> exact ⟨rfl, rfl, rfl, by simp [setBlock], fun i _ hi => hset.2 i (fun e1 => hi (by rw [e1]))⟩
    · rcases hal with rfl | rfl <;> simp [setBlock]
    · rw [htv.1, htv.2]
      exact run_entry_at _ r b since seen es clock e hset.1 hb' hem hs.2.1
end

/-! ### at the operations -/
section
variable (w : World) {ops : Array Oper} {rest : List Oper} {o : Oper} {a : Act} {Q : Exit → Act → World → Prop} {b r : Nat} {M done : List Tm}
theorem wpList_rangeE (hg : o.guard = none) (m : Operand) (hop : o.op = Op.range 88 m) (hm : a.eval m = .map (some b)) (h : MapE w b M)
    (hK : ∀ w', RangeE w' b w.heap.size M [] → w.grownBy w' none → w'.heap.size = w.heap.size + 1 → wpList Try.prog ops Q rest (a.put o.dst (.pointer (some ⟨w.heap.size, 0, none⟩))) w') :
    wpList Try.prog ops Q (o :: rest) a w := by
  refine wpList_plain hg fun K' hK' => ?_
  obtain ⟨w', hrun, r1, r2, r3⟩ := h.range
  unfold Oper.wp
  simp [execOp, hop, hm, hrun, Result.andThen]
  exact hK' _ _ (hK w' r1 r2 r3)
theorem wpList_nextE (hg : o.guard = none) (it : Operand) (hop : o.op = Op.next it false) (hit : a.eval it = .pointer (some ⟨r, 0, none⟩)) (h : RangeE w b r M done)
    (hDone : done.Perm M → wpList Try.prog ops Q rest (a.put o.dst (.tuple #[.bool false])) w)
    (hMore : ∀ (t : Tm) (w' : World), t ∈ M → RangeE w' b r M (done ++ [t]) → done.length < M.length → w.grownBy w' (some r) → w'.heap.size = w.heap.size →
      (Instr.entry (.pointer (some ⟨r, 0, none⟩))).run Try.prog w' = .ok (.tuple #[arr t.1, .int .i64 t.2]) w' → wpList Try.prog ops Q rest (a.put o.dst (.tuple #[.bool true, arr t.1, .int .i64 t.2])) w') :
    wpList Try.prog ops Q (o :: rest) a w := by
  refine wpList_plain hg fun K' hK' => ?_
  unfold Oper.wp
  rcases h.next o.type with ⟨h0, hrun⟩ | ⟨t, w', ht, hrun, hrg, hlt, hgr, hsz, hen⟩
  · simp [execOp, hop, hit, hrun, Result.andThen]
    exact hK' _ _ (hDone h0)
  · simp [execOp, hop, hit, hrun, Result.andThen]
    exact hK' _ _ (hMore t w' ht hrg hlt hgr hsz hen)
end

/-! ### at the operations of a region that draws -/
/-- A map whose entries are M, but that there may be an entry 0 more, for e. -/
def MapL (w : World) (b : Nat) (M : List Tm) (e : List Int) : Prop := ∃ M1, MapE w b M1 ∧ cfT M1 e = cfT M e ∧ ∀ v, putT M1 e v = putT M e v
def MapT (w : World) (b : Nat) (M : List Tm) (e : List Int) (st : Nat) : Prop := ∃ M1, MapAt w b M1 e st ∧ cfT M1 e = cfT M e ∧ ∀ v, putT M1 e v = putT M e v
theorem MapE.toL {w : World} {b : Nat} {M : List Tm} (h : MapE w b M) (e : List Int) : MapL w b M e := ⟨M, h, rfl, fun _ => rfl⟩
theorem MapT.toL {w : World} {b st : Nat} {M : List Tm} {e : List Int} (h : MapT w b M e st) : MapL w b M e := by
  obtain ⟨M1, h1, h2⟩ := h
  exact ⟨M1, h1.map, h2⟩
theorem cfT_put (e : List Int) (x : Int) : ∀ M : List Tm, cfT (putT M e x) e = x
  | [] => if_pos rfl
  | t :: M => by
    by_cases h : t.1 = e
    · rw [show putT (t :: M) e x = (e, x) :: M from if_pos h]
      exact if_pos rfl
    · rw [show putT (t :: M) e x = t :: putT M e x from if_neg h, show cfT (t :: putT M e x) e = cfT (putT M e x) e from if_neg h, cfT_put e x M]
theorem MapL.lookup {w : World} {b : Nat} {M : List Tm} {e : List Int} (h : MapL w b M e) (he : ex7 e) :
    (Instr.lookup 88 (.map (some b)) (arr e) false).run Try.prog w = .ok (.int .i64 (cfT M e)) w := by
  obtain ⟨M1, h1, h2, _⟩ := h
  rw [← h2]
  exact h1.lookup he
theorem MapL.entry {w : World} {b : Nat} {M : List Tm} {e : List Int} (h : MapL w b M e) (he : ex7 e) :
    ∃ (st : Nat) (w1 : World), (Instr.mapEntry 88 (.map (some b)) (arr e)).run Try.prog w = .ok (.tuple #[.int .i64 (cfT M e), .int .i64 (st : Nat)]) w1 ∧ MapT w1 b M e st ∧ w.grownBy w1 (some b) ∧ w1.heap.size = w.heap.size := by
  obtain ⟨M1, h1, h2, h3⟩ := h
  obtain ⟨st, w1, hrun, k1, k2, k3⟩ := h1.entry he
  rw [← h2]
  exact ⟨st, w1, hrun, ⟨_, k1, by rw [cfT_put, h2], fun v => by rw [putT_twice, h3]⟩, k2, k3⟩
theorem MapT.store {w : World} {b st : Nat} {M : List Tm} {e : List Int} (h : MapT w b M e st) (he : ex7 e) {v : Int} (hv : in64 v) :
    ∃ w1, (Instr.entryStore 88 (.map (some b)) (.int .i64 (st : Nat)) (.int .i64 v)).run Try.prog w = .ok () w1 ∧ MapE w1 b (putT M e v) ∧ w.grownBy w1 (some b) ∧ w1.heap.size = w.heap.size := by
  obtain ⟨M1, h1, _, h3⟩ := h
  obtain ⟨w1, hrun, k1, k2, k3⟩ := h1.store he hv
  rw [h3] at k1
  exact ⟨w1, hrun, k1, k2, k3⟩
end Go.Proofs.Ytmndchhbafkbeaa

/-
  Sums, products and divided differences of lists of terms: plain lemmas. Conditions: exponents from 0 to 127.
-/

namespace Go.Proofs.Ytmndchhbafkbeaa
open Go.RowKit

theorem linL_app (f : Int → List Mn) (a b : List Mn) : linL f (a ++ b) = linL f a ++ linL f b := by simp [linL]
theorem scaleM_app (c : Int) (a b : List Mn) : scaleM c (a ++ b) = scaleM c a ++ scaleM c b := by simp [scaleM]
theorem openM_app (a b : List Tm) : openM (a ++ b) = openM a ++ openM b := by simp [openM]
theorem openM_perm {a b : List Tm} (h : a.Perm b) (k : Int) : cfL (openM a) k = cfL (openM b) k := cfL_perm (h.map _) k
theorem scale_congr (c : Int) {a b : List Mn} (h : ∀ k, eqm (cfL a k) (cfL b k)) (k : Int) : eqm (cfL (scaleM c a) k) (cfL (scaleM c b) k) :=
  (cfL_scale c k a).trans (((h k).mul_left c).trans (cfL_scale c k b).symm)
/-- The same coefficients. -/
def sameC (a b : List Mn) : Prop := ∀ k, eqm (cfL a k) (cfL b k)
theorem sameC.refl (a : List Mn) : sameC a a := fun _ => eqm.refl _
theorem sameC.symm {a b : List Mn} (h : sameC a b) : sameC b a := fun k => (h k).symm
theorem sameC.trans {a b c : List Mn} (h : sameC a b) (h' : sameC b c) : sameC a c := fun k => (h k).trans (h' k)
theorem sameC.app {a b c d : List Mn} (h : sameC a b) (h' : sameC c d) : sameC (a ++ c) (b ++ d) := fun k => by rw [cfL_app, cfL_app]; exact (h k).add (h' k)
theorem sameC.scale {a b : List Mn} (c : Int) (h : sameC a b) : sameC (scaleM c a) (scaleM c b) := scale_congr c h
theorem sameC.lin {a b : List Mn} (f : Int → List Mn) (h : sameC a b) : sameC (linL f a) (linL f b) := lin_congr f h
theorem sameC.gather {a b : List Mn} (h : sameC a b) : gatherL a = gatherL b := gatherL_congr h
theorem sameC.gath (a : List Mn) : sameC (gatherL a) a := fun k => gatherL_cf k a
theorem sameC.of_perm {a b : List Mn} (h : a.Perm b) : sameC a b := fun k => by rw [cfL_perm h]; exact eqm.refl _
theorem sameC.open {a b : List Tm} (h : a.Perm b) : sameC (openM a) (openM b) := sameC.of_perm (h.map _)
theorem sameC.swap (a b : List Mn) : sameC (a ++ b) (b ++ a) := sameC.of_perm List.perm_append_comm
theorem sameC.one {x y z : Int} (h : eqm y z) : sameC [(x, y)] [(x, z)] := fun k => by
  show eqm ((if x = k then y else 0) + 0) ((if x = k then z else 0) + 0)
  split
  · exact h.add (eqm.refl _)
  · exact eqm.refl _
/-- One coefficient added. -/
theorem put_same (M : List Tm) (e : List Int) (c : Int) : sameC (openM (putT M e (w64 (cfT M e + c)))) (openM M ++ [(key7 e, c)]) := fun k => by
  rw [putT_cf, cfL_app]
  show eqm _ (cfL (openM M) k + ((if key7 e = k then c else 0) + 0))
  have := w64_eqm (cfT M e + c)
  rw [eqm_iff] at *
  split <;> omega
/-- All products of a term of a and one of b. -/
def timesL (a b : List Mn) : List Mn := linL (fun x => b.map fun u => (x + u.1, u.2)) a
theorem cfL_shift (x k : Int) : ∀ b : List Mn, cfL (b.map fun u => (x + u.1, u.2)) k = cfL b (k - x)
  | [] => rfl
  | u :: b => by
    show (if x + u.1 = k then u.2 else 0) + cfL (b.map fun u => (x + u.1, u.2)) k = (if u.1 = k - x then u.2 else 0) + cfL b (k - x)
    rw [cfL_shift x k b]
    by_cases h : x + u.1 = k
    · rw [if_pos h, if_pos (by omega)]
    · rw [if_neg h, if_neg (by omega)]
theorem sameC.times {a a' b b' : List Mn} (ha : sameC a a') (hb : sameC b b') : sameC (timesL a b) (timesL a' b') := fun k =>
  (lin_congr _ ha k).trans ((cfL_lin _ k a').trans ((tot_F fun t _ => by rw [cfL_shift, cfL_shift]; exact hb _).trans (cfL_lin _ k a').symm))
/-- One term times those of a list. -/
def mulT (x c : Int) (l : List Mn) : List Mn := scaleM c (l.map fun u => (x + u.1, u.2))
theorem mulT_app (x c : Int) (a b : List Mn) : mulT x c (a ++ b) = mulT x c a ++ mulT x c b := by simp [mulT, scaleM]
theorem times_app (a b l : List Mn) : timesL (a ++ b) l = timesL a l ++ timesL b l := linL_app _ a b
theorem times_one (x c : Int) (l : List Mn) : timesL [(x, c)] l = mulT x c l := by simp [timesL, linL, mulT]
theorem sameC.mulT {a b : List Mn} (x c : Int) (h : sameC a b) : sameC (mulT x c a) (mulT x c b) := by
  refine sameC.scale c fun k => ?_
  rw [cfL_shift, cfL_shift]
  exact h _

/-- The keys of the divided difference of one term, and their sign. -/
def divK (x : Int) (i : Nat) : List Int :=
  (List.range (x / unitI i % 128 - x / unitI (i + 1) % 128).natAbs).map fun (j : Nat) =>
    x - x / unitI i % 128 * unitI i - x / unitI (i + 1) % 128 * unitI (i + 1) + (min (x / unitI i % 128) (x / unitI (i + 1) % 128) + (x / unitI i % 128 - x / unitI (i + 1) % 128).natAbs - 1 - j) * unitI i + (min (x / unitI i % 128) (x / unitI (i + 1) % 128) + j) * unitI (i + 1)
def sgK (x : Int) (i : Nat) : Int := if x / unitI i % 128 < x / unitI (i + 1) % 128 then -1 else 1
def divF (i : Nat) (x : Int) : List Mn := (divK x i).map fun y => (y, sgK x i)
def divL (i : Nat) (l : List Mn) : List Mn := linL (divF i) l
theorem divK_key {e : List Int} (h : ex7 e) {i : Nat} (hi : i < 6) : divK (key7 e) i = (ddE e i).map key7 := by
  unfold divK ddE
  rw [key7_at h (by omega), key7_at h (by omega), List.map_map]
  apply List.map_congr_left
  intro j _
  show _ = key7 (putE e i _ _)
  rw [putE_key h.1 hi]
theorem sgK_key {e : List Int} (h : ex7 e) {i : Nat} (hi : i < 6) : sgK (key7 e) i = ddS e i := by
  unfold sgK ddS
  rw [key7_at h (by omega), key7_at h (by omega)]
/-- No exponent above d. -/
def capE (d : Int) (M : List Tm) : Prop := ∀ t ∈ M, ∀ k, k < 7 → nth t.1 k ≤ d
theorem capE.nil (d : Int) : capE d [] := fun t ht => by simp at ht
theorem capE.mono {d d' : Int} {M : List Tm} (h : capE d M) (hd : d ≤ d') : capE d' M := fun t ht k hk => Int.le_trans (h t ht k hk) hd
theorem capE.put {d : Int} {M : List Tm} (h : capE d M) {e : List Int} (he : ∀ k, k < 7 → nth e k ≤ d) (x : Int) : capE d (putT M e x) := fun t ht k hk => by
  rcases putT_mem ht with rfl | ht
  · exact he k hk
  · exact h t ht k hk
end Go.Proofs.Ytmndchhbafkbeaa

/-
  The document's sums and products of lists of terms. Conditions: lengths whose product is below 2^30, keys below 2^50.
-/

namespace Go.Proofs.Ytmndchhbafkbeaa
open Go.RowKit

theorem scale_next {l : List Ce} (k : Int) {j : Nat} (h : j < l.length) : scaleM k (l.take (j + 1)) = scaleM k (l.take j) ++ [((ce l j).1, w64 (k * (ce l j).2))] := by
  rw [take_ce h, scaleM_app]; rfl
theorem mul_next {l : List Ce} (x c : Int) {j : Nat} (h : j < l.length) : mulT x c (l.take (j + 1)) = mulT x c (l.take j) ++ [(x + (ce l j).1, w64 (c * (ce l j).2))] := by
  rw [take_ce h, mulT_app]; rfl
theorem times_next {l b : List Ce} {j : Nat} (h : j < l.length) : timesL (l.take (j + 1)) b = timesL (l.take j) b ++ mulT (ce l j).1 (ce l j).2 b := by
  rw [take_ce h, times_app]
  congr 1
  exact times_one _ _ _
theorem mul_len (x c : Int) (l : List Mn) : (mulT x c l).length = l.length := by simp [mulT, scaleM]
theorem times_len : ∀ (a b : List Mn), (timesL a b).length = a.length * b.length
  | [], b => by simp [timesL, linL]
  | t :: a, b => by
    have e : timesL (t :: a) b = mulT t.1 t.2 b ++ timesL a b := by
      rw [show t :: a = [t] ++ a from rfl, times_app]
      congr 1
      exact times_one _ _ _
    rw [e, List.length_append, mul_len, times_len a b, List.length_cons, Nat.succ_mul]
    omega
theorem scale_in64 (k : Int) (l : List Mn) : ∀ t ∈ scaleM k l, in64 t.2 := fun t ht => by
  unfold scaleM at ht
  obtain ⟨u, _, rfl⟩ := List.mem_map.1 ht
  exact w64_in _
theorem lin_in64 (f : Int → List Mn) (l : List Mn) : ∀ t ∈ linL f l, in64 t.2 := fun t ht => by
  unfold linL at ht
  obtain ⟨u, _, h⟩ := List.mem_flatMap.1 ht
  exact scale_in64 _ _ t h
set_option maxRecDepth 100000 in
set_option maxHeartbeats 1000000 in
theorem l2Plus_any (A : Option Addr) (n c : Nat) (la : List Mn) (kk : Int) (A2 : Option Addr) (m c2 : Nat) (lb : List Mn) (w : World) (hs : MS w A n la) (hs2 : MS w A2 m lb) (hn : n ≤ 400000000) (hm : m ≤ 400000000) (h64 : ∀ t ∈ la, in64 t.2) :
    Calls Try.prog 64 #[.slice A n c, .int .i64 kk, .slice A2 m c2] w fun e w' => FreshM w w' e (gatherL (la ++ scaleM kk lb)) := by
  have HL := Lib.hid hs.1
  have HL2 := Lib.hid hs2.1
  have H64 := Lib.hid h64
  clear h64
  go_enter Try.func64, Try.ntmps64
  obtain ⟨B, hB⟩ : ∃ B, B = w.heap.size := ⟨_, rfl⟩
  have HB0 : Hid (B = w.heap.size) := Lib.hid hB
  go_wp2_with (refine wpList_cloneM rfl (.tmp 9) (.tmp 10) rfl w.heap.size (some ⟨w.heap.size, 0, none⟩) 0 A n c la rfl rfl (by simpa using OwnM.empty w) (hs.below ((Below.refl w.heap.size w).alloc (Nat.le_refl _) _) (Nat.le_refl _)) (by simp) (by omega) ?_; intro A1 c1 w1 ho1 hb1)
  rw [← hB] at ho1 hb1 ⊢
  have HB1 : Hid (Below B w w1) := Lib.hid (((Below.refl w.heap.size w).alloc (Nat.le_refl _) _ |>.mono (by rw [hB]; exact Nat.le_refl _)).trans hb1)
  have HO1 := Lib.hid ho1
  have HZ1 : Hid (B ≤ w1.heap.size) := Lib.hid (by have := HB1.out.size; omega)
  clear hb1 hs hB ho1
  go_loopw [7, 8] (fun lf jv wx => ∃ A5 c5 j, lf = .slice A5 (n + j) c5 ∧ jv = .int .i64 (j : Nat) ∧ j ≤ m ∧ OwnM wx B wx.heap.size A5 (n + j) c5 (la ++ scaleM kk (lb.take j)) ∧ Below B w wx ∧ B ≤ wx.heap.size)
    (fun _ jv _ => m - (intOf jv).toNat)
  case atStart => exact ⟨A1, c1, 0, rfl, rfl, Nat.zero_le _, by simpa [scaleM] using HO1.out, HB1.out, HZ1.out⟩
  case round =>
    obtain ⟨A5, c5, j, rfl, rfl, hj, ho5, hb5, hz5⟩ := hrel
    clear HO1 HB1 HZ1
    have HO5 := Lib.hid ho5
    have HB5 := Lib.hid hb5
    have HZ5 := Lib.hid hz5
    have hsr := hs2.below hb5 (by rw [← HB0.out]; exact Nat.le_refl _)
    have hs0 := hs2
    clear ho5 hb5 hz5 hs2
    by_cases hlt : j < m
    · have hltI : (j : Int) < (m : Int) := by omega
      have HNX := Lib.hid (scale_next (l := lb) kk (j := j) (by rw [HL2.out]; exact hlt))
      obtain ⟨b, o, rfl, hb, hi0, hi1⟩ := hsr.at_ (k := j) hlt
      have hbw : b < B := by
        obtain ⟨b2, o2, e2, hb2, _⟩ := hs0.at_ (k := j) hlt
        simp only [Option.some.injEq, Addr.mk.injEq, and_true] at e2
        rw [HB0.out, e2.1]; exact hb2
      clear hs0
      obtain ⟨p1, hp1⟩ : ∃ p1, p1 = (ce lb j).1 := ⟨_, rfl⟩
      obtain ⟨q1, hq1⟩ : ∃ q1, q1 = (ce lb j).2 := ⟨_, rfl⟩
      rw [← hp1] at hi0
      rw [← hq1] at hi1
      have HPQ : Hid (((ce lb j).1, w64 (kk * (ce lb j).2)) = (p1, w64 (kk * q1))) := Lib.hid (by rw [hp1, hq1])
      have HK : Hid (b < B) := Lib.hid hbw
      clear hsr hp1 hq1 hb hbw
      go_wp2_with fail
      go_region_held3 (fun w' => w'.cell? ⟨b, o + j * 2, none⟩ = some (.int .i64 p1) ∧ w'.cell? ⟨b, o + j * 2 + 1, none⟩ = some (.int .i64 q1))
        (first | go_keep | exact K5)
        (first
          | (refine step_appendM _ (by rfl) (.tmp 18) (.tmp 32) (by rfl) B wr.heap.size A5 (n + j) c5 (la ++ scaleM kk (lb.take j)) p1 (IntKind.i64.wrap (kk * q1)) wr.heap.size (by rfl) (by rfl) (Blk.new wr.drew _ _) (OwnM.below (w := wr.drew) (HO5.out.drawn ⟨1, rfl⟩) ((Below.refl wr.heap.size wr.drew).alloc (Nat.le_refl _) _) (Nat.le_refl _)) (by have := HZ5.out; simp; omega) (by omega) ?_
             intro A6 c6 w6 ho6 hb6
             have g3 : Below B wr w6 := (((Below.refl B wr).drew).alloc HZ5.out (.cells #[.int .i64 p1, .int .i64 (IntKind.i64.wrap (kk * q1))] 85)).trans hb6
             have K5 : w6.cell? ⟨b, o + j * 2, none⟩ = some (.int .i64 p1) ∧ w6.cell? ⟨b, o + j * 2 + 1, none⟩ = some (.int .i64 q1) :=
               ⟨(Below.cell g3 (p := ⟨b, o + j * 2, none⟩) HK.out).trans hi0, (Below.cell g3 (p := ⟨b, o + j * 2 + 1, none⟩) HK.out).trans hi1⟩
             have HO6 := Lib.hid ho6
             have HB6 : Hid (Below B w w6) := Lib.hid (HB5.out.trans g3)
             have HZ6 : Hid (B ≤ w6.heap.size) := Lib.hid (Nat.le_trans HZ5.out g3.size)
             clear ho6 hb6 g3))
      go_wp2
      go_roundw
      case rel => exact ⟨A6, c6, j + 1, rfl, by go_num, by omega, by rw [HNX.out, HPQ.out, ← List.append_assoc, ← wrap_w64]; exact HO6.out, HB6.out, HZ6.out⟩
      case measure => simp [intOf]; omega
    · have hjm : j = m := by omega
      subst hjm
      have HOL : Hid (OwnM wr B wr.heap.size A5 (n + j) c5 (la ++ scaleM kk lb)) := Lib.hid (by have := HO5.out; rwa [List.take_of_length_le (by rw [HL2.out]; omega)] at this)
      have HG := Lib.hid (specGather_any A5 (n + j) c5 _ wr HOL.out.si (by omega) (fun t ht => by
        rcases List.mem_append.1 ht with ht | ht
        · exact H64.out t ht
        · exact scale_in64 _ _ t ht))
      go_wp2_with (go_at_call 109; refine HG.out.mono ?_; rintro e w7 ⟨A7, n7, c7, rfl, ho7, hb7⟩; have HO7 := Lib.hid ho7; have HB7 := Lib.hid hb7; clear ho7 hb7)
      go_ret
      exact ⟨A7, n7, c7, rfl, HO7.out.wide (by rw [← HB0.out]; exact HZ5.out) (Nat.le_refl _), by rw [← HB0.out]; exact HB5.out.trans (HB7.out.mono HZ5.out)⟩

/-- Keys whose sum 51 bits hold. -/
def in50 (x : Int) : Prop := 0 ≤ x ∧ x < 1125899906842624
set_option maxRecDepth 100000 in
set_option maxHeartbeats 2000000 in
theorem l2Times_any (A : Option Addr) (n c : Nat) (la : List Mn) (A2 : Option Addr) (m c2 : Nat) (lb : List Mn) (w : World) (hs : MS w A n la) (hs2 : MS w A2 m lb) (hnm : n * m ≤ 1000000000) (hn : n ≤ 1000000000) (hm : m ≤ 1000000000)
    (ha : ∀ t ∈ la, in50 t.1) (hb : ∀ t ∈ lb, in50 t.1) :
    Calls Try.prog 73 #[.slice A n c, .slice A2 m c2] w fun e w' => FreshM w w' e (gatherL (timesL la lb)) := by
  have HL := Lib.hid hs.1
  have HL2 := Lib.hid hs2.1
  have HA50 := Lib.hid ha
  have HB50 := Lib.hid hb
  have HNM := Lib.hid hnm
  have hwm : IntKind.i64.wrap ((n : Int) * (m : Int)) = ((n * m : Nat) : Int) := by rw [← Int.natCast_mul]; exact IntWalk.i64_in _ (by omega)
  clear ha hb hnm
  go_enter Try.func73, Try.ntmps73
  obtain ⟨B, hB⟩ : ∃ B, B = w.heap.size := ⟨_, rfl⟩
  have HB0 : Hid (B = w.heap.size) := Lib.hid hB
  go_wp2_with (at_make; refine wpList_makeM rfl (.const (.int .i64 0)) (.tmp 12) rfl (n * m) rfl (by first | rfl | exact congrArg _ hwm) (by have := HNM.out; omega) ?_; intro w1 ho1 hb1; have HO1 := Lib.hid ho1; have HB1 := Lib.hid hb1; clear ho1 hb1)
  rw [← hB] at HO1 HB1 ⊢
  have HZ1 : Hid (B ≤ w1.heap.size) := Lib.hid (by have := HB1.out.size; omega)
  clear hB hwm
  go_loopw [5, 6] (fun lf iv wx => ∃ A5 c5 n5 i, lf = .slice A5 n5 c5 ∧ iv = .int .i64 (i : Nat) ∧ i ≤ n ∧ OwnM wx B wx.heap.size A5 n5 c5 (timesL (la.take i) lb) ∧ Below B w wx ∧ B ≤ wx.heap.size)
    (fun _ iv _ => n - (intOf iv).toNat)
  case atStart => exact ⟨_, _, 0, 0, rfl, rfl, Nat.zero_le _, by simpa [timesL, linL] using HO1.out, HB1.out, HZ1.out⟩
  case round =>
    obtain ⟨A5, c5, n5, i, rfl, rfl, hi, ho5, hb5, hz5⟩ := hrel
    clear HO1 HB1 HZ1
    have HO5 := Lib.hid ho5
    have HB5 := Lib.hid hb5
    have HZ5 := Lib.hid hz5
    clear ho5 hb5 hz5
    by_cases hlt : i < n
    · have hltI : (i : Int) < (n : Int) := by omega
      have HNX := Lib.hid (times_next (l := la) (b := lb) (j := i) (by rw [HL.out]; exact hlt))
      obtain ⟨b, o, rfl, hbw0, ha0, ha1⟩ := hs.at_ (k := i) hlt
      have hbw : b < B := by rw [HB0.out]; exact hbw0
      obtain ⟨x, hx⟩ : ∃ x, x = (ce la i).1 := ⟨_, rfl⟩
      obtain ⟨z, hz⟩ : ∃ z, z = (ce la i).2 := ⟨_, rfl⟩
      have hx50 : in50 x := by rw [hx]; exact HA50.out _ (ce_mem (by rw [HL.out]; exact hlt))
      rw [← hx] at ha0
      rw [← hz] at ha1
      have HXZ : Hid (mulT (ce la i).1 (ce la i).2 lb = mulT x z lb) := Lib.hid (by rw [hx, hz])
      have HK : Hid (b < B) := Lib.hid hbw
      have HSA := Lib.hid hs
      have hlen : n5 = i * m := by
        have := HO5.out.len
        rw [times_len, List.length_take, HL.out, HL2.out, Nat.min_eq_left (by omega)] at this
        exact this.symm
      have hbnd : i * m + m ≤ 1000000000 := by
        have h1 : (i + 1) * m ≤ n * m := Nat.mul_le_mul_right m hlt
        rw [Nat.succ_mul] at h1
        have := HNM.out
        omega
      have HLB : Hid (n5 + m ≤ 1000000000) := Lib.hid (by omega)
      clear hs hx hz hbw0 hbw hlen hbnd
      go_wp2_with fail
      go_loopw [5, 7] (fun lf jv wx => ∃ A5 c5 j, lf = .slice A5 (n5 + j) c5 ∧ jv = .int .i64 (j : Nat) ∧ j ≤ m ∧ OwnM wx B wx.heap.size A5 (n5 + j) c5 (timesL (la.take i) lb ++ mulT x z (lb.take j)) ∧ Below B w wx ∧ B ≤ wx.heap.size)
        (fun _ jv _ => m - (intOf jv).toNat)
      case atStart => exact ⟨A5, c5, 0, rfl, rfl, Nat.zero_le _, by simpa [mulT, scaleM] using HO5.out, HB5.out, HZ5.out⟩
      case round =>
        obtain ⟨A6, c6, j, rfl, rfl, hj, ho6, hb6, hz6⟩ := hrel
        clear HO5 HB5 HZ5
        have HO6 := Lib.hid ho6
        have HB6 := Lib.hid hb6
        have HZ6 := Lib.hid hz6
        have hsr := hs2.below hb6 (by rw [← HB0.out]; exact Nat.le_refl _)
        have hc0 := (Below.cell hb6 (p := ⟨b, o + i * 2, none⟩) HK.out).trans ha0
        have hc1 := (Below.cell hb6 (p := ⟨b, o + i * 2 + 1, none⟩) HK.out).trans ha1
        have hs0 := hs2
        clear ho6 hb6 hz6 hs2
        by_cases hlt2 : j < m
        · have hlt2I : (j : Int) < (m : Int) := by omega
          have HNX2 := Lib.hid (mul_next (l := lb) x z (j := j) (by rw [HL2.out]; exact hlt2))
          obtain ⟨b2, o2, rfl, hbb, hd0, hd1⟩ := hsr.at_ (k := j) hlt2
          have hbw : b2 < B := by
            obtain ⟨b3, o3, e3, hb3, _⟩ := hs0.at_ (k := j) hlt2
            simp only [Option.some.injEq, Addr.mk.injEq, and_true] at e3
            rw [HB0.out, e3.1]; exact hb3
          clear hs0
          obtain ⟨p1, hp1⟩ : ∃ p1, p1 = (ce lb j).1 := ⟨_, rfl⟩
          obtain ⟨q1, hq1⟩ : ∃ q1, q1 = (ce lb j).2 := ⟨_, rfl⟩
          have hp50 : in50 p1 := by rw [hp1]; exact HB50.out _ (ce_mem (by rw [HL2.out]; exact hlt2))
          rw [← hp1] at hd0
          rw [← hq1] at hd1
          have HPQ : Hid ((x + (ce lb j).1, w64 (z * (ce lb j).2)) = (x + p1, w64 (z * q1))) := Lib.hid (by rw [hp1, hq1])
          have HK2 : Hid (b2 < B) := Lib.hid hbw
          have hw1 : IntKind.i64.wrap (x + p1) = x + p1 := IntWalk.i64_in _ (by unfold in50 at *; omega)
          have hlb := HLB.out
          clear hsr hp1 hq1 hbb hbw ha0 ha1 hp50
          go_wp2_with fail
          go_region_held3 (fun w' => w'.cell? ⟨b, o + i * 2, none⟩ = some (.int .i64 x) ∧ w'.cell? ⟨b, o + i * 2 + 1, none⟩ = some (.int .i64 z) ∧ w'.cell? ⟨b2, o2 + j * 2, none⟩ = some (.int .i64 p1) ∧ w'.cell? ⟨b2, o2 + j * 2 + 1, none⟩ = some (.int .i64 q1))
            (first | go_keep | exact K5)
            (first
              | (refine step_appendM _ (by rfl) (.tmp 26) (.tmp 50) (by rfl) B wr.heap.size A6 (n5 + j) c6 (timesL (la.take i) lb ++ mulT x z (lb.take j)) (x + p1) (IntKind.i64.wrap (z * q1)) wr.heap.size (by rfl) (by rfl) (Blk.new wr.drew _ _) (OwnM.below (w := wr.drew) (HO6.out.drawn ⟨1, rfl⟩) ((Below.refl wr.heap.size wr.drew).alloc (Nat.le_refl _) _) (Nat.le_refl _)) (by have := HZ6.out; simp; omega) (by omega) ?_
                 intro A7 c7 w7 ho7 hb7
                 have g3 : Below B wr w7 := (((Below.refl B wr).drew).alloc HZ6.out (.cells #[.int .i64 (x + p1), .int .i64 (IntKind.i64.wrap (z * q1))] 85)).trans hb7
                 have K5 : w7.cell? ⟨b, o + i * 2, none⟩ = some (.int .i64 x) ∧ w7.cell? ⟨b, o + i * 2 + 1, none⟩ = some (.int .i64 z) ∧ w7.cell? ⟨b2, o2 + j * 2, none⟩ = some (.int .i64 p1) ∧ w7.cell? ⟨b2, o2 + j * 2 + 1, none⟩ = some (.int .i64 q1) :=
                   ⟨(Below.cell g3 (p := ⟨b, o + i * 2, none⟩) HK.out).trans hc0, (Below.cell g3 (p := ⟨b, o + i * 2 + 1, none⟩) HK.out).trans hc1, (Below.cell g3 (p := ⟨b2, o2 + j * 2, none⟩) HK2.out).trans hd0, (Below.cell g3 (p := ⟨b2, o2 + j * 2 + 1, none⟩) HK2.out).trans hd1⟩
                 have HO7 := Lib.hid ho7
                 have HB7 : Hid (Below B w w7) := Lib.hid (HB6.out.trans g3)
                 have HZ7 : Hid (B ≤ w7.heap.size) := Lib.hid (Nat.le_trans HZ6.out g3.size)
                 clear ho7 hb7 g3))
          go_wp2
          go_roundw
          case rel => exact ⟨A7, c7, j + 1, rfl, by go_num, by omega, by rw [HNX2.out, HPQ.out, ← List.append_assoc, ← wrap_w64]; exact HO7.out, HB7.out, HZ7.out⟩
          case measure => simp [intOf]; omega
        · have hjm : j = m := by omega
          subst hjm
          have HOL : Hid (OwnM wr B wr.heap.size A6 (n5 + j) c6 (timesL (la.take (i + 1)) lb)) := Lib.hid (by have := HO6.out; rw [show lb.take j = lb from List.take_of_length_le (by rw [HL2.out]; omega)] at this; rw [HNX.out, HXZ.out]; exact this)
          go_wp2_with fail
          go_roundw
          case rel => exact ⟨A6, c6, n5 + j, i + 1, rfl, by go_num, by omega, HOL.out, HB6.out, HZ6.out⟩
          case measure => simp [intOf]; omega
    · have hin : i = n := by omega
      subst hin
      have HOL : Hid (OwnM wr B wr.heap.size A5 n5 c5 (timesL la lb)) := Lib.hid (by have := HO5.out; rwa [List.take_of_length_le (by rw [HL.out]; omega)] at this)
      have HG := Lib.hid (specGather_any A5 n5 c5 _ wr HOL.out.si (by have := HOL.out.len; rw [times_len, HL.out, HL2.out] at this; have := HNM.out; omega) (lin_in64 _ _))
      go_wp2_with (go_at_call 109; refine HG.out.mono ?_; rintro e w7 ⟨A7, n7, c7, rfl, ho7, hb7⟩; have HO7 := Lib.hid ho7; have HB7 := Lib.hid hb7; clear ho7 hb7)
      go_ret
      exact ⟨A7, n7, c7, rfl, HO7.out.wide (by rw [← HB0.out]; exact HZ5.out) (Nat.le_refl _), by rw [← HB0.out]; exact HB5.out.trans (HB7.out.mono HZ5.out)⟩
end Go.Proofs.Ytmndchhbafkbeaa

/-
  The program's polynomial under construction: a coefficient added. Conditions: exponents from 0 to 127.
-/


namespace Go.Proofs.Ytmndchhbafkbeaa
open Go.RowKit

theorem Try.undSum : (Try.prog.info? 96).map (·.size) = some 1 := by kernel_rfl
/-- p points to a polynomial under construction whose map, block b, has the entries M. -/
def SumP (w : World) (g b : Nat) (M : List Tm) : Prop := Blk w g 96 #[.map (some b)] ∧ MapE w b M
theorem SumP.field {w : World} {g b : Nat} {M : List Tm} (h : SumP w g b M) : w.cell? ⟨g, 0, none⟩ = some (.map (some b)) := h.1.cell 0
theorem SumP.ne {w : World} {g b : Nat} {M : List Tm} (h : SumP w g b M) : g ≠ b := by
  rintro rfl
  obtain ⟨es, clock, hb, _⟩ := h.2
  have h1 := h.1
  unfold Blk at h1
  rw [hb] at h1
  cases h1
theorem load_map {w : World} {g b : Nat} (h : w.cell? ⟨g, 0, none⟩ = some (.map (some b))) : (loadVar 88 ⟨g, 0, none⟩).run Try.prog w = .ok (.map (some b)) w := by
  simp [loadVar, isAgg, underlying, Try.underlying88, h, Result.andThen]
theorem load_exp {w : World} {g : Nat} {e : List Int} (h : Blk w g 79 (arrC e)) : (loadVar 79 ⟨g, 0, none⟩).run Try.prog w = .ok (arr e) w :=
  run_loadVar_row w g 79 79 (arrC e) (0, 0) _ h Try.undExp rfl (by rw [Try.infoExp]; rfl)

theorem grown_of_drew {w w' : World} {row : Option Nat} (h : w.drew.grownBy w' row) : w.grownBy w' row := ⟨h.os, h.tape, h.output, h.size, h.block⟩
theorem cells7 {w : World} {g : Nat} {e : List Int} (h : Blk w g 79 (arrC e)) : w.cell? ⟨g, 0, none⟩ = some (.int .i64 (nth e 0)) ∧ w.cell? ⟨g, 1, none⟩ = some (.int .i64 (nth e 1)) ∧ w.cell? ⟨g, 2, none⟩ = some (.int .i64 (nth e 2)) ∧ w.cell? ⟨g, 3, none⟩ = some (.int .i64 (nth e 3)) ∧ w.cell? ⟨g, 4, none⟩ = some (.int .i64 (nth e 4)) ∧ w.cell? ⟨g, 5, none⟩ = some (.int .i64 (nth e 5)) ∧ w.cell? ⟨g, 6, none⟩ = some (.int .i64 (nth e 6)) :=
  ⟨h.cell 0, h.cell 1, h.cell 2, h.cell 3, h.cell 4, h.cell 5, h.cell 6⟩
set_option maxRecDepth 100000 in
set_option maxHeartbeats 1000000 in
theorem add_any (g b : Nat) (M : List Tm) (e : List Int) (c : Int) (w : World) (h : SumP w g b M) (he : ex7 e) :
    Calls Try.prog 114 #[.pointer (some ⟨g, 0, none⟩), arr e, .int .i64 c] w fun r w' => r = .returned (.tuple #[]) ∧ SumP w' g b (putT M e (w64 (cfT M e + c))) ∧ w.grownBy w' (some b) := by
  have HG := Lib.hid h.1.lt
  have HNE := Lib.hid h.ne
  have HE := Lib.hid he
  have HBL := Lib.hid h.2.lt
  have hb1 := h.1.alloc (.cells (arrC e) 79)
  have hb2 := Blk.new w 79 (arrC e)
  have HB1 := Lib.hid hb1
  have HB2 := Lib.hid hb2
  have KM0 := (h.2.alloc (.cells (arrC e) 79)).toL e
  have K0 : ∀ w', w' = (w.alloc (.cells (arrC e) 79)) ∨ w' = (w.alloc (.cells (arrC e) 79)).drew → w'.cell? ⟨g, 0, none⟩ = some (.map (some b)) ∧ w'.cell? ⟨w.heap.size, 0, none⟩ = some (.int .i64 (nth e 0)) ∧ w'.cell? ⟨w.heap.size, 1, none⟩ = some (.int .i64 (nth e 1)) ∧ w'.cell? ⟨w.heap.size, 2, none⟩ = some (.int .i64 (nth e 2)) ∧ w'.cell? ⟨w.heap.size, 3, none⟩ = some (.int .i64 (nth e 3)) ∧ w'.cell? ⟨w.heap.size, 4, none⟩ = some (.int .i64 (nth e 4)) ∧ w'.cell? ⟨w.heap.size, 5, none⟩ = some (.int .i64 (nth e 5)) ∧ w'.cell? ⟨w.heap.size, 6, none⟩ = some (.int .i64 (nth e 6)) := by
    rintro w' (rfl | rfl)
    · exact ⟨hb1.cell 0, cells7 hb2⟩
    · exact ⟨hb1.cell 0, cells7 hb2⟩
  have HM0 := Lib.hid KM0
  have HM1 : Hid (MapL (w.alloc (.cells (arrC e) 79)).drew b M e) := Lib.hid KM0
  have HK0 := Lib.hid K0
  clear K0 KM0 h he hb1 hb2
  go_enter Try.func114, Try.ntmps114
  go_wp2_with fail
  go_region_held3 (fun w' => w'.cell? ⟨g, 0, none⟩ = some (.map (some b)) ∧ w'.cell? ⟨w.heap.size, 0, none⟩ = some (.int .i64 (nth e 0)) ∧ w'.cell? ⟨w.heap.size, 1, none⟩ = some (.int .i64 (nth e 1)) ∧ w'.cell? ⟨w.heap.size, 2, none⟩ = some (.int .i64 (nth e 2)) ∧ w'.cell? ⟨w.heap.size, 3, none⟩ = some (.int .i64 (nth e 3)) ∧ w'.cell? ⟨w.heap.size, 4, none⟩ = some (.int .i64 (nth e 4)) ∧ w'.cell? ⟨w.heap.size, 5, none⟩ = some (.int .i64 (nth e 5)) ∧ w'.cell? ⟨w.heap.size, 6, none⟩ = some (.int .i64 (nth e 6)))
    (first | exact HK0.out _ (.inl rfl) | exact HK0.out _ (.inr rfl) | assumption | exact K5 | exact K6)
    (first
      | (rw [MapL.lookup (b := b) (M := M) (e := e) (by first | exact HM1.out | exact HM0.out | assumption) HE.out]; simp only [Result.andThen, Oper.upon_value])
      | (obtain ⟨st, w6, hrun6, hat6, hg6, hs6⟩ := MapL.entry (b := b) (M := M) (e := e) (w := _) HM1.out HE.out
         rw [hrun6]; simp only [Result.andThen, Oper.upon_value]
         have hl6 := hat6.toL
         have hb6 : Blk w6 g 96 #[.map (some b)] := Blk.grown (w := (w.alloc (.cells (arrC e) 79)).drew) HB1.out hg6 (fun h => HNE.out (Option.some.inj h))
         have ha6 : Blk w6 w.heap.size 79 (arrC e) := Blk.grown (w := (w.alloc (.cells (arrC e) 79)).drew) HB2.out hg6 (fun h => Nat.ne_of_gt HBL.out (Option.some.inj h))
         have K5 : w6.cell? ⟨g, 0, none⟩ = some (.map (some b)) ∧ w6.cell? ⟨w.heap.size, 0, none⟩ = some (.int .i64 (nth e 0)) ∧ w6.cell? ⟨w.heap.size, 1, none⟩ = some (.int .i64 (nth e 1)) ∧ w6.cell? ⟨w.heap.size, 2, none⟩ = some (.int .i64 (nth e 2)) ∧ w6.cell? ⟨w.heap.size, 3, none⟩ = some (.int .i64 (nth e 3)) ∧ w6.cell? ⟨w.heap.size, 4, none⟩ = some (.int .i64 (nth e 4)) ∧ w6.cell? ⟨w.heap.size, 5, none⟩ = some (.int .i64 (nth e 5)) ∧ w6.cell? ⟨w.heap.size, 6, none⟩ = some (.int .i64 (nth e 6)) := ⟨hb6.cell 0, cells7 ha6⟩
         have HB6 := Lib.hid hb6
         have HA6 := Lib.hid ha6
         have HG6 := Lib.hid hg6
         clear hb6 ha6 hg6)
      | (obtain ⟨w7, hrun7, hm7, hg7, hs7⟩ := MapT.store hat6 HE.out (w64_in (cfT M e + c))
         rw [wrap_w64, hrun7]; simp only [Result.andThen, Oper.upon_skip]
         have hb7 : Blk w7 g 96 #[.map (some b)] := HB6.out.grown hg7 (fun h => HNE.out (Option.some.inj h))
         have ha7 : Blk w7 w.heap.size 79 (arrC e) := HA6.out.grown hg7 (fun h => Nat.ne_of_gt HBL.out (Option.some.inj h))
         have K6 : w7.cell? ⟨g, 0, none⟩ = some (.map (some b)) ∧ w7.cell? ⟨w.heap.size, 0, none⟩ = some (.int .i64 (nth e 0)) ∧ w7.cell? ⟨w.heap.size, 1, none⟩ = some (.int .i64 (nth e 1)) ∧ w7.cell? ⟨w.heap.size, 2, none⟩ = some (.int .i64 (nth e 2)) ∧ w7.cell? ⟨w.heap.size, 3, none⟩ = some (.int .i64 (nth e 3)) ∧ w7.cell? ⟨w.heap.size, 4, none⟩ = some (.int .i64 (nth e 4)) ∧ w7.cell? ⟨w.heap.size, 5, none⟩ = some (.int .i64 (nth e 5)) ∧ w7.cell? ⟨w.heap.size, 6, none⟩ = some (.int .i64 (nth e 6)) := ⟨hb7.cell 0, cells7 ha7⟩
         have HB7 := Lib.hid hb7
         have HM7 := Lib.hid hm7
         have HG7 : Hid (w.grownBy w7 (some b)) := Lib.hid (((World.grownBy_alloc w _ _).trans (grown_of_drew HG6.out)).trans hg7)
         clear hb7 ha7 hm7 hg7))
  all_goals
    go_end0
    exact ⟨rfl, ⟨HB7.out, HM7.out⟩, HG7.out⟩
end Go.Proofs.Ytmndchhbafkbeaa

/-
  The program's polynomials under construction: a new one, one added so many times. Conditions: exponents from 0 to 127.
-/


namespace Go.Proofs.Ytmndchhbafkbeaa
open Go.RowKit

theorem SumP.kept {w w' : World} {g b : Nat} {M : List Tm} {row : Option Nat} (h : SumP w g b M) (hg : w.grownBy w' row) (h1 : some g ≠ row) (h2 : some b ≠ row) : SumP w' g b M := ⟨h.1.grown hg h1, h.2.kept hg h2⟩
theorem SumP.below {w w' : World} {g b B : Nat} {M : List Tm} (h : SumP w g b M) (hb : Below B w w') (h1 : g < B) (h2 : b < B) : SumP w' g b M := ⟨h.1.below hb h1, h.2.below hb h2⟩
theorem SumP.alloc {w : World} {g b : Nat} {M : List Tm} (h : SumP w g b M) (o : Obj) : SumP (w.alloc o) g b M := ⟨h.1.alloc o, h.2.alloc o⟩
theorem SumP.ne_map {w : World} {g b b' : Nat} {M M' : List Tm} (h : SumP w g b M) (h' : MapE w b' M') : g ≠ b' := by
  rintro rfl
  obtain ⟨es, clock, hb, _⟩ := h'
  have h1 := h.1
  unfold Blk at h1
  rw [hb] at h1
  cases h1
theorem grown_then {a b' c : World} {row row' : Option Nat} (h : a.grownBy b' row) (k : b'.grownBy c row') (hr : ∀ j, row' = some j → a.heap.size ≤ j ∨ row = some j) : a.grownBy c row := h.andThen k hr
theorem grown_belowM {w w' : World} {row : Option Nat} (h : w.grownBy w' row) {B : Nat} (hB : B ≤ w.heap.size) (hr : ∀ g, row = some g → B ≤ g) : Below B w w' := grow_below h hB hr

theorem wrap64_w64 (x : Int) : wrap64 x = w64 x := by
  unfold wrap64 w64
  rw [Int.bmod_def]
  split <;> omega
set_option maxHeartbeats 400000 in
theorem newSum_any (w : World) : Calls Try.prog 110 #[] w fun r w' => ∃ g b, r = .returned (.pointer (some ⟨g, 0, none⟩)) ∧ SumP w' g b [] ∧ w.heap.size ≤ g ∧ w.heap.size ≤ b ∧ Below w.heap.size w w' := by
  have hmm := @run_makeMap Try.prog
  go_enter Try.func110, Try.ntmps110
  go_wp2
  go_ret
  refine ⟨_, w.heap.size, rfl, ⟨?_, (MapE.made w).alloc _⟩, by omega, Nat.le_refl _, (((Below.refl _ _).alloc (Nat.le_refl _) _).alloc (by simp) _)⟩
  have := Blk.new (w.alloc (.map #[] 0)) 96 #[.map (some w.heap.size)]
  simpa using this

set_option maxRecDepth 100000 in
set_option maxHeartbeats 1000000 in
theorem addTimes_any (gp bp gq bq : Nat) (Mp Mq : List Tm) (kk : Int) (d : Int) (w : World) (hp : SumP w gp bp Mp) (hq : SumP w gq bq Mq) (hne : bp ≠ bq) (hcp : capE d Mp) (hcq : capE d Mq) :
    Calls Try.prog 71 #[.pointer (some ⟨gp, 0, none⟩), .int .i64 kk, .pointer (some ⟨gq, 0, none⟩)] w fun r w' => r = .returned (.tuple #[]) ∧
      ∃ M', SumP w' gp bp M' ∧ sameC (openM M') (openM Mp ++ scaleM kk (openM Mq)) ∧ capE d M' ∧ w.grownBy w' (some bp) := by
  have hf := hq.field
  have HQ := Lib.hid hq.2
  have HP := Lib.hid hp
  have HCP := Lib.hid hcp
  have HCQ := Lib.hid hcq
  have HG1 := Lib.hid (hp.ne_map hq.2)
  have HG2 := Lib.hid hp.ne
  have HL := Lib.hid hp.2.lt
  have HLQ := Lib.hid hq.2.lt
  have HLG := Lib.hid hp.1.lt
  have HGD := Lib.hid hq.2.good
  have HNE := Lib.hid hne
  clear hp hq hcp hcq hne
  go_enter Try.func71, Try.ntmps71
  go_wp2_with (first
    | (at_range; refine wpList_rangeE _ rfl _ rfl rfl HQ.out ?_; intro w0 hrg0 hg0 hs0)
    | go_in)
  go_frame
  have HR0 := Lib.hid hrg0
  have HG0 := Lib.hid hg0
  clear hrg0 hg0 hs0
  go_loopw [13] (fun _ wr => ∃ M' done, SumP wr gp bp M' ∧ RangeE wr bq w.heap.size Mq done ∧ sameC (openM M') (openM Mp ++ scaleM kk (openM done)) ∧ capE d M' ∧ w.grownBy wr (some bp))
    (fun _ wr => wr.rangeLeft bq w.heap.size)
  case atStart => exact ⟨Mp, [], HP.out.kept HG0.out (by simp) (by simp), HR0.out, by simpa [scaleM, openM] using sameC.refl _, HCP.out, HG0.out.but _⟩
  case round =>
    obtain ⟨M', done, hs, hrg, hsame, hcap, hgw⟩ := hrel
    clear HR0 HG0
    have HS := Lib.hid hs
    have HSM := Lib.hid hsame
    have HCA := Lib.hid hcap
    have HGW := Lib.hid hgw
    have HRG := Lib.hid hrg
    clear hs hsame hcap hgw hrg
    go_wp2_with (first
      | (at_next; refine wpList_nextE _ rfl _ rfl rfl HRG.out ?_ ?_)
      | go_in)
    · intro hdone
      have HD := Lib.hid hdone
      clear hdone
      go_wp2
      go_end0
      exact ⟨rfl, M', HS.out, HSM.out.trans ((sameC.refl _).app ((sameC.open HD.out).scale kk)), HCA.out, HGW.out⟩
    · intro e c w1 htM hrg1 hlt hg1 hs1 hen
      have hex : ex7 e := (HGD.out _ htM).1
      have HEX := Lib.hid hex
      have HCT : Hid (∀ k, k < 7 → nth e k ≤ d) := Lib.hid (HCQ.out _ htM)
      have HLT := Lib.hid hlt
      have HR1 := Lib.hid hrg1
      have HG1' := Lib.hid hg1
      have HS1 := Lib.hid hs1
      clear hrg1 hlt hg1 hs1 hex htM
      have HC1 : Hid (SumP (w1.alloc (.cells (arrC e) 79)) gp bp M') := Lib.hid ((HS.out.kept HG1'.out (fun h => by injection h with h; have := HLG.out; omega) (fun h => by injection h with h; have := HL.out; omega)).alloc _)
      have HC2 : Hid (RangeE (w1.alloc (.cells (arrC e) 79)) bq w.heap.size Mq (done ++ [(e, c)])) := Lib.hid (HR1.out.kept (World.grownBy_alloc _ _ none) (by simp) (by simp))
      have HC3 : Hid (w.grownBy (w1.alloc (.cells (arrC e) 79)) (some bp)) := Lib.hid (grown_then (grown_then HGW.out HG1'.out (fun j hj => by injection hj with hj; exact .inl (by omega))) (World.grownBy_alloc _ _ none) (by simp))
      go_wp2_with (go_at_call 114; refine (add_any gp bp M' e (wrap64 (kk * c)) _ HC1.out HEX.out).mono ?_; rintro r w5 ⟨rfl, hs5, hg5⟩; have HS5 := Lib.hid hs5; have HG5 := Lib.hid hg5; clear hs5 hg5)
      have HR5 := HC2.out.kept HG5.out (fun h => by injection h with h; exact HNE.out h.symm) (fun h => by injection h with h; have := HL.out; omega)
      go_roundw
      case rel =>
        refine ⟨_, _, HS5.out, HR5, ?_, HCA.out.put HCT.out _, grown_then HC3.out HG5.out (fun j hj => .inr hj)⟩
        refine (put_same _ _ _).trans ?_
        rw [wrap64_w64, openM_app, scaleM_app, ← List.append_assoc]
        exact HSM.out.app (sameC.refl _)
      case measure =>
        have h1 := HR5.left_eq
        have h2 := HRG.out.left_eq
        have h3 := HLT.out
        rw [List.length_append] at h1
        simp at h1
        omega
end Go.Proofs.Ytmndchhbafkbeaa

/-
  The document's divided differences. Conditions: keys below 2^49, lengths below 7000000.
-/




namespace Go.Proofs.Ytmndchhbafkbeaa
open Go.RowKit

theorem w64_self {x : Int} (h : in64 x) : w64 x = x := eqm_in (w64_eqm x) (w64_in x) h
/-- What has come of one term after j rounds of the document. -/
def dvP (x a b U V C : Int) (N : Nat) (j : Nat) : List Mn := (List.range j).map fun (m : Nat) => (x - a * U - b * V + (min a b + N - 1 - m) * U + (min a b + m) * V, C)
theorem dvP_next (x a b U V C : Int) (N j : Nat) : dvP x a b U V C N (j + 1) = dvP x a b U V C N j ++ [(x - a * U - b * V + (min a b + N - 1 - j) * U + (min a b + j) * V, C)] := by
  unfold dvP; rw [List.range_succ, List.map_append]; rfl
theorem dvP_len (x a b U V C : Int) (N j : Nat) : (dvP x a b U V C N j).length = j := by simp [dvP]
theorem dvP_all {x z a b U V C : Int} {i N : Nat} (ha : a = x / unitI i % 128) (hb : b = x / unitI (i + 1) % 128) (hU : U = unitI i) (hV : V = unitI (i + 1)) (hN : N = (a - b).natAbs) (hz : in64 z) (hC : C = if a < b then w64 (0 - z) else z) :
    dvP x a b U V C N N = scaleM z (divF i x) := by
  unfold divF divK scaleM dvP
  rw [List.map_map, List.map_map, ← ha, ← hb, ← hU, ← hV, hN]
  apply List.map_congr_left
  intro m _
  show _ = ((_ : Int), w64 (z * sgK x i))
  unfold sgK
  rw [← ha, ← hb, hC]
  split
  · rw [Int.mul_neg_one, Int.zero_sub]
  · rw [Int.mul_one, w64_self hz]
theorem div_next {l : List Ce} (i : Nat) {k : Nat} (h : k < l.length) : divL i (l.take (k + 1)) = divL i (l.take k) ++ scaleM (ce l k).2 (divF i (ce l k).1) := by
  unfold divL
  rw [take_ce h, linL_app]
  congr 1
  simp [linL]
theorem divF_len (i : Nat) (x : Int) : (divF i x).length ≤ 127 := by
  unfold divF divK
  rw [List.length_map, List.length_map, List.length_range]
  omega
theorem div_len (i : Nat) : ∀ l : List Mn, (divL i l).length ≤ 127 * l.length
  | [] => by simp [divL, linL]
  | t :: l => by
    have ih := div_len i l
    have h := divF_len i t.1
    have e : divL i (t :: l) = scaleM t.2 (divF i t.1) ++ divL i l := rfl
    rw [e, List.length_append, List.length_cons]
    simp [scaleM]
    omega
set_option maxRecDepth 100000 in
set_option maxHeartbeats 4000000 in
theorem l2Divided_any (A : Option Addr) (n c : Nat) (l : List Mn) (i : Nat) (w : World) (hs : MS w A n l) (hn : n ≤ 7000000) (hi : i < 6) (h49 : ∀ t ∈ l, in49 t.1) (h64 : ∀ t ∈ l, in64 t.2) :
    Calls Try.prog 55 #[.slice A n c, .int .i64 i] w fun e w' => FreshM w w' e (gatherL (divL i l)) := by
  have HL := Lib.hid hs.1
  have H49 := Lib.hid h49
  have H64 := Lib.hid h64
  clear h49 h64
  obtain ⟨U, hU⟩ : ∃ U, U = unitI i := ⟨_, rfl⟩
  obtain ⟨V, hV⟩ : ∃ V, V = unitI (i + 1) := ⟨_, rfl⟩
  have uU := unitI_pos (i := i) (by omega)
  have uV := unitI_pos (i := i + 1) (by omega)
  rw [← hU] at uU
  rw [← hV] at uV
  have HUU := Lib.hid (And.intro hU hV)
  have HUB := Lib.hid (And.intro uU uV)
  have C3 := Lib.hid (fun w => l2Unit_at (j := (i : Int)) i rfl (by omega) hU w)
  have C4 := Lib.hid (fun w => l2Unit_at (j := (i : Int) + 1) (i + 1) (by omega) (by omega) hV w)
  have hw0 : IntKind.i64.wrap ((i : Int) + 1) = (i : Int) + 1 := IntWalk.i64_in _ (by omega)
  clear hU hV uU uV
  obtain ⟨B, hB⟩ : ∃ B, B = w.heap.size := ⟨_, rfl⟩
  have HB0 : Hid (B = w.heap.size) := Lib.hid hB
  have HO5 : Hid (OwnM (w.alloc (.cells #[] 85)) B (w.alloc (.cells #[] 85)).heap.size (some ⟨B, 0, none⟩) 0 0 []) := Lib.hid (by rw [hB]; simpa using OwnM.empty w)
  have HB5 : Hid (Below B w (w.alloc (.cells #[] 85))) := Lib.hid (by rw [hB]; exact (Below.refl _ _).alloc (Nat.le_refl _) _)
  have HZ5 : Hid (B ≤ (w.alloc (.cells #[] 85)).heap.size) := Lib.hid (by rw [hB]; simp)
  go_enter Try.func55, Try.ntmps55
  go_wp2_with fail
  rw [← hB]
  clear hB
  go_loopw [5, 6] (fun lf k wx => ∃ A5 c5 n5 kk, lf = .slice A5 n5 c5 ∧ k = .int .i64 (kk : Nat) ∧ kk ≤ n ∧ OwnM wx B wx.heap.size A5 n5 c5 (divL i (l.take kk)) ∧ Below B w wx ∧ B ≤ wx.heap.size)
    (fun _ k _ => n - (intOf k).toNat)
  case atStart => exact ⟨_, 0, 0, 0, rfl, rfl, Nat.zero_le _, by simpa [divL, linL] using HO5.out, HB5.out, HZ5.out⟩
  case round =>
    obtain ⟨A5, c5, n5, k, rfl, rfl, hk, ho5, hb5, hz5⟩ := hrel
    clear HO5 HB5 HZ5
    have HO5 := Lib.hid ho5
    have HB5 := Lib.hid hb5
    have HZ5 := Lib.hid hz5
    have hsr := hs.below hb5 (by rw [← HB0.out]; exact Nat.le_refl _)
    have hs0 := hs
    clear ho5 hb5 hz5 hs
    by_cases hlt : k < n
    · have hltI : (k : Int) < (n : Int) := by omega
      have HNX := Lib.hid (div_next (l := l) i (k := k) (by rw [HL.out]; exact hlt))
      have h49 := H49.out _ (ce_mem (l := l) (k := k) (by rw [HL.out]; exact hlt))
      have h64 := H64.out _ (ce_mem (l := l) (k := k) (by rw [HL.out]; exact hlt))
      obtain ⟨b0, o, rfl, hb, hi0, hi1⟩ := hsr.at_ (k := k) hlt
      clear hs0 hsr
      obtain ⟨x, hx⟩ : ∃ x, x = (ce l k).1 := ⟨_, rfl⟩
      obtain ⟨z, hz⟩ : ∃ z, z = (ce l k).2 := ⟨_, rfl⟩
      rw [← hx] at hi0 h49
      rw [← hz] at hi1 h64
      have HXZ : Hid (scaleM (ce l k).2 (divF i (ce l k).1) = scaleM z (divF i x)) := Lib.hid (by rw [hx, hz])
      obtain ⟨a, ha⟩ : ∃ a, a = x / unitI i % 128 := ⟨_, rfl⟩
      obtain ⟨b, hbb⟩ : ∃ b, b = x / unitI (i + 1) % 128 := ⟨_, rfl⟩
      have hab : 0 ≤ a ∧ a ≤ 127 := by rw [ha]; omega
      have hbr : 0 ≤ b ∧ b ≤ 127 := by rw [hbb]; omega
      have C1 := Lib.hid (fun w => l2At_at (x := x) (j := (i : Int)) i rfl (by omega) h49.1 h49.2 ha w)
      have C2 := Lib.hid (fun w => l2At_at (x := x) (j := (i : Int) + 1) (i + 1) (by omega) (by omega) h49.1 h49.2 hbb w)
      obtain ⟨⟨u1, u2⟩, ⟨v1, v2⟩⟩ := HUB.out
      have m1 := mul_bnd (d := a) (U := U) (by omega) (by omega) u1 u2
      have m2 := mul_bnd (d := b) (U := V) (by omega) (by omega) v1 v2
      have h491 := h49.1
      have h492 := h49.2
      have hw1 : IntKind.i64.wrap (a * U) = a * U := IntWalk.i64_in _ (by omega)
      have hw2 : IntKind.i64.wrap (b * V) = b * V := IntWalk.i64_in _ (by omega)
      have hw3 : IntKind.i64.wrap (x - a * U) = x - a * U := IntWalk.i64_in _ (by omega)
      have hw4 : IntKind.i64.wrap (x - a * U - b * V) = x - a * U - b * V := IntWalk.i64_in _ (by omega)
      have hw5 : IntKind.i64.wrap (a - b) = a - b := IntWalk.i64_in _ (by omega)
      have hw6 : IntKind.i64.wrap (0 - (a - b)) = b - a := by rw [IntWalk.i64_in _ (by omega)]; omega
      have HAB := Lib.hid (And.intro ha hbb)
      have HMB := Lib.hid (And.intro m1 m2)
      have H6 := Lib.hid h64
      have HX49 := Lib.hid h49
      clear hx hz ha hbb h64 m1 m2 u1 u2 v1 v2 h49 h491 h492
      go_upto_region 7 with (first
        | (go_at_call 107; first | ((with_reducible refine (C1.out _).mono ?_); rintro e w1 ⟨rfl, rfl⟩) | ((with_reducible refine (C2.out _).mono ?_); rintro e w1 ⟨rfl, rfl⟩)))
      go_region_held3 (fun w' => w'.cell? ⟨b0, o + k * 2, none⟩ = some (.int .i64 x) ∧ w'.cell? ⟨b0, o + k * 2 + 1, none⟩ = some (.int .i64 z))
        (first | go_keep | assumption)
        (first
          | (go_at_call 108; first | ((with_reducible refine (C3.out _).mono ?_); rintro e w1 ⟨rfl, rfl⟩) | ((with_reducible refine (C4.out _).mono ?_); rintro e w1 ⟨rfl, rfl⟩)))
      go_upto_if 64 with fail
      obtain ⟨lo, hlo⟩ : ∃ lo, lo = min a b := ⟨_, rfl⟩
      obtain ⟨N, hN⟩ : ∃ N, N = (a - b).natAbs := ⟨_, rfl⟩
      obtain ⟨C, hC⟩ : ∃ C, C = if a < b then w64 (0 - z) else z := ⟨_, rfl⟩
      obtain ⟨r, hr⟩ : ∃ r, r = x - a * U - b * V := ⟨_, rfl⟩
      have hlr : 0 ≤ lo ∧ lo + N ≤ 127 := by rw [hlo, hN]; omega
      have hrr : -1117103813820416 ≤ r ∧ r ≤ 1680055767870464 := by
        have h1 := HMB.out
        have h2 := HX49.out
        unfold in49 at h2
        rw [hr]; omega
      have hlo' : (if b < a then b else a) = lo := by rw [hlo]; split <;> omega
      rw [hlo', ← hr]
      have HALL := Lib.hid (dvP_all HAB.out.1 HAB.out.2 HUU.out.1 HUU.out.2 hN H6.out hC)
      have HLO := Lib.hid hlo
      have HN := Lib.hid hN
      have HC := Lib.hid hC
      have HRD : Hid (r = x - a * U - b * V) := Lib.hid hr
      have HWD : Hid (OwnM w1.drew B w1.drew.heap.size A5 n5 c5 (divL i (l.take k)) ∧ Below B w w1.drew ∧ B ≤ w1.drew.heap.size) := Lib.hid ⟨HO5.out.drawn ⟨1, rfl⟩, HB5.out.drawnN 1, HZ5.out⟩
      clear hr hlo hlo' hw1 hw2 hw3 hw4 hN hC hb hi0 hi1 HO5 HB5 HZ5
      go_cut [11, 12] from 15 to 97 (fun nv cv wx => nv = .int .i64 (N : Nat) ∧ cv = .int .i64 C ∧ wx = w1.drew)
      case first =>
        by_cases hneg : a < b
        · have hnI : a - b < 0 := by omega
          have hNN : b - a = (N : Int) := by rw [HN.out]; omega
          go_wp2
          go_meet
          case rel =>
            refine ⟨?_, ?_, rfl⟩
            · exact congrArg (Value.int .i64) (by have := HN.out; omega)
            · rw [HC.out, if_pos hneg, Int.zero_sub]
              exact congrArg (Value.int .i64) (by first | exact wrap64_w64 _ | exact wrap_w64 _)
        · have hnI : ¬ a - b < 0 := by omega
          have hNN : a - b = (N : Int) := by rw [HN.out]; omega
          go_wp2
          go_meet
          case rel => exact ⟨congrArg (Value.int .i64) (by have := HN.out; omega), by rw [HC.out, if_neg (by omega)], rfl⟩
      case rest =>
        obtain ⟨rfl, rfl, rfl⟩ := hcut
        generalize w1.drew = w2 at *
        obtain ⟨ho5, hb5, hz5⟩ := HWD.out
        have HO5 := Lib.hid ho5
        have HB5 := Lib.hid hb5
        have HZ5 := Lib.hid hz5
        have hn5 : n5 ≤ 900000000 := by
          have h1 := ho5.len
          have h2 := div_len i (l.take k)
          rw [h1, List.length_take, HL.out, Nat.min_eq_left (by omega)] at h2
          omega
        clear ho5 hb5 hz5 HWD hw5 hw6
        go_wp2_with fail
        go_loopw [5, 13] (fun lf jv wx => ∃ A6 c6 j, lf = .slice A6 (n5 + j) c6 ∧ jv = .int .i64 (j : Nat) ∧ j ≤ N ∧ OwnM wx B wx.heap.size A6 (n5 + j) c6 (divL i (l.take k) ++ dvP x a b U V C N j) ∧ Below B w wx ∧ B ≤ wx.heap.size)
          (fun _ jv _ => N - (intOf jv).toNat)
        case atStart => exact ⟨A5, c5, 0, rfl, rfl, Nat.zero_le _, by simpa [dvP] using HO5.out, HB5.out, HZ5.out⟩
        case round =>
          obtain ⟨A6, c6, j, rfl, rfl, hj, ho6, hb6, hz6⟩ := hrel
          clear HO5 HB5 HZ5
          have HO6 := Lib.hid ho6
          have HB6 := Lib.hid hb6
          have HZ6 := Lib.hid hz6
          clear ho6 hb6 hz6
          by_cases hlt2 : j < N
          · have hlt2I : (j : Int) < (N : Int) := by omega
            have HNX2 := Lib.hid (dvP_next x a b U V C N j)
            obtain ⟨⟨u1, u2⟩, ⟨v1, v2⟩⟩ := HUB.out
            have m1 := mul_bnd (d := lo + N - 1 - j) (U := U) (by omega) (by omega) u1 u2
            have m2 := mul_bnd (d := lo + j) (U := V) (by omega) (by omega) v1 v2
            have hv1 : IntKind.i64.wrap (lo + N) = lo + N := IntWalk.i64_in _ (by omega)
            have hv2 : IntKind.i64.wrap (lo + N - 1) = lo + N - 1 := IntWalk.i64_in _ (by omega)
            have hv3 : IntKind.i64.wrap (lo + N - 1 - j) = lo + N - 1 - j := IntWalk.i64_in _ (by omega)
            have hv4 : IntKind.i64.wrap ((lo + N - 1 - j) * U) = (lo + N - 1 - j) * U := IntWalk.i64_in _ (by omega)
            have hv5 : IntKind.i64.wrap (r + (lo + N - 1 - j) * U) = r + (lo + N - 1 - j) * U := IntWalk.i64_in _ (by omega)
            have hv6 : IntKind.i64.wrap (lo + j) = lo + j := IntWalk.i64_in _ (by omega)
            have hv7 : IntKind.i64.wrap ((lo + j) * V) = (lo + j) * V := IntWalk.i64_in _ (by omega)
            have hv8 : IntKind.i64.wrap (r + (lo + N - 1 - j) * U + (lo + j) * V) = r + (lo + N - 1 - j) * U + (lo + j) * V := IntWalk.i64_in _ (by omega)
            clear u1 u2 v1 v2 m1 m2
            go_wp2_with (first
              | (go_at_call 108; first | ((with_reducible refine (C3.out _).mono ?_); rintro e w1 ⟨rfl, rfl⟩) | ((with_reducible refine (C4.out _).mono ?_); rintro e w1 ⟨rfl, rfl⟩))
              | (at_builtin; refine wpList_appendM rfl (.tmp 74) (.tmp 96) rfl B A6 (n5 + j) c6 (divL i (l.take k) ++ dvP x a b U V C N j) (r + (lo + N - 1 - j) * U + (lo + j) * V) C rfl rfl HO6.out HZ6.out (by omega) ?_; intro A7 c7 w7 ho7 hb7 _ _; have HO7 := Lib.hid ho7; have HB7 := Lib.hid hb7; clear ho7 hb7)
              | go_in)
            go_roundw
            case rel => exact ⟨A7, c7, j + 1, rfl, by go_num, by omega, by rw [HNX2.out, ← List.append_assoc, ← HLO.out, ← HRD.out]; exact HO7.out, HB6.out.trans HB7.out, Nat.le_trans HZ6.out HB7.out.size⟩
            case measure => simp [intOf]; omega
          · have hjN : j = N := by omega
            subst hjN
            have HOL : Hid (OwnM wr B wr.heap.size A6 (n5 + j) c6 (divL i (l.take (k + 1)))) := Lib.hid (by have := HO6.out; rw [HALL.out] at this; rw [HNX.out, HXZ.out]; exact this)
            go_wp2_with fail
            go_roundw
            case rel => exact ⟨A6, c6, n5 + j, k + 1, rfl, by go_num, by omega, HOL.out, HB6.out, HZ6.out⟩
            case measure => simp [intOf]; omega
    · have hkn : k = n := by omega
      subst hkn
      have HOL : Hid (OwnM wr B wr.heap.size A5 n5 c5 (divL i l)) := Lib.hid (by have := HO5.out; rwa [List.take_of_length_le (by rw [HL.out]; omega)] at this)
      have HG := Lib.hid (specGather_any A5 n5 c5 _ wr HOL.out.si (by have h1 := HOL.out.len; have h2 := div_len i l; rw [h1, HL.out] at h2; omega) (lin_in64 _ _))
      go_wp2_with (go_at_call 109; refine HG.out.mono ?_; rintro e w7 ⟨A7, n7, c7, rfl, ho7, hb7⟩; have HO7 := Lib.hid ho7; have HB7 := Lib.hid hb7; clear ho7 hb7)
      go_ret
      exact ⟨A7, n7, c7, rfl, HO7.out.wide (by rw [← HB0.out]; exact HZ5.out) (Nat.le_refl _), by rw [← HB0.out]; exact HB5.out.trans (HB7.out.mono HZ5.out)⟩
end Go.Proofs.Ytmndchhbafkbeaa

/-
  The program's polynomials under construction: times a variable. Conditions: exponents from 0 to 126.
-/

namespace Go.Proofs.Ytmndchhbafkbeaa
open Go.RowKit

/-- Exponents with one more at a place. -/
def incE (e : List Int) (i : Nat) : List Int := e.set i (nth e i + 1)
theorem incE_len (e : List Int) (i : Nat) : (incE e i).length = e.length := by simp [incE]
theorem set_nth {e : List Int} {i : Nat} (_hi : i < e.length) (x : Int) {k : Nat} (hk : k < e.length) : nth (e.set i x) k = if k = i then x else nth e k := by
  rw [nth_get (by simpa using hk), List.getElem_set]
  by_cases h : i = k
  · rw [if_pos h, if_pos h.symm]
  · rw [if_neg h, if_neg (fun h' => h h'.symm), nth_get hk]
theorem set_ex7 {e : List Int} (h : ex7 e) {i : Nat} (hi : i < 7) {x : Int} (hx : 0 ≤ x ∧ x ≤ 127) : ex7 (e.set i x) := by
  refine ⟨by simp [h.1], fun k hk => ?_⟩
  rw [set_nth (by rw [h.1]; exact hi) x (by rw [h.1]; exact hk)]
  split
  · exact hx
  · exact h.2 k hk
theorem set_key {e : List Int} (h : e.length = 7) {i : Nat} (hi : i < 7) (x : Int) : key7 (e.set i x) = key7 e + (x - nth e i) * unitI i := by
  match e, h with
  | [a, b, c, d, f, g, j], _ =>
    rcases lt7s hi with rfl | rfl | rfl | rfl | rfl | rfl | rfl <;> simp [key7, nth, unitI] <;> omega
/-- Each term times a variable. -/
def shiftF (i : Nat) (x : Int) : List Mn := [(x + unitI i, 1)]
def shiftL (i : Nat) (l : List Mn) : List Mn := linL (shiftF i) l
theorem shift_times (i : Nat) (l : List Mn) : shiftL i l = timesL l [(unitI i, 1)] := rfl

set_option maxRecDepth 100000 in
set_option maxHeartbeats 1000000 in
theorem timesVar_any (gp bp : Nat) (Mp : List Tm) (i : Nat) (d : Int) (w : World) (hp : SumP w gp bp Mp) (hcp : capE d Mp) (hd : d ≤ 126) (hi : i < 7) :
    Calls Try.prog 112 #[.pointer (some ⟨gp, 0, none⟩), .int .i64 i] w fun r w' => ∃ g b M', r = .returned (.pointer (some ⟨g, 0, none⟩)) ∧
      SumP w' g b M' ∧ w.heap.size ≤ g ∧ w.heap.size ≤ b ∧ sameC (openM M') (shiftL i (openM Mp)) ∧ capE (d + 1) M' ∧ Below w.heap.size w w' := by
  have HP := Lib.hid hp
  have HCP := Lib.hid hcp
  have HLP := Lib.hid hp.2.lt
  have HLG := Lib.hid hp.1.lt
  have HGD := Lib.hid hp.2.good
  clear hp hcp
  go_enter Try.func112, Try.ntmps112
  go_wp2_with (first
    | (go_at_call 110; refine (newSum_any _).mono ?_; rintro r w1 ⟨g5, b5, rfl, hs1, hg51, hb51, hbel1⟩; have HS1 := Lib.hid hs1; have HB1 := Lib.hid hbel1; have HG51 := Lib.hid hg51; have HB51 := Lib.hid hb51; clear hs1 hbel1 hg51 hb51; have hf := (HP.out.below HB1.out HLG.out HLP.out).field)
    | (at_range; refine wpList_rangeE _ rfl _ rfl rfl (HP.out.below HB1.out HLG.out HLP.out).2 ?_; intro w0 hrg0 hg0 hs0)
    | go_in)
  go_frame
  have HBW : Hid (Below w.heap.size w w0) := Lib.hid (HB1.out.trans (grown_belowM hg0 HB1.out.size (by simp)))
  have HS0 : Hid (SumP w0 g5 b5 []) := Lib.hid (HS1.out.kept hg0 (by simp) (by simp))
  have HR0 := Lib.hid hrg0
  have HR1W : Hid (w.heap.size ≤ w1.heap.size) := Lib.hid HB1.out.size
  have HRB : Hid (b5 < w1.heap.size ∧ g5 < w1.heap.size) := Lib.hid ⟨HS1.out.2.lt, HS1.out.1.lt⟩
  obtain ⟨R, hR⟩ : ∃ R, R = w1.heap.size := ⟨_, rfl⟩
  rw [← hR] at HR0 HR1W HRB ⊢
  clear hrg0 hg0 hs0 hf HS1 HB1 hR
  go_loopw [14] (fun _ wr => ∃ M' done, SumP wr g5 b5 M' ∧ RangeE wr bp R Mp done ∧ sameC (openM M') (shiftL i (openM done)) ∧ capE (d + 1) M' ∧ Below w.heap.size w wr)
    (fun _ wr => wr.rangeLeft bp R)
  case atStart => exact ⟨[], [], HS0.out, HR0.out, sameC.refl _, capE.nil _, HBW.out⟩
  case round =>
    obtain ⟨M', done, hs, hrg, hsame, hcap, hbw⟩ := hrel
    clear HR0 HS0 HBW
    have HS := Lib.hid hs
    have HSM := Lib.hid hsame
    have HCA := Lib.hid hcap
    have HBW := Lib.hid hbw
    have HRG := Lib.hid hrg
    clear hs hsame hcap hbw hrg
    go_wp2_with (first
      | (at_next; refine wpList_nextE _ rfl _ rfl rfl HRG.out ?_ ?_)
      | go_in)
    · intro hdone
      have HD := Lib.hid hdone
      clear hdone
      go_wp2
      go_ret
      exact ⟨g5, b5, M', rfl, HS.out, HG51.out, HB51.out, HSM.out.trans ((sameC.open HD.out).lin _), HCA.out, HBW.out⟩
    · intro e c w2 htM hrg1 hlt hg1 hs1 hen
      have hex : ex7 e := (HGD.out _ htM).1
      have hct : ∀ k, k < 7 → nth e k ≤ d := HCP.out _ htM
      have hlr := HRB.out
      have hrw := HR1W.out
      have hbn : bp ≠ b5 := by have := HLP.out; have := HB51.out; omega
      have HEX := Lib.hid hex
      have HCT := Lib.hid hct
      have HLT := Lib.hid hlt
      have hws := HBW.out.size
      have hne5 : R ≠ b5 ∧ R ≠ g5 := by omega
      have HN5 := Lib.hid hne5
      have hA : Blk (w2.alloc (.cells (arrC e) 79)) w2.heap.size 79 (arrC e) := Blk.new _ _ _
      have hA2 : Blk ((w2.alloc (.cells (arrC e) 79)).setCell ⟨w2.heap.size, i, none⟩ (.int .i64 (nth e i + 1))) w2.heap.size 79 (arrC (incE e i)) := by
        have := hA.set_ i (.int .i64 (nth e i + 1))
        rwa [arrC_set e i hi _ hex.1] at this
      have h2b : Below w.heap.size w w2 := HBW.out.trans (grown_belowM hg1 hws (fun j hj => by injection hj with hj; omega))
      have h3b : Below w.heap.size w ((w2.alloc (.cells (arrC e) 79)).setCell ⟨w2.heap.size, i, none⟩ (.int .i64 (nth e i + 1))) := (h2b.alloc h2b.size _).setCell h2b.size _
      have hS2 : SumP ((w2.alloc (.cells (arrC e) 79)).setCell ⟨w2.heap.size, i, none⟩ (.int .i64 (nth e i + 1))) g5 b5 M' := by
        have h1 := (HS.out.kept hg1 (fun h => by injection h with h; omega) (fun h => by injection h with h; omega))
        have h2 := h1.alloc (.cells (arrC e) 79)
        exact ⟨h2.1.far (by have := h1.1.lt; show g5 ≠ w2.heap.size; omega) _, h2.2.same (Below.heap_setCell _ _ _ _ (by have := h1.2.lt; show b5 ≠ w2.heap.size; omega))⟩
      have hR2 : RangeE ((w2.alloc (.cells (arrC e) 79)).setCell ⟨w2.heap.size, i, none⟩ (.int .i64 (nth e i + 1))) bp R Mp (done ++ [(e, c)]) := by
        have h2 := hrg1.kept (World.grownBy_alloc _ (.cells (arrC e) 79) none) (by simp) (by simp)
        have l1 := hrg1.map.lt
        have l2 := hrg1.lt
        exact h2.same (Below.heap_setCell _ _ _ _ (by show bp ≠ w2.heap.size; omega)) (Below.heap_setCell _ _ _ _ (by show R ≠ w2.heap.size; omega))
      have hc := hA.cell i
      rw [arrC_get e i hi] at hc
      have hz := hA.frozen i
      have hwp : IntKind.i64.wrap (nth e i + 1) = nth e i + 1 := IntWalk.i64_in _ (by have := hex.2 i hi; omega)
      have hi0 : (0 : Int) ≤ (i : Int) := by omega
      have hi7 : (i : Int) < 7 := by omega
      have HA2 := Lib.hid hA2
      have HB3 := Lib.hid h3b
      have HS2 := Lib.hid hS2
      have HR2 := Lib.hid hR2
      have HI := Lib.hid hi
      have hei : ex7 (incE e i) := set_ex7 hex hi (by have := hex.2 i hi; have := hct i hi; omega)
      have HEI := Lib.hid hei
      clear hA hA2 h2b h3b hS2 hR2 hrg1 hlt hg1 hs1 hex htM hct hne5 hei hbn hlr
      go_upto_region 5 with fail
      generalize (w2.alloc (.cells (arrC e) 79)) = w3 at *
      go_wp2_with (first
        | (refine wpList_load_blk rfl 79 (.tmp 6) rfl w2.heap.size rfl 79 (arrC (incE e i)) 7 3 HA2.out Try.undExp Try.infoExp ?_)
        | (go_at_call 114; refine (add_any g5 b5 M' (incE e i) c _ HS2.out HEI.out).mono ?_; rintro r w5 ⟨rfl, hs5, hg5⟩; have HS5 := Lib.hid hs5; have HG5 := Lib.hid hg5; clear hs5 hg5)
        | go_in)
      have HR5 := Lib.hid (HR2.out.kept HG5.out (fun h => by injection h with h; have := HLP.out; have := HB51.out; omega) (fun h => by injection h with h; exact HN5.out.1 h))
      go_roundw
      case rel =>
        refine ⟨_, _, HS5.out, HR5.out, ?_, HCA.out.put (fun k hk => ?_) _, HB3.out.trans (grown_belowM HG5.out HB3.out.size (fun j hj => by injection hj with hj; have := HB51.out; omega))⟩
        · refine (put_same _ _ _).trans ?_
          rw [openM_app]
          unfold shiftL
          rw [linL_app]
          refine HSM.out.app ?_
          show sameC [(key7 (incE e i), c)] [(key7 e + unitI i, w64 (c * 1))]
          rw [show key7 (incE e i) = key7 e + unitI i by unfold incE; rw [set_key HEX.out.1 HI.out]; omega]
          exact sameC.one (by have := w64_eqm (c * 1); rw [eqm_iff] at *; omega)
        · unfold incE
          rw [set_nth (by rw [HEX.out.1]; exact HI.out) _ (by rw [HEX.out.1]; exact hk)]
          have h1 := HCT.out k hk
          split
          · rename_i h; subst h; omega
          · omega
      case measure =>
        have h1 := HR5.out.left_eq
        have h2 := HRG.out.left_eq
        have h3 := HLT.out
        rw [List.length_append] at h1
        simp at h1
        omega
end Go.Proofs.Ytmndchhbafkbeaa

/-
  The program's polynomials under construction: the divided difference of one term added. Conditions: exponents from 0 to 127.
-/



namespace Go.Proofs.Ytmndchhbafkbeaa
open Go.RowKit

theorem putE_set0 (e : List Int) (i : Nat) (x y x' : Int) : (putE e i x y).set i x' = putE e i x' y := by
  unfold putE
  rw [List.set_comm _ _ (by omega : i + 1 ≠ i), List.set_set]
theorem putE_set1 (e : List Int) (i : Nat) (x y y' : Int) : (putE e i x y).set (i + 1) y' = putE e i x y' := by
  unfold putE
  rw [List.set_set]
theorem putE_self {e : List Int} {i : Nat} (h : i + 1 < e.length) : putE e i (nth e i) (nth e (i + 1)) = e := by
  unfold putE
  apply List.ext_getElem (by simp)
  intro j h1 h2
  rw [List.getElem_set]
  split
  · rename_i h3; subst h3; rw [nth_get h]
  · rw [List.getElem_set]
    split
    · rename_i h3; subst h3; rw [nth_get (by omega)]
    · rfl
theorem grown_setCell {w w' : World} {row : Option Nat} (h : w.grownBy w' row) {p : Addr} (hp : w.heap.size ≤ p.block) (u : Value) : w.grownBy (w'.setCell p u) row :=
  ⟨h.os, h.tape, h.output, by simpa using h.size, fun k hk hne => (Below.heap_setCell w' p u k (by omega)).trans (h.block k hk hne)⟩
theorem SumP.setCell {w : World} {g b : Nat} {M : List Tm} (h : SumP w g b M) {p : Addr} (h1 : g ≠ p.block) (h2 : b ≠ p.block) (u : Value) : SumP (w.setCell p u) g b M :=
  ⟨h.1.far h1 u, h.2.same (Below.heap_setCell w p u b h2)⟩
/-- What has come of one term after j rounds. -/
def dvJ (e : List Int) (i : Nat) (X Y C : Int) (j : Nat) : List Mn := (List.range j).map fun (m : Nat) => (key7 (putE e i (X - 1 - m) (Y + m)), C)
theorem dvJ_next (e : List Int) (i : Nat) (X Y C : Int) (j : Nat) : dvJ e i X Y C (j + 1) = dvJ e i X Y C j ++ [(key7 (putE e i (X - 1 - j) (Y + j)), C)] := by
  unfold dvJ; rw [List.range_succ, List.map_append]; rfl
theorem sameC_map {α : Type} (k f g : α → Int) : ∀ (l : List α), (∀ t ∈ l, eqm (f t) (g t)) → sameC (l.map fun t => (k t, f t)) (l.map fun t => (k t, g t))
  | [], _ => sameC.refl _
  | t :: l, h => (sameC.one (h t List.mem_cons_self)).app (sameC_map k f g l fun u hu => h u (List.mem_cons_of_mem _ hu))
theorem dvJ_all {e : List Int} (he : ex7 e) {i : Nat} (hi : i < 6) (c X Y C : Int) (hX : X = if nth e i < nth e (i + 1) then nth e (i + 1) else nth e i) (hY : Y = if nth e i < nth e (i + 1) then nth e i else nth e (i + 1))
    (hC : C = if nth e i < nth e (i + 1) then w64 (-c) else c) : sameC (dvJ e i X Y C (X - Y).toNat) (scaleM c (divF i (key7 e))) := by
  unfold divF
  rw [divK_key he hi, sgK_key he hi]
  unfold ddE scaleM dvJ
  rw [List.map_map, List.map_map, List.map_map]
  have hn : (X - Y).toNat = (nth e i - nth e (i + 1)).natAbs := by rw [hX, hY]; split <;> omega
  rw [hn]
  have hm : Y = min (nth e i) (nth e (i + 1)) := by rw [hY]; split <;> omega
  have hx : ∀ m : Nat, X - 1 - (m : Int) = min (nth e i) (nth e (i + 1)) + ((nth e i - nth e (i + 1)).natAbs : Int) - 1 - m := fun m => by rw [hX]; split <;> omega
  have e1 : ((List.range (nth e i - nth e (i + 1)).natAbs).map fun (m : Nat) => (key7 (putE e i (X - 1 - m) (Y + m)), C)) = (List.range (nth e i - nth e (i + 1)).natAbs).map fun (m : Nat) => (key7 (putE e i (min (nth e i) (nth e (i + 1)) + ((nth e i - nth e (i + 1)).natAbs : Int) - 1 - m) (min (nth e i) (nth e (i + 1)) + m)), C) := by
    apply List.map_congr_left
    intro m _
    rw [hx m, hm]
  rw [e1]
  refine sameC_map _ _ _ _ fun m _ => ?_
  show eqm C (w64 (c * ddS e i))
  unfold ddS
  rw [hC]
  split
  · rw [Int.mul_neg_one]; exact eqm.refl _
  · rw [Int.mul_one]; exact (w64_eqm c).symm

set_option maxRecDepth 100000 in
set_option maxHeartbeats 2000000 in
theorem addDiff_any (g b : Nat) (M : List Tm) (e : List Int) (c : Int) (i : Nat) (d : Int) (w : World) (h : SumP w g b M) (he : ex7 e) (hi : i < 6) (hcap : capE d M) (hce : ∀ k, k < 7 → nth e k ≤ d) :
    Calls Try.prog 111 #[.pointer (some ⟨g, 0, none⟩), arr e, .int .i64 c, .int .i64 i] w fun r w' => r = .returned (.tuple #[]) ∧
      ∃ M', SumP w' g b M' ∧ sameC (openM M') (openM M ++ scaleM c (divF i (key7 e))) ∧ capE d M' ∧ w.grownBy w' (some b) := by
  have hA : Blk (w.alloc (.cells (arrC e) 79)) w.heap.size 79 (arrC e) := Blk.new _ _ _
  have hS := h.alloc (.cells (arrC e) 79)
  have hG : w.grownBy (w.alloc (.cells (arrC e) 79)) (some b) := World.grownBy_alloc _ _ _
  obtain ⟨x, hx⟩ : ∃ x, x = nth e i := ⟨_, rfl⟩
  obtain ⟨y, hy⟩ : ∃ y, y = nth e (i + 1) := ⟨_, rfl⟩
  have xr : 0 ≤ x ∧ x ≤ 127 := by rw [hx]; exact he.2 i (by omega)
  have yr : 0 ≤ y ∧ y ≤ 127 := by rw [hy]; exact he.2 (i + 1) (by omega)
  have xd : x ≤ d := by rw [hx]; exact hce i (by omega)
  have yd : y ≤ d := by rw [hy]; exact hce (i + 1) (by omega)
  obtain ⟨X, hX⟩ : ∃ X, X = if x < y then y else x := ⟨_, rfl⟩
  obtain ⟨Y, hY⟩ : ∃ Y, Y = if x < y then x else y := ⟨_, rfl⟩
  obtain ⟨C, hC⟩ : ∃ C, C = if x < y then w64 (-c) else c := ⟨_, rfl⟩
  have HALL : Hid (sameC (dvJ e i X Y C (X - Y).toNat) (scaleM c (divF i (key7 e)))) := Lib.hid (dvJ_all he hi c X Y C (by rw [hX, hx, hy]) (by rw [hY, hx, hy]) (by rw [hC, hx, hy]))
  have hXY : 0 ≤ Y ∧ Y ≤ X ∧ X ≤ 127 ∧ X ≤ d := by
    rw [hX, hY]
    split <;> omega
  have hgl := h.1.lt
  have hbl := h.2.lt
  have hi0 : (0 : Int) ≤ (i : Int) := by omega
  have hi7 : (i : Int) < 7 := by omega
  have hi8 : (i : Int) + 1 < 7 := by omega
  have hin : ¬ (i : Int) + 1 < 0 := by omega
  have hip : (0 : Int) ≤ (i : Int) + 1 := by omega
  have hw1 : IntKind.i64.wrap ((i : Int) + 1) = (i : Int) + 1 := IntWalk.i64_in _ (by omega)
  have HE := Lib.hid he
  have HI := Lib.hid hi
  have HCAP := Lib.hid hcap
  have HCE := Lib.hid hce
  have HX := Lib.hid hX
  have HY := Lib.hid hY
  have HC := Lib.hid hC
  have HXV := Lib.hid hx
  have HYV := Lib.hid hy
  have HXY := Lib.hid hXY
  have HGL := Lib.hid hgl
  have HBL := Lib.hid hbl
  have HNE := Lib.hid h.ne
  clear he hcap hce hX hY hC hXY hgl hbl h
  go_enter Try.func111, Try.ntmps111
  go_upto_region 1 with fail
  generalize (w.alloc (.cells (arrC e) 79)) = w1 at *
  obtain ⟨nb, hnb⟩ : ∃ nb, nb = w.heap.size := ⟨_, rfl⟩
  rw [← hnb] at hA ⊢
  have HNB := Lib.hid hnb
  have q0 : w1.cell? ⟨nb, i, none⟩ = some (.int .i64 x) := by rw [hx, hA.cell i]; exact arrC_get e i (by omega)
  have q1 : w1.cell? ⟨nb, i + 1, none⟩ = some (.int .i64 y) := by rw [hy, hA.cell (i + 1)]; exact arrC_get e (i + 1) (by omega)
  have f0 := hA.frozen i
  have f1 := hA.frozen (i + 1)
  have HA := Lib.hid hA
  have HS := Lib.hid hS
  have HG := Lib.hid hG
  clear hA hS hG hx hy hnb
  go_region
  go_upto_if 15 with fail
  go_cut [2] from 8 (fun c2 wx => c2 = .int .i64 C ∧ Blk wx nb 79 (arrC (putE e i X Y)) ∧ SumP wx g b M ∧ w.grownBy wx (some b))
  case first =>
    have q0' : w1.drew.cell? ⟨nb, i, none⟩ = some (.int .i64 x) := q0
    have q1' : w1.drew.cell? ⟨nb, i + 1, none⟩ = some (.int .i64 y) := q1
    have f0' : w1.drew.frozen? ⟨nb, i, none⟩ = false := f0
    have f1' : w1.drew.frozen? ⟨nb, i + 1, none⟩ = false := f1
    have HA' : Hid (Blk w1.drew nb 79 (arrC e)) := Lib.hid HA.out
    have HS' : Hid (SumP w1.drew g b M) := Lib.hid HS.out
    have HG' : Hid (w.grownBy w1.drew (some b)) := Lib.hid ⟨HG.out.os, HG.out.tape, HG.out.output, HG.out.size, HG.out.block⟩
    clear q0 q1 f0 f1 HA HS HG
    generalize w1.drew = w2 at *
    by_cases hlt : x < y
    · have r2 : (w2.setCell ⟨nb, i, none⟩ (.int .i64 y)).cell? ⟨nb, i + 1, none⟩ = some (.int .i64 y) := (World.cell?_setCell_other w2 _ _ _ (by intro e; injection e with _ e; omega)).trans q1'
      have r3 : (w2.setCell ⟨nb, i, none⟩ (.int .i64 y)).frozen? ⟨nb, i + 1, none⟩ = false := by simpa using f1'
      have r4 : (w2.setCell ⟨nb, i + 1, none⟩ (.int .i64 x)).cell? ⟨nb, i, none⟩ = some (.int .i64 x) := (World.cell?_setCell_other w2 _ _ _ (by intro e; injection e with _ e; omega)).trans q0'
      have r5 : (w2.setCell ⟨nb, i + 1, none⟩ (.int .i64 x)).frozen? ⟨nb, i, none⟩ = false := by simpa using f0'
      go_upto_region 2 with fail
      go_region
      go_wp2
      go_meet
      case rel =>
        have hb2 := HGL.out
        have hb3 := HBL.out
        have hb4 := HNB.out
        have hA3 := (HA'.out.set_ i (.int .i64 y)).set_ (i + 1) (.int .i64 x)
        rw [arrC_set e i (by omega) y HE.out.1, arrC_set _ (i + 1) (by omega) x (by simp [HE.out.1])] at hA3
        have hS3 : SumP ((w2.setCell ⟨nb, i, none⟩ (.int .i64 y)).setCell ⟨nb, i + 1, none⟩ (.int .i64 x)) g b M := (HS'.out.setCell (by show g ≠ nb; omega) (by show b ≠ nb; omega) _).setCell (by show g ≠ nb; omega) (by show b ≠ nb; omega) _
        have hG3 := grown_setCell (grown_setCell HG'.out (p := ⟨nb, i, none⟩) (by show _ ≤ nb; omega) (.int .i64 y)) (p := ⟨nb, i + 1, none⟩) (by show _ ≤ nb; omega) (.int .i64 x)
        refine ⟨?_, ?_, hS3, ⟨hG3.os, hG3.tape, hG3.output, hG3.size, hG3.block⟩⟩
        · rw [HC.out, if_pos hlt, wrap64_w64]
        · rw [HX.out, HY.out, if_pos hlt, if_pos hlt]
          exact hA3
    · go_wp2
      go_meet
      case rel =>
        refine ⟨?_, ?_, HS'.out, HG'.out⟩
        · rw [HC.out, if_neg (Int.not_lt.2 hlt)]
        · rw [HX.out, HY.out, if_neg (Int.not_lt.2 hlt), if_neg (Int.not_lt.2 hlt), HXV.out, HYV.out, putE_self (by rw [HE.out.1]; omega)]
          exact HA'.out
  case rest =>
    obtain ⟨rfl, hA, hS, hG⟩ := hcut
    clear q0 q1 f0 f1 HA HS HG
    have q0 : wc.cell? ⟨nb, i, none⟩ = some (.int .i64 X) := by rw [hA.cell i, arrC_get _ i (by omega), putE_nth (by rw [HE.out.1]; omega) _ _ (by rw [HE.out.1]; omega), if_neg (by omega), if_pos rfl]
    have q1 : wc.cell? ⟨nb, i + 1, none⟩ = some (.int .i64 Y) := by rw [hA.cell (i + 1), arrC_get _ (i + 1) (by omega), putE_nth (by rw [HE.out.1]; omega) _ _ (by rw [HE.out.1]; omega), if_pos rfl]
    have hxy := HXY.out
    have hw2 : IntKind.i64.wrap (X - Y) = X - Y := IntWalk.i64_in _ (by omega)
    have HA := Lib.hid hA
    have HS := Lib.hid hS
    have HG := Lib.hid hG
    clear hA hS hG
    go_upto_region 4 with fail
    go_region
    go_wp2_with fail
    obtain ⟨n, hn⟩ : ∃ n : Nat, X - Y = n := ⟨(X - Y).toNat, by omega⟩
    have HN := Lib.hid hn
    rw [hn]
    have hn127 : n ≤ 127 := by omega
    clear q0 q1 hw2 hn
    have HAd : Hid (Blk wc.drew nb 79 (arrC (putE e i X Y))) := Lib.hid HA.out
    have HSd : Hid (SumP wc.drew g b M) := Lib.hid HS.out
    have HGd : Hid (w.grownBy wc.drew (some b)) := Lib.hid ⟨HG.out.os, HG.out.tape, HG.out.output, HG.out.size, HG.out.block⟩
    clear HA HS HG
    generalize wc.drew = w5 at *
    go_loopw [38] (fun jv wr => ∃ (j : Nat) (M' : List Tm), jv = .int .i64 j ∧ j ≤ n ∧ Blk wr nb 79 (arrC (putE e i (X - j) (Y + j))) ∧ SumP wr g b M' ∧ sameC (openM M') (openM M ++ dvJ e i X Y C j) ∧ capE d M' ∧ w.grownBy wr (some b))
      (fun jv _ => n - (intOf jv).toNat)
    case atStart => exact ⟨0, M, rfl, Nat.zero_le _, by simpa using HAd.out, HSd.out, by simpa [dvJ] using sameC.refl _, HCAP.out, HGd.out⟩
    case round =>
      obtain ⟨j, M', rfl, hj, hA, hS, hsame, hcap, hgw⟩ := hrel
      clear HAd HSd HGd
      have HSM := Lib.hid hsame
      have HCA := Lib.hid hcap
      have HGW := Lib.hid hgw
      have HS := Lib.hid hS
      have HA := Lib.hid hA
      clear hsame hcap hgw hS
      by_cases hlt : j < n
      · have hltI : (j : Int) < (n : Int) := by omega
        have hxy := HXY.out
        have hnn := HN.out
        have hnb : w.heap.size ≤ nb := Nat.le_of_eq HNB.out.symm
        have hgl := HGL.out
        have hbl := HBL.out
        obtain ⟨u, hu⟩ : ∃ u : Int, u = X - j := ⟨_, rfl⟩
        obtain ⟨v, hv⟩ : ∃ v : Int, v = Y + j := ⟨_, rfl⟩
        rw [← hu, ← hv] at hA
        have hur : 1 ≤ u ∧ u ≤ 127 ∧ u ≤ d := by omega
        have hvr : 0 ≤ v ∧ v ≤ 126 ∧ v ≤ d := by omega
        have q0 : wr.cell? ⟨nb, i, none⟩ = some (.int .i64 u) := by rw [hA.cell i, arrC_get _ i (by omega), putE_nth (by rw [HE.out.1]; omega) _ _ (by rw [HE.out.1]; omega), if_neg (by omega), if_pos rfl]
        have f0 := hA.frozen i
        have hwu : IntKind.i64.wrap (u - 1) = u - 1 := IntWalk.i64_in _ (by omega)
        have hwv : IntKind.i64.wrap (v + 1) = v + 1 := IntWalk.i64_in _ (by omega)
        have hA1 : Blk (wr.setCell ⟨nb, i, none⟩ (.int .i64 (u - 1))) nb 79 (arrC (putE e i (u - 1) v)) := by
          have := hA.set_ i (.int .i64 (u - 1))
          rwa [arrC_set _ i (by omega) _ (by rw [putE_len, HE.out.1]), putE_set0] at this
        have hS1 : SumP (wr.setCell ⟨nb, i, none⟩ (.int .i64 (u - 1))) g b M' := HS.out.setCell (by show g ≠ nb; omega) (by show b ≠ nb; omega) _
        have hex : ex7 (putE e i (u - 1) v) := putE_ex7 HE.out HI.out (by omega) (by omega)
        have HA1 := Lib.hid hA1
        have HS1 := Lib.hid hS1
        have HEX := Lib.hid hex
        have HG1 : Hid (w.grownBy (wr.setCell ⟨nb, i, none⟩ (.int .i64 (u - 1))) (some b)) := Lib.hid (grown_setCell HGW.out (by show _ ≤ nb; omega) _)
        have HU := Lib.hid hu
        have HV := Lib.hid hv
        clear hA hA1 hS1 hex hu hv HA HS hnn hxy
        go_upto_region 7 with fail
        generalize (wr.setCell ⟨nb, i, none⟩ (.int .i64 (u - 1))) = w6 at *
        clear q0 f0
        go_upto_region 8 with (first
          | (refine wpList_load_blk rfl 79 (.tmp 5) rfl nb rfl 79 (arrC (putE e i (u - 1) v)) 7 3 HA1.out Try.undExp Try.infoExp ?_)
          | (go_at_call 114; refine (add_any g b M' (putE e i (u - 1) v) C _ HS1.out HEX.out).mono ?_; rintro r w7 ⟨rfl, hs7, hg7⟩; have HS7 := Lib.hid hs7; have HG7 := Lib.hid hg7; clear hs7 hg7)
          | go_in)
        have hA7 : Blk w7 nb 79 (arrC (putE e i (u - 1) v)) := HA1.out.grown HG7.out (fun h => by injection h with h; omega)
        have q1 : w7.cell? ⟨nb, i + 1, none⟩ = some (.int .i64 v) := by rw [hA7.cell (i + 1), arrC_get _ (i + 1) (by omega), putE_nth (by rw [HE.out.1]; omega) _ _ (by rw [HE.out.1]; omega), if_pos rfl]
        have f1 := hA7.frozen (i + 1)
        have hA8 : Blk (w7.setCell ⟨nb, i + 1, none⟩ (.int .i64 (v + 1))) nb 79 (arrC (putE e i (u - 1) (v + 1))) := by
          have := hA7.set_ (i + 1) (.int .i64 (v + 1))
          rwa [arrC_set _ (i + 1) (by omega) _ (by rw [putE_len, HE.out.1]), putE_set1] at this
        have HA8 := Lib.hid hA8
        have HS8 : Hid (SumP (w7.setCell ⟨nb, i + 1, none⟩ (.int .i64 (v + 1))) g b (putT M' (putE e i (u - 1) v) (w64 (cfT M' (putE e i (u - 1) v) + C)))) := Lib.hid (HS7.out.setCell (by show g ≠ nb; omega) (by show b ≠ nb; omega) _)
        have HG8 : Hid (w.grownBy (w7.setCell ⟨nb, i + 1, none⟩ (.int .i64 (v + 1))) (some b)) := Lib.hid (grown_setCell (grown_then HG1.out HG7.out (fun j hj => .inr hj)) (by show _ ≤ nb; omega) _)
        clear hA7 hA8 hnb hgl hbl
        go_wp2_with fail
        go_roundw
        case rel =>
          have hu := HU.out
          have hv := HV.out
          refine ⟨j + 1, _, by go_num, by omega, ?_, HS8.out, ?_, HCA.out.put (fun k hk => ?_) _, HG8.out⟩
          · rw [show X - ((j + 1 : Nat) : Int) = u - 1 by omega, show Y + ((j + 1 : Nat) : Int) = v + 1 by omega]
            exact HA8.out
          · refine (put_same _ _ _).trans ?_
            rw [dvJ_next, ← List.append_assoc, show X - 1 - (j : Int) = u - 1 by omega, show Y + (j : Int) = v by omega]
            exact HSM.out.app (sameC.refl _)
          · rw [putE_nth (by rw [HE.out.1]; have := HI.out; omega) _ _ (by rw [HE.out.1]; exact hk)]
            have h1 := HCE.out k hk
            split
            · omega
            · split <;> omega
        case measure => simp [intOf]; omega
      · have hjn : j = n := by omega
        subst hjn
        have HD : Hid (dvJ e i X Y C j = dvJ e i X Y C (X - Y).toNat) := Lib.hid (by rw [HN.out]; rfl)
        clear hA
        go_wp2
        go_end0
        exact ⟨rfl, M', HS.out, HSM.out.trans ((sameC.refl _).app (by rw [HD.out]; exact HALL.out)), HCA.out, HGW.out⟩
end Go.Proofs.Ytmndchhbafkbeaa

/-
  The program's polynomials under construction: divided differences, sums of terms. Conditions: exponents from 0 to 127, lengths below 2^40.
-/


namespace Go.Proofs.Ytmndchhbafkbeaa
open Go.RowKit

set_option maxRecDepth 100000 in
set_option maxHeartbeats 1000000 in
theorem divDiff_any (gp bp : Nat) (Mp : List Tm) (i : Nat) (d : Int) (w : World) (hp : SumP w gp bp Mp) (hcp : capE d Mp) (hi : i < 6) :
    Calls Try.prog 59 #[.pointer (some ⟨gp, 0, none⟩), .int .i64 i] w fun r w' => ∃ g b M', r = .returned (.pointer (some ⟨g, 0, none⟩)) ∧
      SumP w' g b M' ∧ w.heap.size ≤ g ∧ w.heap.size ≤ b ∧ sameC (openM M') (divL i (openM Mp)) ∧ capE d M' ∧ Below w.heap.size w w' := by
  have HP := Lib.hid hp
  have HCP := Lib.hid hcp
  have HLP := Lib.hid hp.2.lt
  have HLG := Lib.hid hp.1.lt
  have HGD := Lib.hid hp.2.good
  clear hp hcp
  go_enter Try.func59, Try.ntmps59
  go_wp2_with (first
    | (go_at_call 110; refine (newSum_any _).mono ?_; rintro r w1 ⟨g5, b5, rfl, hs1, hg51, hb51, hbel1⟩; have HS1 := Lib.hid hs1; have HB1 := Lib.hid hbel1; have HG51 := Lib.hid hg51; have HB51 := Lib.hid hb51; clear hs1 hbel1 hg51 hb51; have hf := (HP.out.below HB1.out HLG.out HLP.out).field)
    | (at_range; refine wpList_rangeE _ rfl _ rfl rfl (HP.out.below HB1.out HLG.out HLP.out).2 ?_; intro w0 hrg0 hg0 hs0)
    | go_in)
  go_frame
  have HBW : Hid (Below w.heap.size w w0) := Lib.hid (HB1.out.trans (grown_belowM hg0 HB1.out.size (by simp)))
  have HS0 : Hid (SumP w0 g5 b5 []) := Lib.hid (HS1.out.kept hg0 (by simp) (by simp))
  have HR0 := Lib.hid hrg0
  have HR1W : Hid (w.heap.size ≤ w1.heap.size) := Lib.hid HB1.out.size
  have HRB : Hid (b5 < w1.heap.size ∧ g5 < w1.heap.size) := Lib.hid ⟨HS1.out.2.lt, HS1.out.1.lt⟩
  obtain ⟨R, hR⟩ : ∃ R, R = w1.heap.size := ⟨_, rfl⟩
  rw [← hR] at HR0 HR1W HRB ⊢
  clear hrg0 hg0 hs0 hf HS1 HB1 hR
  go_loopw [14] (fun _ wr => ∃ M' done, SumP wr g5 b5 M' ∧ RangeE wr bp R Mp done ∧ sameC (openM M') (divL i (openM done)) ∧ capE d M' ∧ Below w.heap.size w wr)
    (fun _ wr => wr.rangeLeft bp R)
  case atStart => exact ⟨[], [], HS0.out, HR0.out, sameC.refl _, capE.nil _, HBW.out⟩
  case round =>
    obtain ⟨M', done, hs, hrg, hsame, hcap, hbw⟩ := hrel
    clear HR0 HS0 HBW
    have HS := Lib.hid hs
    have HSM := Lib.hid hsame
    have HCA := Lib.hid hcap
    have HBW := Lib.hid hbw
    have HRG := Lib.hid hrg
    clear hs hsame hcap hbw hrg
    go_wp2_with (first
      | (at_next; refine wpList_nextE _ rfl _ rfl rfl HRG.out ?_ ?_)
      | go_in)
    · intro hdone
      have HD := Lib.hid hdone
      clear hdone
      go_wp2
      go_ret
      exact ⟨g5, b5, M', rfl, HS.out, HG51.out, HB51.out, HSM.out.trans ((sameC.open HD.out).lin _), HCA.out, HBW.out⟩
    · intro e c w2 htM hrg1 hlt hg1 hs1 hen
      have hex : ex7 e := (HGD.out _ htM).1
      have hct : ∀ k, k < 7 → nth e k ≤ d := HCP.out _ htM
      have hlr := HRB.out
      have hrw := HR1W.out
      have hbn : bp ≠ b5 := by have := HLP.out; have := HB51.out; omega
      have HEX := Lib.hid hex
      have HCT := Lib.hid hct
      have HLT := Lib.hid hlt
      have hws := HBW.out.size
      have hne5 : R ≠ b5 ∧ R ≠ g5 := by omega
      have HN5 := Lib.hid hne5
      have h2b : Below w.heap.size w (w2.alloc (.cells (arrC e) 79)) := (HBW.out.trans (grown_belowM hg1 hws (fun j hj => by injection hj with hj; omega))).alloc (by have := hg1.size; omega) _
      have hS2 : SumP (w2.alloc (.cells (arrC e) 79)) g5 b5 M' := (HS.out.kept hg1 (fun h => by injection h with h; omega) (fun h => by injection h with h; omega)).alloc _
      have hR2 : RangeE (w2.alloc (.cells (arrC e) 79)) bp R Mp (done ++ [(e, c)]) := hrg1.kept (World.grownBy_alloc _ (.cells (arrC e) 79) none) (by simp) (by simp)
      have HB3 := Lib.hid h2b
      have HS2 := Lib.hid hS2
      have HR2 := Lib.hid hR2
      clear h2b hS2 hR2 hrg1 hlt hg1 hs1 hex htM hct hne5 hbn hlr
      go_wp2_with (first
        | (go_at_call 111; refine (addDiff_any g5 b5 M' e c i d _ HS2.out HEX.out hi HCA.out HCT.out).mono ?_; rintro r w5 ⟨rfl, M5, hs5, hm5, hc5, hg5⟩; have HS5 := Lib.hid hs5; have HG5 := Lib.hid hg5; have HM5 := Lib.hid hm5; have HC5 := Lib.hid hc5; clear hs5 hg5 hm5 hc5)
        | go_in)
      have HR5 := Lib.hid (HR2.out.kept HG5.out (fun h => by injection h with h; have := HLP.out; have := HB51.out; omega) (fun h => by injection h with h; exact HN5.out.1 h))
      go_roundw
      case rel =>
        refine ⟨M5, _, HS5.out, HR5.out, HM5.out.trans ?_, HC5.out, HB3.out.trans (grown_belowM HG5.out HB3.out.size (fun j hj => by injection hj with hj; have := HB51.out; omega))⟩
        rw [openM_app]
        unfold divL
        rw [linL_app]
        refine HSM.out.app ?_
        rw [show linL (divF i) (openM [(e, c)]) = scaleM c (divF i (key7 e)) by simp [linL, openM]]
        exact sameC.refl _
      case measure =>
        have h1 := HR5.out.left_eq
        have h2 := HRG.out.left_eq
        have h3 := HLT.out
        rw [List.length_append] at h1
        simp at h1
        omega

set_option maxRecDepth 100000 in
set_option maxHeartbeats 2000000 in
theorem sumOf_any (A : Option Addr) (n c : Nat) (ts : List Tm) (d : Int) (w : World) (hs : TS w A n ts) (hn : n ≤ 1099511627776) (hex : ∀ k, k < n → ex7 (tm ts k).1 ∧ in64 (tm ts k).2) (hcp : ∀ k, k < n → ∀ j, j < 7 → nth (tm ts k).1 j ≤ d) :
    Calls Try.prog 70 #[.slice A n c] w fun r w' => ∃ g b M', r = .returned (.pointer (some ⟨g, 0, none⟩)) ∧
      SumP w' g b M' ∧ w.heap.size ≤ g ∧ w.heap.size ≤ b ∧ sameC (openM M') (openM ts) ∧ capE d M' ∧ Below w.heap.size w w' := by
  have HEX := Lib.hid hex
  have HCP := Lib.hid hcp
  have HL := Lib.hid hs.1
  clear hex hcp
  go_enter Try.func70, Try.ntmps70
  go_wp2_with (go_at_call 110; refine (newSum_any _).mono ?_; rintro r w1 ⟨g5, b5, rfl, hs1, hg51, hb51, hbel1⟩; have HS1 := Lib.hid hs1; have HB1 := Lib.hid hbel1; have HG51 := Lib.hid hg51; have HB51 := Lib.hid hb51; clear hs1 hbel1 hg51 hb51)
  go_loopw [9] (fun iv wr => ∃ (k : Nat) (M' : List Tm), iv = .int .i64 k ∧ k ≤ n ∧ SumP wr g5 b5 M' ∧ sameC (openM M') (openM (ts.take k)) ∧ capE d M' ∧ Below w.heap.size w wr)
    (fun iv _ => n - (intOf iv).toNat)
  case atStart => exact ⟨0, [], rfl, Nat.zero_le _, HS1.out, sameC.refl _, capE.nil _, HB1.out⟩
  case round =>
    obtain ⟨k, M', rfl, hk, hS, hsame, hcap, hb⟩ := hrel
    clear HS1 HB1
    have HS := Lib.hid hS
    have HSM := Lib.hid hsame
    have HCA := Lib.hid hcap
    have HB := Lib.hid hb
    clear hS hsame hcap
    by_cases hlt : k < n
    · have hltI : (k : Int) < (n : Int) := by omega
      have HNX := Lib.hid (openM_next (ts := ts) (k := k) (by rw [HL.out]; exact hlt))
      obtain ⟨b, o, A2, n2, c2, rfl, hbw, hc0', hc1', hsi', hnc, hnil⟩ := hs.at_ hlt
      have hex := (HEX.out k hlt).1
      have hin := (HEX.out k hlt).2
      obtain rfl : n2 = 7 := by rw [← hsi'.1]; exact hex.1
      obtain ⟨b2, o2, rfl, hb2w, hcx'⟩ := hsi'.at_ (by omega)
      have hc0 := (hb.cell (p := ⟨b, o + k * 2, none⟩) hbw).trans hc0'
      have hc1 := (hb.cell (p := ⟨b, o + k * 2 + 1, none⟩) hbw).trans hc1'
      have hcx : ∀ j, j < 7 → wr.cell? ⟨b2, o2 + j, none⟩ = some (.int .i64 (nth (tm ts k).1 j)) := fun j hj => (hb.cell (p := ⟨b2, o2 + j, none⟩) hb2w).trans (hcx' j hj)
      obtain ⟨z, hz⟩ : ∃ z, z = (tm ts k).2 := ⟨_, rfl⟩
      obtain ⟨e, he⟩ : ∃ e, e = (tm ts k).1 := ⟨_, rfl⟩
      rw [← hz] at hc1 hin
      rw [← he] at hcx hex
      have hce : ∀ j, j < 7 → nth e j ≤ d := by rw [he]; exact HCP.out k hlt
      have hwb := hb.size
      have hA : Blk (wr.alloc (.cells #[.slice (some ⟨b2, o2, none⟩) 7 c2, .int .i64 z] 60)) wr.heap.size 60 #[.slice (some ⟨b2, o2, none⟩) 7 c2, .int .i64 z] := Blk.new _ _ _
      have hS6 : SumP (wr.alloc (.cells #[.slice (some ⟨b2, o2, none⟩) 7 c2, .int .i64 z] 60)) g5 b5 M' := HS.out.alloc _
      have hB6 : Below w.heap.size w (wr.alloc (.cells #[.slice (some ⟨b2, o2, none⟩) 7 c2, .int .i64 z] 60)) := hb.alloc hwb _
      have hg6 : wr.grownBy (wr.alloc (.cells #[.slice (some ⟨b2, o2, none⟩) 7 c2, .int .i64 z] 60)) none := World.grownBy_alloc _ _ _
      have hcy : ∀ j, j < 7 → (wr.alloc (.cells #[.slice (some ⟨b2, o2, none⟩) 7 c2, .int .i64 z] 60)).cell? ⟨b2, o2 + j, none⟩ = some (.int .i64 (nth e j)) := fun j hj => hg6.cell (hcx j hj) (by simp)
      have HBN := Lib.hid (show b5 ≠ wr.heap.size by have := HS.out.2.lt; omega)
      have HB2N := Lib.hid (show b5 ≠ b2 by have := HB51.out; omega)
      have HPQ : Hid ((key7 (tm ts k).1, (tm ts k).2) = (key7 e, z)) := Lib.hid (by rw [hz, he])
      obtain ⟨nb, hnb⟩ : ∃ nb, nb = wr.heap.size := ⟨_, rfl⟩
      have HE := Lib.hid hex
      have HCE := Lib.hid hce
      have HSI := Lib.hid hs
      clear hb hs hc0' hc1' hcx' hsi' hnil hex hce hz he hg6 hcx hin hwb
      go_upto_region 5 with fail
      rw [← hnb] at hA HBN ⊢
      clear hnb hc0 hc1
      generalize (wr.alloc (.cells #[.slice (some ⟨b2, o2, none⟩) 7 c2, .int .i64 z] 60)) = w6 at *
      have K0 : w6.cell? ⟨nb, 0, none⟩ = some (.slice (some ⟨b2, o2, none⟩) 7 c2) ∧ w6.cell? ⟨nb, 1, none⟩ = some (.int .i64 z) ∧ w6.cell? ⟨b2, o2, none⟩ = some (.int .i64 (nth e 0)) ∧ w6.cell? ⟨b2, o2 + 1, none⟩ = some (.int .i64 (nth e 1)) ∧ w6.cell? ⟨b2, o2 + 2, none⟩ = some (.int .i64 (nth e 2)) ∧ w6.cell? ⟨b2, o2 + 3, none⟩ = some (.int .i64 (nth e 3)) ∧ w6.cell? ⟨b2, o2 + 4, none⟩ = some (.int .i64 (nth e 4)) ∧ w6.cell? ⟨b2, o2 + 5, none⟩ = some (.int .i64 (nth e 5)) ∧ w6.cell? ⟨b2, o2 + 6, none⟩ = some (.int .i64 (nth e 6)) := ⟨hA.cell 0, hA.cell 1, hcy 0 (by omega), hcy 1 (by omega), hcy 2 (by omega), hcy 3 (by omega), hcy 4 (by omega), hcy 5 (by omega), hcy 6 (by omega)⟩
      have K1 : w6.drew.cell? ⟨nb, 0, none⟩ = some (.slice (some ⟨b2, o2, none⟩) 7 c2) ∧ w6.drew.cell? ⟨nb, 1, none⟩ = some (.int .i64 z) ∧ w6.drew.cell? ⟨b2, o2, none⟩ = some (.int .i64 (nth e 0)) ∧ w6.drew.cell? ⟨b2, o2 + 1, none⟩ = some (.int .i64 (nth e 1)) ∧ w6.drew.cell? ⟨b2, o2 + 2, none⟩ = some (.int .i64 (nth e 2)) ∧ w6.drew.cell? ⟨b2, o2 + 3, none⟩ = some (.int .i64 (nth e 3)) ∧ w6.drew.cell? ⟨b2, o2 + 4, none⟩ = some (.int .i64 (nth e 4)) ∧ w6.drew.cell? ⟨b2, o2 + 5, none⟩ = some (.int .i64 (nth e 5)) ∧ w6.drew.cell? ⟨b2, o2 + 6, none⟩ = some (.int .i64 (nth e 6)) := K0
      have hat : ∀ w, (Instr.arrayAt 79 (.slice (some ⟨b2, o2, none⟩) 7 c2)).run Try.prog w = .ok (.pointer (some ⟨b2, o2, none⟩)) w := fun w => arrayAt7 _ _ _
      have HK0 := Lib.hid (And.intro K0 K1)
      have HS6 : Hid (SumP w6.drew g5 b5 M') := Lib.hid hS6
      have HB6 := Lib.hid hB6
      clear K0 K1 hA hcy hS6 hB6
      go_region_held3 (fun w' => w'.cell? ⟨nb, 0, none⟩ = some (.slice (some ⟨b2, o2, none⟩) 7 c2) ∧ w'.cell? ⟨nb, 1, none⟩ = some (.int .i64 z) ∧ w'.cell? ⟨b2, o2, none⟩ = some (.int .i64 (nth e 0)) ∧ w'.cell? ⟨b2, o2 + 1, none⟩ = some (.int .i64 (nth e 1)) ∧ w'.cell? ⟨b2, o2 + 2, none⟩ = some (.int .i64 (nth e 2)) ∧ w'.cell? ⟨b2, o2 + 3, none⟩ = some (.int .i64 (nth e 3)) ∧ w'.cell? ⟨b2, o2 + 4, none⟩ = some (.int .i64 (nth e 4)) ∧ w'.cell? ⟨b2, o2 + 5, none⟩ = some (.int .i64 (nth e 5)) ∧ w'.cell? ⟨b2, o2 + 6, none⟩ = some (.int .i64 (nth e 6)))
        (first | exact HK0.out.1 | exact HK0.out.2 | assumption | exact K5)
        (first
          | (go_at_call 114
             refine (add_any g5 b5 M' e z _ HS6.out HE.out).mono ?_
             rintro r w7 ⟨rfl, hs7, hg7⟩
             have gn : ∀ o, some (Addr.block ⟨nb, o, none⟩) ≠ some b5 := fun o h => HBN.out (Option.some.inj h).symm
             have g2 : ∀ o, some (Addr.block ⟨b2, o, none⟩) ≠ some b5 := fun o h => HB2N.out (Option.some.inj h).symm
             have K5 : w7.cell? ⟨nb, 0, none⟩ = some (.slice (some ⟨b2, o2, none⟩) 7 c2) ∧ w7.cell? ⟨nb, 1, none⟩ = some (.int .i64 z) ∧ w7.cell? ⟨b2, o2, none⟩ = some (.int .i64 (nth e 0)) ∧ w7.cell? ⟨b2, o2 + 1, none⟩ = some (.int .i64 (nth e 1)) ∧ w7.cell? ⟨b2, o2 + 2, none⟩ = some (.int .i64 (nth e 2)) ∧ w7.cell? ⟨b2, o2 + 3, none⟩ = some (.int .i64 (nth e 3)) ∧ w7.cell? ⟨b2, o2 + 4, none⟩ = some (.int .i64 (nth e 4)) ∧ w7.cell? ⟨b2, o2 + 5, none⟩ = some (.int .i64 (nth e 5)) ∧ w7.cell? ⟨b2, o2 + 6, none⟩ = some (.int .i64 (nth e 6)) := by
               obtain ⟨k0, k1, k2, k3, k4, k5, k6, k7, k8⟩ := HK0.out.2
               exact ⟨hg7.cell k0 (gn _), hg7.cell k1 (gn _), hg7.cell k2 (g2 _), hg7.cell k3 (g2 _), hg7.cell k4 (g2 _), hg7.cell k5 (g2 _), hg7.cell k6 (g2 _), hg7.cell k7 (g2 _), hg7.cell k8 (g2 _)⟩
             have HS7 := Lib.hid hs7
             have HG7 : Hid (w6.grownBy w7 (some b5)) := Lib.hid (grown_of_drew hg7)
             clear hs7 hg7 gn g2))
      go_wp2
      go_roundw
      case rel =>
        refine ⟨k + 1, _, by go_num, by omega, HS7.out, ?_, HCA.out.put HCE.out _, HB6.out.trans (grown_belowM HG7.out HB6.out.size (fun j hj => by injection hj with hj; have := HB51.out; omega))⟩
        refine (put_same _ _ _).trans ?_
        rw [HNX.out, HPQ.out]
        exact HSM.out.app (sameC.refl _)
      case measure => simp [intOf]; omega
    · have hkn : k = n := by omega
      subst hkn
      have HD : Hid (openM (ts.take k) = openM ts) := Lib.hid (by rw [List.take_of_length_le (by rw [HL.out]; omega)])
      go_wp2
      go_ret
      exact ⟨g5, b5, M', rfl, HS.out, HG51.out, HB51.out, by rw [← HD.out]; exact HSM.out, HCA.out, HB.out⟩
end Go.Proofs.Ytmndchhbafkbeaa

/-
  The program's polynomials under construction: products. Conditions: exponents of the product from 0 to 127.
-/

namespace Go.Proofs.Ytmndchhbafkbeaa
open Go.RowKit

/-- The first k places of ea added to eb. -/
def addP (eb ea : List Int) (k : Nat) : List Int := (List.range 7).map fun (j : Nat) => if j < k then nth eb j + nth ea j else nth eb j
theorem addP_len (eb ea : List Int) (k : Nat) : (addP eb ea k).length = 7 := by simp [addP]
theorem addP_nth (eb ea : List Int) (k : Nat) {j : Nat} (h : j < 7) : nth (addP eb ea k) j = if j < k then nth eb j + nth ea j else nth eb j := by
  rw [nth_get (by rw [addP_len]; exact h)]
  simp [addP]
theorem addP_zero {eb : List Int} (h : eb.length = 7) (ea : List Int) : addP eb ea 0 = eb := by
  apply List.ext_getElem (by rw [addP_len, h])
  intro j h1 h2
  rw [addP_len] at h1
  rw [← nth_get, ← nth_get, addP_nth _ _ _ h1, if_neg (by omega)]
theorem addP_set (eb ea : List Int) {k : Nat} (hk : k < 7) : (addP eb ea k).set k (nth eb k + nth ea k) = addP eb ea (k + 1) := by
  apply List.ext_getElem (by simp [addP_len])
  intro j h1 h2
  rw [addP_len] at h2
  rw [← nth_get, ← nth_get, set_nth (by rw [addP_len]; exact hk) _ (by rw [addP_len]; exact h2), addP_nth _ _ _ h2, addP_nth _ _ _ h2]
  by_cases h3 : j = k
  · subst h3
    rw [if_pos rfl, if_pos (by omega)]
  · rw [if_neg h3]
    by_cases h4 : j < k
    · rw [if_pos h4, if_pos (by omega)]
    · rw [if_neg h4, if_neg (by omega)]
theorem addP_key {eb ea : List Int} (h : eb.length = 7) (h' : ea.length = 7) : key7 (addP eb ea 7) = key7 ea + key7 eb := by
  match eb, h, ea, h' with
  | [a, b, c, d, f, g, j], _, [a', b', c', d', f', g', j'], _ =>
    simp [addP, List.range_succ, nth, key7]; omega
theorem grown_setOwn (w : World) (p : Addr) (u : Value) : w.grownBy (w.setCell p u) (some p.block) :=
  ⟨rfl, rfl, rfl, by simp, fun k _ hne => Below.heap_setCell w p u k (fun e => hne (by rw [e]))⟩
theorem index7 {ea : List Int} {k : Nat} (hk : k < 7) (w : World) : (Instr.index 79 (arr ea) (.int .i64 k)).run Try.prog w = .ok (.int .i64 (nth ea k)) w := by
  rcases lt7s hk with rfl | rfl | rfl | rfl | rfl | rfl | rfl <;> kernel_rfl
theorem wpList_index7 (w : World) {ops : Array Oper} {rest : List Oper} {o : Oper} {a : Act} {Q : Exit → Act → World → Prop} (hg : o.guard = none) (x i : Operand) (hop : o.op = Op.index 79 x i)
    {ea : List Int} {k : Nat} (hx : a.eval x = arr ea) (hi : a.eval i = .int .i64 (k : Nat)) (hk : k < 7) (h : wpList Try.prog ops Q rest (a.put o.dst (.int .i64 (nth ea k))) w) : wpList Try.prog ops Q (o :: rest) a w := by
  refine wpList_plain hg fun K hK => ?_
  unfold Oper.wp
  simp [execOp, hop, hx, hi, index7 hk, Result.andThen]
  exact hK _ _ h
set_option maxRecDepth 100000 in
set_option maxHeartbeats 4000000 in
theorem sumTimes_any (gp bp gq bq : Nat) (Mp Mq : List Tm) (dp dq : Int) (w : World) (hp : SumP w gp bp Mp) (hq : SumP w gq bq Mq) (hcp : capE dp Mp) (hcq : capE dq Mq) (hd : dp + dq ≤ 127) :
    Calls Try.prog 74 #[.pointer (some ⟨gp, 0, none⟩), .pointer (some ⟨gq, 0, none⟩)] w fun r w' => ∃ g b M', r = .returned (.pointer (some ⟨g, 0, none⟩)) ∧
      SumP w' g b M' ∧ w.heap.size ≤ g ∧ w.heap.size ≤ b ∧ sameC (openM M') (timesL (openM Mp) (openM Mq)) ∧ capE (dp + dq) M' ∧ Below w.heap.size w w' := by
  have HP := Lib.hid hp
  have HQ := Lib.hid hq
  have HCP := Lib.hid hcp
  have HCQ := Lib.hid hcq
  have HLP := Lib.hid hp.2.lt
  have HLG := Lib.hid hp.1.lt
  have HLQ := Lib.hid hq.2.lt
  have HLH := Lib.hid hq.1.lt
  have HGP := Lib.hid hp.2.good
  have HGQ := Lib.hid hq.2.good
  have HD := Lib.hid hd
  clear hp hq hcp hcq hd
  go_enter Try.func74, Try.ntmps74
  go_wp2_with (first
    | (go_at_call 110; refine (newSum_any _).mono ?_; rintro r w1 ⟨g5, b5, rfl, hs1, hg51, hb51, hbel1⟩; have HS1 := Lib.hid hs1; have HB1 := Lib.hid hbel1; have HG51 := Lib.hid hg51; have HB51 := Lib.hid hb51; clear hs1 hbel1 hg51 hb51; have hf := (HP.out.below HB1.out HLG.out HLP.out).field)
    | (at_range; refine wpList_rangeE _ rfl _ rfl rfl (HP.out.below HB1.out HLG.out HLP.out).2 ?_; intro w0 hrg0 hg0 hs0)
    | go_in)
  go_frame
  have HBW : Hid (Below w.heap.size w w0) := Lib.hid (HB1.out.trans (grown_belowM hg0 HB1.out.size (by simp)))
  have HS0 : Hid (SumP w0 g5 b5 []) := Lib.hid (HS1.out.kept hg0 (by simp) (by simp))
  have HR0 := Lib.hid hrg0
  have HR1W : Hid (w.heap.size ≤ w1.heap.size) := Lib.hid HB1.out.size
  have HRB : Hid (b5 < w1.heap.size ∧ g5 < w1.heap.size) := Lib.hid ⟨HS1.out.2.lt, HS1.out.1.lt⟩
  obtain ⟨R, hR⟩ : ∃ R, R = w1.heap.size := ⟨_, rfl⟩
  rw [← hR] at HR0 HR1W HRB ⊢
  clear hrg0 hg0 hs0 hf HS1 HB1 hR
  go_loopw [18] (fun _ wr => ∃ M' done, SumP wr g5 b5 M' ∧ RangeE wr bp R Mp done ∧ sameC (openM M') (timesL (openM done) (openM Mq)) ∧ capE (dp + dq) M' ∧ Below w.heap.size w wr)
    (fun _ wr => wr.rangeLeft bp R)
  case atStart => exact ⟨[], [], HS0.out, HR0.out, sameC.refl _, capE.nil _, HBW.out⟩
  case round =>
    obtain ⟨M', done, hs, hrg, hsame, hcap, hbw⟩ := hrel
    clear HR0 HS0 HBW
    have HS := Lib.hid hs
    have HSM := Lib.hid hsame
    have HCA := Lib.hid hcap
    have HBW := Lib.hid hbw
    have HRG := Lib.hid hrg
    clear hs hsame hcap hbw hrg
    go_wp2_with (first
      | (at_next; refine wpList_nextE _ rfl _ rfl rfl HRG.out ?_ ?_)
      | go_in)
    · intro hdone
      have HD := Lib.hid hdone
      clear hdone
      go_wp2
      go_ret
      exact ⟨g5, b5, M', rfl, HS.out, HG51.out, HB51.out, HSM.out.trans ((sameC.open HD.out).times (sameC.refl _)), HCA.out, HBW.out⟩
    · intro ea ca w2 htM hrg1 hlt hg1 hs1 hen
      have hex : ex7 ea := (HGP.out _ htM).1
      have hct : ∀ k, k < 7 → nth ea k ≤ dp := HCP.out _ htM
      have hlr := HRB.out
      have hrw := HR1W.out
      have HEA := Lib.hid hex
      have HCTA := Lib.hid hct
      have HLT := Lib.hid hlt
      have hws := HBW.out.size
      have hN5 : R ≠ b5 ∧ R ≠ g5 ∧ bp ≠ b5 := by have := HLP.out; have := HB51.out; omega
      have HN5 := Lib.hid hN5
      have h2b : Below w.heap.size w (w2.alloc (.cells (arrC ea) 79)) := (HBW.out.trans (grown_belowM hg1 hws (fun j hj => by injection hj with hj; omega))).alloc (by have := hg1.size; omega) _
      have hS2 : SumP (w2.alloc (.cells (arrC ea) 79)) g5 b5 M' := (HS.out.kept hg1 (fun h => by injection h with h; omega) (fun h => by injection h with h; omega)).alloc _
      have hR2 : RangeE (w2.alloc (.cells (arrC ea) 79)) bp R Mp (done ++ [(ea, ca)]) := hrg1.kept (World.grownBy_alloc _ (.cells (arrC ea) 79) none) (by simp) (by simp)
      have hA : Blk (w2.alloc (.cells (arrC ea) 79)) w2.heap.size 79 (arrC ea) := Blk.new _ _ _
      have hq3 := HQ.out.below h2b HLH.out HLQ.out
      obtain ⟨nA, hnA⟩ : ∃ nA, nA = w2.heap.size := ⟨_, rfl⟩
      have HnA : Hid (w.heap.size ≤ nA ∧ R < nA ∧ b5 < nA ∧ g5 < nA) := Lib.hid (by have := hg1.size; have := hrg1.lt; have := HS.out.1.lt; have := HS.out.2.lt; omega)
      have HB3 := Lib.hid h2b
      have HS2 := Lib.hid hS2
      have HR2 := Lib.hid hR2
      clear h2b hS2 hR2 hrg1 hlt hg1 hs1 hex htM hct hN5 hlr
      go_upto_region 5 with fail
      rw [← hnA] at hA ⊢
      have HA := Lib.hid hA
      clear hA hnA hen
      generalize (w2.alloc (.cells (arrC ea) 79)) = w3 at *
      have hf := hq3.field
      have HQ3 := Lib.hid hq3
      clear hq3
      go_wp2_with (first
        | (at_range; refine wpList_rangeE _ rfl _ rfl rfl HQ3.out.2 ?_; intro w4 hrg4 hg4 hs4)
        | go_in)
      go_frame
      have HB4 : Hid (Below w.heap.size w w4) := Lib.hid (HB3.out.trans (grown_belowM hg4 HB3.out.size (by simp)))
      have HS4 : Hid (SumP w4 g5 b5 M') := Lib.hid (HS2.out.kept hg4 (by simp) (by simp))
      have HR4 : Hid (RangeE w4 bp R Mp (done ++ [(ea, ca)])) := Lib.hid (HR2.out.kept hg4 (by simp) (by simp))
      have HA4 : Hid (Blk w4 nA 79 (arrC ea)) := Lib.hid (HA.out.grown hg4 (by simp))
      have HQR := Lib.hid hrg4
      obtain ⟨R2, hR2⟩ : ∃ R2, R2 = w3.heap.size := ⟨_, rfl⟩
      have HR2N : Hid (R2 ≠ b5 ∧ R2 ≠ g5 ∧ R2 ≠ R ∧ R2 ≠ nA ∧ w.heap.size ≤ R2) := Lib.hid (by
        have := HS2.out.1.lt; have := HS2.out.2.lt; have := HR2.out.lt; have := HA.out.lt; have := HB3.out.size; omega)
      rw [← hR2] at HQR ⊢
      clear hrg4 hg4 hs4 hf HS2 HB3 HR2 HA HQ3 hR2
      go_loopw [28] (fun _ wx => ∃ M2 done2, SumP wx g5 b5 M2 ∧ RangeE wx bq R2 Mq done2 ∧ RangeE wx bp R Mp (done ++ [(ea, ca)]) ∧ Blk wx nA 79 (arrC ea) ∧ sameC (openM M2) (timesL (openM done) (openM Mq) ++ mulT (key7 ea) ca (openM done2)) ∧ capE (dp + dq) M2 ∧ Below w.heap.size w wx)
        (fun _ wx => wx.rangeLeft bq R2)
      case atStart => exact ⟨M', [], HS4.out, HQR.out, HR4.out, HA4.out, by simpa [mulT, scaleM, openM] using HSM.out, HCA.out, HB4.out⟩
      case round =>
        obtain ⟨M2, done2, hs, hrq, hrp, hA, hsame, hcap, hbw⟩ := hrel
        clear HS4 HQR HR4 HA4 HB4 HS HSM HCA HBW
        have HS := Lib.hid hs
        have HSM := Lib.hid hsame
        have HCA := Lib.hid hcap
        have HBW := Lib.hid hbw
        have HRQ := Lib.hid hrq
        have HRP := Lib.hid hrp
        have HA := Lib.hid hA
        clear hs hsame hcap hbw hrq hrp hA
        go_wp2_with (first
          | (at_next; refine wpList_nextE _ rfl _ rfl rfl HRQ.out ?_ ?_)
          | go_in)
        · intro hdone
          have HDQ := Lib.hid hdone
          clear hdone
          go_wp2_with fail
          go_roundw
          case rel =>
            refine ⟨M2, _, HS.out, HRP.out, HSM.out.trans ?_, HCA.out, HBW.out⟩
            rw [openM_app, times_app]
            refine (sameC.refl _).app ?_
            rw [show openM [(ea, ca)] = [(key7 ea, ca)] from rfl, times_one]
            exact (sameC.open HDQ.out).mulT _ _
          case measure =>
            have h1 := HRP.out.left_eq
            have h2 := HRG.out.left_eq
            have h3 := HLT.out
            rw [List.length_append] at h1
            simp at h1
            omega
        · intro eb cb w5 htM hrg1 hlt hg1 hs1 hen
          have hex : ex7 eb := (HGQ.out _ htM).1
          have hct : ∀ k, k < 7 → nth eb k ≤ dq := HCQ.out _ htM
          have HEB := Lib.hid hex
          have HCTB := Lib.hid hct
          have HLT2 := Lib.hid hlt
          have hws := HBW.out.size
          have hn5 := HN5.out
          have hr2n := HR2N.out
          have hnA := HnA.out
          have hg6 : wr.grownBy (w5.alloc (.cells (arrC eb) 79)) (some R2) := hg1.trans (World.grownBy_alloc _ _ _)
          have h6b : Below w.heap.size w (w5.alloc (.cells (arrC eb) 79)) := HBW.out.trans (grown_belowM hg6 hws (fun j hj => by injection hj with hj; omega))
          have hS6 : SumP (w5.alloc (.cells (arrC eb) 79)) g5 b5 M2 := HS.out.kept hg6 (fun h => by injection h with h; omega) (fun h => by injection h with h; omega)
          have hQ6 : RangeE (w5.alloc (.cells (arrC eb) 79)) bq R2 Mq (done2 ++ [(eb, cb)]) := hrg1.kept (World.grownBy_alloc _ (.cells (arrC eb) 79) none) (by simp) (by simp)
          have hR6 : RangeE (w5.alloc (.cells (arrC eb) 79)) bp R Mp (done ++ [(ea, ca)]) := HRP.out.kept hg6 (fun h => by injection h with h; have := HLP.out; omega) (fun h => by injection h with h; omega)
          have hA6 : Blk (w5.alloc (.cells (arrC eb) 79)) nA 79 (arrC ea) := HA.out.grown hg6 (fun h => by injection h with h; omega)
          have hBB : Blk (w5.alloc (.cells (arrC eb) 79)) w5.heap.size 79 (arrC eb) := Blk.new _ _ _
          obtain ⟨nB, hnB⟩ : ∃ nB, nB = w5.heap.size := ⟨_, rfl⟩
          have HnB : Hid (nB ≠ b5 ∧ nB ≠ g5 ∧ nB ≠ R ∧ nB ≠ R2 ∧ nB ≠ nA ∧ w.heap.size ≤ nB ∧ nB ≠ bp ∧ nB ≠ bq) := Lib.hid (by
            have := hg1.size; have := HS.out.1.lt; have := HS.out.2.lt; have := HRP.out.lt; have := HRQ.out.lt; have := HA.out.lt; have := HLP.out; have := HLQ.out; omega)
          have H6B := Lib.hid h6b
          have HS6 := Lib.hid hS6
          have HQ6 := Lib.hid hQ6
          have HR6 := Lib.hid hR6
          have HA6 := Lib.hid hA6
          clear h6b hS6 hQ6 hR6 hA6 hg6 hrg1 hlt hg1 hs1 hex htM hct hn5 hr2n hnA
          go_upto_region 8 with fail
          rw [← hnB] at hBB ⊢
          have HBB := Lib.hid hBB
          clear hBB hnB hen
          generalize (w5.alloc (.cells (arrC eb) 79)) = w6 at *
          go_wp2_with (refine wpList_load_blk rfl 79 (.tmp 6) rfl nA rfl 79 (arrC ea) 7 3 HA6.out Try.undExp Try.infoExp ?_)
          (try go_frame)
          go_loopw [34] (fun kv wy => ∃ k : Nat, kv = .int .i64 k ∧ k ≤ 7 ∧ Blk wy nB 79 (arrC (addP eb ea k)) ∧ w6.grownBy wy (some nB))
            (fun kv _ => 7 - (intOf kv).toNat)
          case atStart => exact ⟨0, rfl, by omega, by rw [addP_zero HEB.out.1]; exact HBB.out, World.grownBy.refl _ _⟩
          case round =>
            obtain ⟨k, rfl, hk, hB, hgy⟩ := hrel
            by_cases hk7 : k < 7
            · have hkI : (k : Int) < 7 := by omega
              have q0 : wr.cell? ⟨nB, k, none⟩ = some (.int .i64 (nth eb k)) := by rw [hB.cell k, arrC_get _ k hk7, addP_nth _ _ _ hk7, if_neg (by omega)]
              have f0 := hB.frozen k
              have hwr : IntKind.i64.wrap (nth eb k + nth ea k) = nth eb k + nth ea k := IntWalk.i64_in _ (by have := HEA.out.2 k hk7; have := HEB.out.2 k hk7; omega)
              have hB2 := hB.set_ k (.int .i64 (nth eb k + nth ea k))
              rw [arrC_set _ k hk7 _ (addP_len _ _ _), addP_set _ _ hk7] at hB2
              have hg2 := hgy.trans (grown_setOwn wr ⟨nB, k, none⟩ (.int .i64 (nth eb k + nth ea k)))
              have HB2 := Lib.hid hB2
              have HG2 := Lib.hid hg2
              clear hB hB2 hgy hg2
              go_wp2_with (refine wpList_index7 _ rfl (.tmp 33) (.tmp 34) rfl (ea := ea) (k := k) rfl rfl hk7 ?_)
              go_roundw
              case rel => exact ⟨k + 1, by go_num, by omega, HB2.out, HG2.out⟩
              case measure => simp [intOf]; omega
            · have hk7' : k = 7 := by omega
              subst hk7'
              have hnb := HnB.out
              have hn5 := HN5.out
              have hr2n := HR2N.out
              have hna := HnA.out
              have HS7 : Hid (SumP wr g5 b5 M2) := Lib.hid (HS6.out.kept hgy (fun h => by injection h with h; omega) (fun h => by injection h with h; omega))
              have HQ7 : Hid (RangeE wr bq R2 Mq (done2 ++ [(eb, cb)])) := Lib.hid (HQ6.out.kept hgy (fun h => by injection h with h; omega) (fun h => by injection h with h; omega))
              have HR7 : Hid (RangeE wr bp R Mp (done ++ [(ea, ca)])) := Lib.hid (HR6.out.kept hgy (fun h => by injection h with h; omega) (fun h => by injection h with h; omega))
              have HA7 : Hid (Blk wr nA 79 (arrC ea)) := Lib.hid (HA6.out.grown hgy (fun h => by injection h with h; omega))
              have HB7 : Hid (Below w.heap.size w wr) := Lib.hid (H6B.out.trans (grown_belowM hgy H6B.out.size (fun j hj => by injection hj with hj; omega)))
              have HBB7 := Lib.hid hB
              have HEX : Hid (ex7 (addP eb ea 7)) := Lib.hid ⟨addP_len _ _ _, fun k hk => by
                rw [addP_nth _ _ _ hk, if_pos hk]
                have h1 := HEA.out.2 k hk; have h2 := HEB.out.2 k hk; have h3 := HCTA.out k hk; have h4 := HCTB.out k hk; have h5 := HD.out; omega⟩
              have HCE : Hid (∀ k, k < 7 → nth (addP eb ea 7) k ≤ dp + dq) := Lib.hid fun k hk => by
                rw [addP_nth _ _ _ hk, if_pos hk]
                have h3 := HCTA.out k hk; have h4 := HCTB.out k hk; omega
              clear hB hgy hnb hn5 hr2n hna HS6 HQ6 HR6 HA6 H6B HBB
              go_wp2_with (first
                | (refine wpList_load_blk rfl 79 (.tmp 8) rfl nB rfl 79 (arrC (addP eb ea 7)) 7 3 HBB7.out Try.undExp Try.infoExp ?_)
                | (go_at_call 114; refine (add_any g5 b5 M2 (addP eb ea 7) (wrap64 (ca * cb)) _ HS7.out HEX.out).mono ?_; rintro r w8 ⟨rfl, hs8, hg8⟩; have HS8 := Lib.hid hs8; have HG8 := Lib.hid hg8; clear hs8 hg8)
                | go_in)
              have HQ8 := Lib.hid (HQ7.out.kept HG8.out (fun h => by injection h with h; have := HLQ.out; have := HB51.out; omega) (fun h => by injection h with h; exact HR2N.out.1 h))
              have HR8 := Lib.hid (HR7.out.kept HG8.out (fun h => by injection h with h; exact HN5.out.2.2 h) (fun h => by injection h with h; exact HN5.out.1 h))
              go_roundw
              case rel =>
                refine ⟨_, _, HS8.out, HQ8.out, HR8.out, HA7.out.grown HG8.out (fun h => by injection h with h; have := HnA.out; omega), ?_, HCA.out.put HCE.out _, HB7.out.trans (grown_belowM HG8.out HB7.out.size (fun j hj => by injection hj with hj; have := HB51.out; omega))⟩
                refine (put_same _ _ _).trans ?_
                rw [openM_app, mulT_app, ← List.append_assoc, wrap64_w64, addP_key HEB.out.1 HEA.out.1]
                exact HSM.out.app (sameC.refl _)
              case measure =>
                have h1 := HQ8.out.left_eq
                have h2 := HRQ.out.left_eq
                have h3 := HLT2.out
                rw [List.length_append] at h1
                simp at h1
                omega
end Go.Proofs.Ytmndchhbafkbeaa

/-
  The program's polynomials under construction: the operators of Demazure and their kin. Conditions: exponents from 0 to 120.
-/

namespace Go.Proofs.Ytmndchhbafkbeaa
open Go.RowKit

/-- What a function that makes a polynomial hands back: one with the coefficients of L and exponents up to d. -/
def FreshS (w w' : World) (r : Ending) (d : Int) (L : List Mn) : Prop :=
  ∃ g b M, r = .returned (.pointer (some ⟨g, 0, none⟩)) ∧ SumP w' g b M ∧ w.heap.size ≤ g ∧ w.heap.size ≤ b ∧ sameC (openM M) L ∧ capE d M ∧ Below w.heap.size w w'
def demL (i : Nat) (l : List Mn) : List Mn := divL i (shiftL i l)
theorem sameC.dem {a b : List Mn} (i : Nat) (h : sameC a b) : sameC (demL i a) (demL i b) := (h.lin _).lin _
set_option maxHeartbeats 400000 in
theorem demazure_any (gp bp : Nat) (Mp : List Tm) (i : Nat) (d : Int) (w : World) (hp : SumP w gp bp Mp) (hcp : capE d Mp) (hd : d ≤ 126) (hi : i < 6) :
    Calls Try.prog 63 #[.pointer (some ⟨gp, 0, none⟩), .int .i64 i] w fun r w' => FreshS w w' r (d + 1) (demL i (openM Mp)) := by
  have HC := Lib.hid (timesVar_any gp bp Mp i d w hp hcp hd (by omega))
  clear hp hcp hd
  go_enter Try.func63, Try.ntmps63
  go_wp2_with (first
    | (go_at_call 112; refine HC.out.mono ?_; rintro r w1 ⟨g1, b1, M1, rfl, hs1, _, _, hm1, hc1, hb1⟩; have HS1 := Lib.hid hs1; have HM1 := Lib.hid hm1; have HC1 := Lib.hid hc1; have HB1 := Lib.hid hb1; clear hs1 hm1 hc1 hb1)
    | (go_at_call 59; refine (divDiff_any g1 b1 M1 i (d + 1) _ HS1.out HC1.out hi).mono ?_; rintro r w2 ⟨g2, b2, M2, rfl, hs2, hg2, hb2, hm2, hc2, hl2⟩; have HS2 := Lib.hid hs2; have HM2 := Lib.hid hm2; have HC2 := Lib.hid hc2; have HB2 := Lib.hid hl2; have HG2 := Lib.hid (And.intro hg2 hb2); clear hs2 hm2 hc2 hl2 hg2 hb2))
  go_ret
  exact ⟨g2, b2, M2, rfl, HS2.out, Nat.le_trans HB1.out.size HG2.out.1, Nat.le_trans HB1.out.size HG2.out.2, HM2.out.trans (HM1.out.lin _), HC2.out, HB1.out.trans (HB2.out.mono HB1.out.size)⟩
set_option maxHeartbeats 400000 in
theorem divided_any (gp bp : Nat) (Mp : List Tm) (i : Nat) (d : Int) (w : World) (hp : SumP w gp bp Mp) (hcp : capE d Mp) (hi : i < 6) :
    Calls Try.prog 59 #[.pointer (some ⟨gp, 0, none⟩), .int .i64 i] w fun r w' => FreshS w w' r d (divL i (openM Mp)) :=
  (divDiff_any gp bp Mp i d w hp hcp hi).mono fun _ _ ⟨g, b, M, h1, h2, h3, h4, h5, h6, h7⟩ => ⟨g, b, M, h1, h2, h3, h4, h5, h6, h7⟩
set_option maxHeartbeats 400000 in
theorem atom_any (gp bp : Nat) (Mp : List Tm) (i : Nat) (d : Int) (w : World) (hp : SumP w gp bp Mp) (hcp : capE d Mp) (hd : d ≤ 126) (hi : i < 6) :
    Calls Try.prog 65 #[.pointer (some ⟨gp, 0, none⟩), .int .i64 i] w fun r w' => FreshS w w' r (d + 1) (demL i (openM Mp) ++ scaleM (-1) (openM Mp)) := by
  have HC := Lib.hid (demazure_any gp bp Mp i d w hp hcp hd hi)
  have HP := Lib.hid hp
  have HCP := Lib.hid hcp
  have HL := Lib.hid (And.intro hp.1.lt hp.2.lt)
  clear hp hcp hd
  go_enter Try.func65, Try.ntmps65
  go_wp2_with (first
    | (go_at_call 63; refine HC.out.mono ?_; rintro r w1 ⟨g1, b1, M1, rfl, hs1, hg1, hb1, hm1, hc1, hl1⟩; have HS1 := Lib.hid hs1; have HM1 := Lib.hid hm1; have HC1 := Lib.hid hc1; have HB1 := Lib.hid hl1; have HG1 := Lib.hid (And.intro hg1 hb1); clear hs1 hm1 hc1 hl1 hg1 hb1)
    | (go_at_call 71; refine (addTimes_any g1 b1 gp bp M1 Mp (-1) (d + 1) _ HS1.out (HP.out.below HB1.out HL.out.1 HL.out.2) (by have := HL.out.2; have := HG1.out.2; omega) HC1.out (HCP.out.mono (by omega))).mono ?_; rintro r w2 ⟨rfl, M2, hs2, hm2, hc2, hg2⟩; have HS2 := Lib.hid hs2; have HM2 := Lib.hid hm2; have HC2 := Lib.hid hc2; have HG2 := Lib.hid hg2; clear hs2 hm2 hc2 hg2))
  go_ret
  exact ⟨g1, b1, M2, rfl, HS2.out, HG1.out.1, HG1.out.2, HM2.out.trans (HM1.out.app (sameC.refl _)), HC2.out, HB1.out.trans (grown_belowM HG2.out HB1.out.size (fun j hj => by injection hj with hj; have := HG1.out.2; omega))⟩
theorem timesVar_at {j : Int} (gp bp : Nat) (Mp : List Tm) (i : Nat) (hj : j = (i : Int)) (d : Int) (w : World) (hp : SumP w gp bp Mp) (hcp : capE d Mp) (hd : d ≤ 126) (hi : i < 7) :
    Calls Try.prog 112 #[.pointer (some ⟨gp, 0, none⟩), .int .i64 j] w fun r w' => FreshS w w' r (d + 1) (shiftL i (openM Mp)) := by
  subst hj
  exact (timesVar_any gp bp Mp i d w hp hcp hd hi).mono fun _ _ ⟨g, b, M, h1, h2, h3, h4, h5, h6, h7⟩ => ⟨g, b, M, h1, h2, h3, h4, h5, h6, h7⟩
def isoL (i : Nat) (l : List Mn) : List Mn := divL i l ++ scaleM (-1) (divL i (shiftL (i + 1) l))
set_option maxHeartbeats 400000 in
theorem isobaric_any (gp bp : Nat) (Mp : List Tm) (i : Nat) (d : Int) (w : World) (hp : SumP w gp bp Mp) (hcp : capE d Mp) (hd : d ≤ 126) (hi : i < 6) :
    Calls Try.prog 67 #[.pointer (some ⟨gp, 0, none⟩), .int .i64 i] w fun r w' => FreshS w w' r (d + 1) (isoL i (openM Mp)) := by
  have HC := Lib.hid (divided_any gp bp Mp i d w hp hcp hi)
  have HP := Lib.hid hp
  have HCP := Lib.hid hcp
  have HL := Lib.hid (And.intro hp.1.lt hp.2.lt)
  have HD := Lib.hid hd
  have hw1 : IntKind.i64.wrap ((i : Int) + 1) = (i : Int) + 1 := IntWalk.i64_in _ (by omega)
  clear hp hcp hd
  go_enter Try.func67, Try.ntmps67
  go_wp2_with (first
    | (go_at_call 112; refine (timesVar_at gp bp Mp (i + 1) (by omega) d _ (HP.out.below HB1.out HL.out.1 HL.out.2) HCP.out HD.out (by omega)).mono ?_; rintro r w2 ⟨g2, b2, M2, rfl, hs2, hg2, hb2, hm2, hc2, hl2⟩; have HS2 := Lib.hid hs2; have HM2 := Lib.hid hm2; have HC2 := Lib.hid hc2; have HB2 := Lib.hid hl2; have HG2 := Lib.hid (And.intro hg2 hb2); clear hs2 hm2 hc2 hl2 hg2 hb2)
    | (go_at_call 59; first
        | ((with_reducible refine HC.out.mono ?_); rintro r w1 ⟨g1, b1, M1, rfl, hs1, hg1, hb1, hm1, hc1, hl1⟩; have HS1 := Lib.hid hs1; have HM1 := Lib.hid hm1; have HC1 := Lib.hid hc1; have HB1 := Lib.hid hl1; have HG1 := Lib.hid (And.intro hg1 hb1); clear hs1 hm1 hc1 hl1 hg1 hb1)
        | (refine (divided_any g2 b2 M2 i (d + 1) _ HS2.out HC2.out hi).mono ?_; rintro r w3 ⟨g3, b3, M3, rfl, hs3, hg3, hb3, hm3, hc3, hl3⟩; have HS3 := Lib.hid hs3; have HM3 := Lib.hid hm3; have HC3 := Lib.hid hc3; have HB3 := Lib.hid hl3; have HG3 := Lib.hid (And.intro hg3 hb3); clear hs3 hm3 hc3 hl3 hg3 hb3))
    | (go_at_call 71; refine (addTimes_any g1 b1 g3 b3 M1 M3 (-1) (d + 1) _ ((HS1.out.below HB2.out HS1.out.1.lt HS1.out.2.lt).below HB3.out (Nat.lt_of_lt_of_le HS1.out.1.lt HB2.out.size) (Nat.lt_of_lt_of_le HS1.out.2.lt HB2.out.size)) HS3.out (by have := HS1.out.2.lt; have := HB2.out.size; have := HG3.out.2; omega) (HC1.out.mono (by omega)) HC3.out).mono ?_; rintro r w4 ⟨rfl, M4, hs4, hm4, hc4, hg4⟩; have HS4 := Lib.hid hs4; have HM4 := Lib.hid hm4; have HC4 := Lib.hid hc4; have HG4 := Lib.hid hg4; clear hs4 hm4 hc4 hg4))
  go_ret
  have s1 := HB1.out.size
  have s2 := HB2.out.size
  have s3 := HB3.out.size
  refine ⟨g1, b1, M4, rfl, HS4.out, HG1.out.1, HG1.out.2, HM4.out.trans (HM1.out.app ((HM3.out.trans (HM2.out.lin _)).scale _)), HC4.out, ?_⟩
  exact (HB1.out.trans ((HB2.out.mono s1).trans (HB3.out.mono (by omega)))).trans (grown_belowM HG4.out (by omega) (fun j hj => by injection hj with hj; have := HG1.out.2; omega))
end Go.Proofs.Ytmndchhbafkbeaa

/-
  Lists of at most 600 terms: their bounds, and the whole length of a list of terms that is within the bulk. Conditions: as each lemma says.
-/

namespace Go.Proofs.Ytmndchhbafkbeaa
open Go.RowKit

/-- At most 600 terms, at most 7 exponents each. -/
def smallT (ts : List Tm) : Prop := ts.length ≤ 600 ∧ ∀ t ∈ ts, t.1.length ≤ 7
theorem smallT.le {ts : List Tm} (h : smallT ts) : ts.length ≤ 1099511627776 := by have := h.1; omega
theorem smallT.lens {ts : List Tm} (h : smallT ts) (k : Nat) : (tm ts k).1.length ≤ 1099511627776 := by
  by_cases hk : k < ts.length
  · rw [tm_get hk]; have := h.2 _ (List.getElem_mem hk); omega
  · have e : tm ts k = ([], 0) := by simp [tm, List.getD, List.getElem?_eq_none (Nat.le_of_not_lt hk)]
    rw [e]; simp
theorem endT_bound : ∀ (us : List Tm) (q : Int), (∀ t ∈ us, t.1.length ≤ 7) → q ≤ endT us q ∧ endT us q ≤ q + 8 * (us.length : Int)
  | [], q, _ => by simp [endT]
  | t :: r, q, h => by
    have ih := endT_bound r (q + (t.1.length : Int) + 1) (fun s hs => h s (List.mem_cons_of_mem _ hs))
    have h7 := h t List.mem_cons_self
    show q ≤ endT r _ ∧ endT r _ ≤ _
    rw [List.length_cons]
    omega
theorem smallT.ends {ts : List Tm} (h : smallT ts) (k : Nat) : 0 ≤ endT (ts.take k) 1 ∧ endT (ts.take k) 1 ≤ 1099511627776 := by
  have := endT_bound (ts.take k) 1 (fun t ht => h.2 t (List.mem_of_mem_take ht))
  have h1 := h.1
  have h2 : (ts.take k).length ≤ ts.length := by rw [List.length_take]; omega
  omega
set_option maxHeartbeats 800000 in
theorem szTermS_total (A : Option Addr) (n c : Nat) (ts : List Tm) (w : World) (hs : TS w A n ts) (hn : n ≤ 9223372036854775807) (hne : ∀ k, k < n → (tm ts k).1.length ≤ 9223372036854775807) :
    Calls Try.prog 15 #[.slice A n c, .int .i64 1048576] w fun e w' => (∃ r : Int, e = .returned (.int .i64 r) ∧ (r < 0 ∨ (0 ≤ r ∧ n ≤ 1048576 ∧ (∀ k, k < n → (tm ts k).1.length ≤ 1048576) ∧ ∀ k, k ≤ n → 0 ≤ endT (ts.take k) 1 ∧ endT (ts.take k) 1 ≤ 1099511627776))) ∧ Below w.heap.size w w' := by
  have HNE := Lib.hid hne
  have HLL := Lib.hid hs.1
  clear hne
  by_cases hbig : (1048576 : Int) < (n : Int)
  · have h' : (1048576 : Int) - (n : Int) < 0 := by omega
    have hw : IntKind.i64.wrap (1048576 - (n : Int)) = 1048576 - (n : Int) := IntWalk.i64_in _ (by omega)
    go_enter Try.func15, Try.ntmps15
    go_wp2
    go_ret
    exact ⟨⟨_, rfl, .inl (by omega)⟩, Below.refl _ _⟩
  · have h' : ¬ (1048576 : Int) - (n : Int) < 0 := by omega
    have hw : IntKind.i64.wrap (1048576 - (n : Int)) = 1048576 - (n : Int) := IntWalk.i64_in _ (by omega)
    go_enter Try.func15, Try.ntmps15
    go_wp2
    go_loopw [1, 5] (fun v i wr => ∃ (k : Nat) (l : Int), k ≤ n ∧ i = .int .i64 k ∧ v = .int .i64 l ∧ 0 ≤ l ∧ l ≤ 1048576 ∧ (∀ j, j < k → (tm ts j).1.length ≤ 1048576) ∧ (endT (ts.take k) 1 = 1048577 - (n : Int) + (k : Int) - l ∧ ∀ j, j ≤ k → 0 ≤ endT (ts.take j) 1 ∧ endT (ts.take j) 1 ≤ 1099511627776) ∧ Below w.heap.size w wr)
      (fun _ i _ => n - (intOf i).toNat)
    case atStart => exact ⟨0, _, Nat.zero_le _, rfl, rfl, by omega, by omega, fun j hj => absurd hj (by omega), ⟨by simp [endT]; omega, fun j hj => by
      obtain rfl : j = 0 := by omega
      simp [endT]⟩, Below.refl _ _⟩
    case round =>
      obtain ⟨k, l, hk, rfl, rfl, hl0, hl1, hall, htot, hbel⟩ := hrel
      have HA := Lib.hid hall
      have HT := Lib.hid htot
      have HB := Lib.hid hbel
      clear hall htot
      clear h' hw
      by_cases hlt : k < n
      · obtain ⟨b, o, A', n', c', rfl, hb, hc0, hc1, hsi, hnc, hnil⟩ := (hs.below hbel (by omega)).at_ hlt
        obtain ⟨x, hx⟩ : ∃ x, x = (tm ts k).2 := ⟨_, rfl⟩
        rw [← hx] at hc1
        have hlen := hsi.1
        have hn' : n' ≤ 9223372036854775807 := by have := HNE.out k hlt; omega
        have HLEN := Lib.hid hlen
        clear hx hsi hbel hs hlen hnil
        have hlI : (k : Int) < (n : Int) := by omega
        by_cases hsm : l < (n' : Int)
        · have hS := fun w => szTerm_any A' n' c' x l w hn' hl0 hl1
          rw [if_pos hsm] at hS
          have HS := Lib.hid hS
          clear hS
          go_wp2_with fail
          refine (HS.out _).mono ?_
          rintro e w2 ⟨rfl, hb2⟩
          have HB2 := Lib.hid (HB.out.trans (hb2.mono HB.out.size))
          clear hb2
          go_wp2
          go_ret
          exact ⟨⟨_, rfl, .inl (by omega)⟩, HB2.out⟩
        · have hS := fun w => szTerm_any A' n' c' x l w hn' hl0 hl1
          rw [if_neg hsm] at hS
          obtain ⟨m, hm⟩ : ∃ m, m = l - (n' : Int) := ⟨_, rfl⟩
          rw [← hm] at hS
          have HS := Lib.hid hS
          have HM := Lib.hid hm
          have hm0 : 0 ≤ m := by omega
          have hm1 : m ≤ 1048576 := by omega
          have hmn : ¬ m < 0 := by omega
          have hsml : n' ≤ 1048576 := by omega
          clear hS hm
          go_wp2_with fail
          refine (HS.out _).mono ?_
          rintro e w2 ⟨rfl, hb2⟩
          have HB2 := Lib.hid (HB.out.trans (hb2.mono HB.out.size))
          clear hb2
          go_wp2
          go_roundw
          case rel =>
            have e1 := endT_succ (ts := ts) (q := 1) (k := k) (by have := HLL.out; omega)
            have e2 := HT.out.1
            have e3 := HLEN.out
            have e4 := HM.out
            have e5 := (HT.out.2 k (Nat.le_refl _)).1
            exact ⟨k + 1, m, by omega, by go_num, rfl, hm0, hm1, fun j hj => by
              rcases Nat.lt_or_ge j k with h | h
              · exact HA.out j h
              · obtain rfl : j = k := by omega
                omega, ⟨by omega, fun j hj => by
              rcases Nat.lt_or_ge j (k + 1) with h | h
              · exact HT.out.2 j (by omega)
              · obtain rfl : j = k + 1 := by omega
                omega⟩, HB2.out⟩
          case measure => simp [intOf]; omega
      · have hkn : k = n := by omega
        subst hkn
        go_wp2
        go_ret
        exact ⟨⟨l, rfl, .inr ⟨hl0, by omega, HA.out, HT.out.2⟩⟩, HB.out⟩
end Go.Proofs.Ytmndchhbafkbeaa

/-
  The document's operations on polynomials. Conditions: lengths below 2^40.
-/




namespace Go.Proofs.Ytmndchhbafkbeaa
open Go.RowKit

/-- Keys of exponents up to d. -/
def capK (d : Int) (L : List Mn) : Prop := ∀ t ∈ L, ∃ e, ex7 e ∧ (∀ k, k < 7 → nth e k ≤ d) ∧ t.1 = key7 e
theorem capK.in49 {d : Int} {L : List Mn} (h : capK d L) : ∀ t ∈ L, in49 t.1 := fun t ht => by
  obtain ⟨e, he, _, hk⟩ := h t ht
  rw [hk]; exact key7_range he
theorem capK.in50 {d : Int} {L : List Mn} (h : capK d L) : ∀ t ∈ L, in50 t.1 := fun t ht => by
  have := h.in49 t ht
  unfold Proofs.Ytmndchhbafkbeaa.in49 at this
  unfold Proofs.Ytmndchhbafkbeaa.in50
  omega
theorem capK.mono {d d' : Int} {L : List Mn} (h : capK d L) (hd : d ≤ d') : capK d' L := fun t ht => by
  obtain ⟨e, he, hc, hk⟩ := h t ht
  exact ⟨e, he, fun k hk => Int.le_trans (hc k hk) hd, hk⟩
theorem capK.gather {d : Int} {L : List Mn} (h : capK d L) : capK d (gatherL L) := fun t ht => by
  obtain ⟨v, hv, e⟩ := gatherL_keys L t ht
  rw [e]; exact h v hv
theorem capK.app {d : Int} {a b : List Mn} (h : capK d a) (h' : capK d b) : capK d (a ++ b) := fun t ht => by
  rcases List.mem_append.1 ht with ht | ht
  · exact h t ht
  · exact h' t ht
theorem capK.scale {d : Int} {a : List Mn} (c : Int) (h : capK d a) : capK d (scaleM c a) := fun t ht => by
  unfold scaleM at ht
  obtain ⟨u, hu, rfl⟩ := List.mem_map.1 ht
  exact h u hu
theorem capK.one {d : Int} {e : List Int} (he : ex7 e) (hc : ∀ k, k < 7 → nth e k ≤ d) (c : Int) : capK d [(key7 e, c)] := fun t ht => by
  rw [List.mem_singleton.1 ht]
  exact ⟨e, he, hc, rfl⟩
theorem lin_mem {f : Int → List Mn} {L : List Mn} {t : Mn} (h : t ∈ linL f L) : ∃ u ∈ L, ∃ v ∈ f u.1, t.1 = v.1 := by
  unfold linL at h
  obtain ⟨u, hu, h⟩ := List.mem_flatMap.1 h
  unfold scaleM at h
  obtain ⟨v, hv, rfl⟩ := List.mem_map.1 h
  exact ⟨u, hu, v, hv, rfl⟩
theorem capK.shift {d : Int} {L : List Mn} (h : capK d L) (hd : d ≤ 126) {i : Nat} (hi : i < 7) : capK (d + 1) (shiftL i L) := fun t ht => by
  obtain ⟨u, hu, v, hv, e⟩ := lin_mem ht
  obtain ⟨x, hx, hc, hk⟩ := h u hu
  unfold shiftF at hv
  rw [List.mem_singleton.1 hv] at e
  have h1 := hx.2 i hi
  have h2 := hc i hi
  refine ⟨incE x i, set_ex7 hx hi (by omega), fun k hk7 => ?_, ?_⟩
  · unfold incE
    rw [set_nth (by rw [hx.1]; exact hi) _ (by rw [hx.1]; exact hk7)]
    have := hc k hk7
    split <;> omega
  · rw [e, hk]
    unfold incE
    rw [set_key hx.1 hi]; show key7 x + unitI i = _; rw [show nth x i + 1 - nth x i = 1 by omega, Int.one_mul]
theorem capK.div {d : Int} {L : List Mn} (h : capK d L) {i : Nat} (hi : i < 6) : capK d (divL i L) := fun t ht => by
  obtain ⟨u, hu, v, hv, e⟩ := lin_mem ht
  obtain ⟨x, hx, hc, hk⟩ := h u hu
  unfold divF at hv
  obtain ⟨y, hy, rfl⟩ := List.mem_map.1 hv
  rw [hk, divK_key hx hi] at hy
  obtain ⟨z, hz, rfl⟩ := List.mem_map.1 hy
  unfold ddE at hz
  obtain ⟨j, hj, rfl⟩ := List.mem_map.1 hz
  have hj' := List.mem_range.1 hj
  have h1 := hx.2 i (by omega)
  have h2 := hx.2 (i + 1) (by omega)
  have h3 := hc i (by omega)
  have h4 := hc (i + 1) (by omega)
  refine ⟨_, putE_ex7 hx hi (by omega) (by omega), fun k hk7 => ?_, e⟩
  rw [putE_nth (by rw [hx.1]; omega) _ _ (by rw [hx.1]; exact hk7)]
  have := hc k hk7
  split
  · omega
  · split <;> omega
theorem capK.times {d d' : Int} {a b : List Mn} (h : capK d a) (h' : capK d' b) (hd : d + d' ≤ 127) : capK (d + d') (timesL a b) := fun t ht => by
  obtain ⟨u, hu, v, hv, e⟩ := lin_mem ht
  obtain ⟨y, hy, rfl⟩ := List.mem_map.1 hv
  obtain ⟨x, hx, hc, hk⟩ := h u hu
  obtain ⟨x', hx', hc', hk'⟩ := h' y hy
  refine ⟨addP x' x 7, ⟨addP_len _ _ _, fun k hk7 => ?_⟩, fun k hk7 => ?_, ?_⟩
  · rw [addP_nth _ _ _ hk7, if_pos hk7]
    have := hx.2 k hk7; have := hx'.2 k hk7; have := hc k hk7; have := hc' k hk7; omega
  · rw [addP_nth _ _ _ hk7, if_pos hk7]
    have := hc k hk7; have := hc' k hk7; omega
  · rw [e, hk, hk', addP_key hx'.1 hx.1]
theorem polyB_cap {ts : List Tm} (h : polyB ts = true) : ∀ u ∈ ts, ∀ k, k < 7 → nth u.1 k ≤ 24 := fun u hu k hk => by
  have hg := (goodT_iff _).1 (polyB_good' h u hu)
  exact (smallE_nth hg.2.1 (by rw [hg.1]; exact hk)).2
theorem openM_cap {ts : List Tm} (h : polyB ts = true) : capK 24 (openM ts) := fun t ht => by
  unfold openM at ht
  obtain ⟨u, hu, rfl⟩ := List.mem_map.1 ht
  exact ⟨u.1, polyB_ex7 h u hu, polyB_cap h u hu, rfl⟩
theorem gather_in64 (l : List Mn) : ∀ t ∈ gatherL l, in64 t.2 := fun t ht => ((gatherL_canon l).2 t ht).2
theorem shift_len (i : Nat) (l : List Mn) : (shiftL i l).length = l.length := by rw [shift_times, times_len]; simp

/-- What a function that makes a polynomial, or fails, hands back. -/
def FreshTB (w w' : World) (e : Ending) (b : Bool) (ts : List Tm) : Prop :=
  ∃ A n c, e = .returned (.tuple #[.slice A n c, .bool b]) ∧ OwnT w' w.heap.size w'.heap.size A n c ts ∧ Below w.heap.size w w'
def outB (ok : Bool) (L : List Mn) : Bool := ok && polyB (termsK (gatherL L))
def outL (ok : Bool) (L : List Mn) : List Tm := if ok = true then shutL (gatherL L) else []
theorem outL_small (ok : Bool) (L : List Mn) : smallT (outL ok L) := by
  unfold outL
  split
  · unfold shutL
    split
    · rename_i h
      exact ⟨polyB_len h, fun t ht => by have := ((goodT_iff _).1 (polyB_good' h t ht)).1; omega⟩
    · exact ⟨by simp, fun t ht => by simp at ht⟩
  · exact ⟨by simp, fun t ht => by simp at ht⟩
theorem outB_no {ok : Bool} {L : List Mn} (h : ok = false) : outB ok L = false ∧ outL ok L = [] := by subst h; exact ⟨rfl, rfl⟩
theorem outB_yes {ok : Bool} {L : List Mn} (h : ok = true) : outB ok L = polyB (termsK (gatherL L)) ∧ outL ok L = shutL (gatherL L) := by subst h; exact ⟨rfl, rfl⟩
theorem FreshTB.nil_ret {w w' : World} (h : Below w.heap.size w w') : FreshTB w w' (.returned (.tuple #[.slice none 0 0, .bool false])) false [] := ⟨none, 0, 0, rfl, OwnT.nil _ _ _, h⟩
def opOk (ts : List Tm) (i : Int) : Bool := polyB ts && decide (0 ≤ i ∧ i ≤ 5)
def addOk (ts us : List Tm) (k : Int) : Bool := polyB ts && polyB us && decide (-1000 ≤ k ∧ k ≤ 1000)
def mulOk (ts us : List Tm) : Bool := polyB ts && polyB us
def ddP (ts : List Tm) (i : Int) : List Mn := divL i.toNat (openM ts)
def deP (ts : List Tm) (i : Int) : List Mn := demL i.toNat (openM ts)
def atP (ts : List Tm) (i : Int) : List Mn := demL i.toNat (openM ts) ++ scaleM (-1) (openM ts)
def isP (ts : List Tm) (i : Int) : List Mn := divL i.toNat (openM ts ++ scaleM (-1) (shiftL (i.toNat + 1) (openM ts)))
def adP (ts : List Tm) (k : Int) (us : List Tm) : List Mn := openM ts ++ scaleM k (openM us)
def muP (ts us : List Tm) : List Mn := timesL (openM ts) (openM us)
/-- A slice of one term. -/
theorem MS.lit1 (w : World) (x z : Int) : MS (w.alloc (.cells #[.int .i64 x, .int .i64 z] 85)) (some ⟨w.heap.size, 0, none⟩) 1 [(x, z)] := by
  refine ⟨rfl, fun _ => ⟨w.heap.size, 0, rfl, by simp, fun k hk => ?_⟩⟩
  have hb := Blk.new w 85 #[.int .i64 x, .int .i64 z]
  obtain rfl : k = 0 := by omega
  exact ⟨hb.cell 0, hb.cell 1⟩
set_option maxRecDepth 100000 in
set_option maxHeartbeats 1000000 in
theorem l2Demazure_any (A : Option Addr) (n c : Nat) (l : List Mn) (i : Nat) (d : Int) (w : World) (hs : MS w A n l) (hn : n ≤ 7000000) (hi : i < 6) (hK : capK d l) (hd : d ≤ 126) :
    Calls Try.prog 62 #[.slice A n c, .int .i64 i] w fun e w' => FreshM w w' e (gatherL (demL i l)) := by
  have HL := Lib.hid hs.1
  have HK := Lib.hid hK
  have HS := Lib.hid hs
  have C3 := Lib.hid (fun w => l2Unit_at (j := (i : Int)) i rfl (by omega) (rfl : unitI i = unitI i) w)
  have HU := Lib.hid (unitI_pos (i := i) (by omega))
  obtain ⟨U, hU⟩ : ∃ U, U = unitI i := ⟨_, rfl⟩
  rw [← hU] at C3 HU
  have HUU := Lib.hid hU
  clear hs hK hU
  go_enter Try.func62, Try.ntmps62
  go_wp2_with (first
    | (go_at_call 108; refine (C3.out _).mono ?_; rintro e w1 ⟨rfl, rfl⟩)
    | (go_at_call 73; refine (l2Times_any A n c l (some ⟨w1.heap.size, 0, none⟩) 1 1 [(U, 1)] (w1.alloc (.cells #[.int .i64 U, .int .i64 1] 85)) (HS.out.below ((Below.refl w1.heap.size w1).alloc (Nat.le_refl _) _) (Nat.le_refl _)) (MS.lit1 w1 U 1) (by omega) (by omega) (by omega) HK.out.in50 (fun t ht => by rw [List.mem_singleton.1 ht]; have := HU.out; unfold in50; show 0 ≤ U ∧ U < _; omega)).mono ?_; rintro e w2 ⟨A2, n2, c2, rfl, ho, hb⟩; have HO2 := Lib.hid ho; have HB2 := Lib.hid hb; clear ho hb)
    | (go_at_call 55; refine (l2Divided_any A2 n2 c2 _ i _ HO2.out.si (by
         have h1 := HO2.out.len
         have h2 := gatherL_len (timesL l [(U, 1)])
         rw [times_len, HL.out] at h2
         simp at h2; omega) hi (fun t ht => by
           rw [HUU.out, ← shift_times] at ht
           exact ((HK.out.shift hd (by omega : i < 7)).gather).in49 t ht) (gather_in64 _)).mono ?_; rintro e w3 ⟨A3, n3, c3, rfl, ho, hb⟩; have HO3 := Lib.hid ho; have HB3 := Lib.hid hb; clear ho hb))
  go_ret
  have e3 : gatherL (divL i (gatherL (timesL l [(U, 1)]))) = gatherL (demL i l) := by
    rw [HUU.out, ← shift_times]
    exact sameC.gather ((sameC.gath _).lin _)
  have s1 : Below w1.heap.size w1 w2 := ((Below.refl w1.heap.size w1).alloc (Nat.le_refl _) _).trans (HB2.out.mono (by simp))
  have s2 := s1.size
  refine ⟨A3, n3, c3, rfl, ?_, s1.trans (HB3.out.mono s2)⟩
  have := HO3.out.wide s2 (Nat.le_refl _)
  rw [e3] at this
  exact this
set_option maxRecDepth 100000 in
set_option maxHeartbeats 1000000 in
theorem l2Isobaric_any (A : Option Addr) (n c : Nat) (l : List Mn) (i : Nat) (d : Int) (w : World) (hs : MS w A n l) (hn : n ≤ 3000000) (hi : i < 6) (hK : capK d l) (hd : d ≤ 126) (h64 : ∀ t ∈ l, in64 t.2) :
    Calls Try.prog 66 #[.slice A n c, .int .i64 i] w fun e w' => FreshM w w' e (gatherL (divL i (l ++ scaleM (-1) (shiftL (i + 1) l)))) := by
  have HL := Lib.hid hs.1
  have HK := Lib.hid hK
  have HS := Lib.hid hs
  have H64 := Lib.hid h64
  have C3 := Lib.hid (fun w => l2Unit_at (j := (i : Int) + 1) (i + 1) (by omega) (by omega) (rfl : unitI (i + 1) = unitI (i + 1)) w)
  have HU := Lib.hid (unitI_pos (i := i + 1) (by omega))
  have hw0 : IntKind.i64.wrap ((i : Int) + 1) = (i : Int) + 1 := IntWalk.i64_in _ (by omega)
  obtain ⟨U, hU⟩ : ∃ U, U = unitI (i + 1) := ⟨_, rfl⟩
  rw [← hU] at C3 HU
  have HUU := Lib.hid hU
  clear hs hK hU h64
  go_enter Try.func66, Try.ntmps66
  go_wp2_with (first
    | (go_at_call 108; refine (C3.out _).mono ?_; rintro e w1 ⟨rfl, rfl⟩)
    | (go_at_call 73; refine (l2Times_any A n c l (some ⟨w1.heap.size, 0, none⟩) 1 1 [(U, 1)] (w1.alloc (.cells #[.int .i64 U, .int .i64 1] 85)) (HS.out.below ((Below.refl w1.heap.size w1).alloc (Nat.le_refl _) _) (Nat.le_refl _)) (MS.lit1 w1 U 1) (by omega) (by omega) (by omega) HK.out.in50 (fun t ht => by rw [List.mem_singleton.1 ht]; have := HU.out; unfold in50; show 0 ≤ U ∧ U < _; omega)).mono ?_; rintro e w2 ⟨A2, n2, c2, rfl, ho, hb⟩
       have HN2 : Hid (n2 ≤ n) := Lib.hid (by
         have h1 := ho.len
         have h2 := gatherL_len (timesL l [(U, 1)])
         rw [times_len, HL.out] at h2
         simp at h2; omega)
       have HO2 := Lib.hid ho
       have HB2 : Hid (Below w1.heap.size w1 w2) := Lib.hid (((Below.refl w1.heap.size w1).alloc (Nat.le_refl _) _).trans (hb.mono (by simp)))
       clear ho hb)
    | (go_at_call 64; refine (l2Plus_any A n c l (-1) A2 n2 c2 _ _ (HS.out.below HB2.out (Nat.le_refl _)) HO2.out.si (by omega) (by have := HN2.out; omega) H64.out).mono ?_; rintro e w3 ⟨A3, n3, c3, rfl, ho, hb⟩
       have HN3 : Hid (n3 ≤ 7000000) := Lib.hid (by
         have h1 := ho.len
         have h2 := gatherL_len (l ++ scaleM (-1) (gatherL (timesL l [(U, 1)])))
         have h3 := HO2.out.len
         have h4 := HN2.out
         have h5 : (scaleM (-1) (gatherL (timesL l [(U, 1)]))).length = n2 := by unfold scaleM; rw [List.length_map, h3]
         rw [List.length_append, HL.out, h5] at h2
         omega)
       have HO3 := Lib.hid ho; have HB3 := Lib.hid hb; clear ho hb)
    | (go_at_call 55; refine (l2Divided_any A3 n3 c3 _ i _ HO3.out.si HN3.out hi (fun t ht => by
           rw [HUU.out, ← shift_times] at ht
           exact (((HK.out.mono (by omega)).app (((HK.out.shift hd (by omega : i + 1 < 7)).gather).scale (-1))).gather).in49 t ht) (gather_in64 _)).mono ?_; rintro e w4 ⟨A4, n4, c4, rfl, ho, hb⟩; have HO4 := Lib.hid ho; have HB4 := Lib.hid hb; clear ho hb))
  go_ret
  have e3 : gatherL (divL i (gatherL (l ++ scaleM (-1) (gatherL (timesL l [(U, 1)]))))) = gatherL (divL i (l ++ scaleM (-1) (shiftL (i + 1) l))) := by
    rw [HUU.out, ← shift_times]
    exact sameC.gather (((sameC.gath _).trans ((sameC.refl _).app ((sameC.gath _).scale _))).lin _)
  have s2 := HB2.out.size
  have s3 := HB3.out.size
  refine ⟨A4, n4, c4, rfl, ?_, (HB2.out.trans (HB3.out.mono s2)).trans (HB4.out.mono (by omega))⟩
  have := HO4.out.wide (Nat.le_trans s2 s3) (Nat.le_refl _)
  rw [e3] at this
  exact this
set_option maxRecDepth 100000 in
set_option maxHeartbeats 1000000 in
theorem specDividedDifference_any (A : Option Addr) (n c : Nat) (ts : List Tm) (i : Int) (w : World) (hs : TS w A n ts) (hn : n ≤ 1099511627776) (hne : ∀ k, k < n → (tm ts k).1.length ≤ 1099511627776) :
    Calls Try.prog 16 #[.slice A n c, .int .i64 i] w fun r w' => FreshTB w w' r (outB (opOk ts i) (ddP ts i)) (outL (opOk ts i) (ddP ts i)) := by
  have hP := specPolyOk_any A n c ts w hs hn hne
  have hV := fun w => l2Variable_any i w
  cases hu : polyB ts with
  | false =>
    rw [hu] at hP
    have HE := Lib.hid (outB_no (ok := opOk ts i) (L := ddP ts i) (by unfold opOk; rw [hu]; rfl))
    have HP := Lib.hid hP
    clear hP hu hV
    go_enter Try.func16, Try.ntmps16
    go_wp2_with (go_at_call 52; refine HP.out.mono ?_; rintro e w7 ⟨rfl, hd7⟩; have HD7 := Lib.hid hd7; clear hd7)
    go_ret2
    rw [HE.out.1, HE.out.2]
    exact FreshTB.nil_ret (HD7.out.below _)
  | true =>
    rw [hu] at hP
    by_cases hi : 0 ≤ i ∧ i ≤ 5
    · have HE := Lib.hid (outB_yes (ok := opOk ts i) (L := ddP ts i) (by unfold opOk; rw [hu, decide_eq_true hi]; rfl))
      obtain ⟨m, rfl⟩ : ∃ m : Nat, i = m := ⟨i.toNat, by omega⟩
      have hm5 : m < 6 := by omega
      have h64 : ∀ u ∈ ts, in64 u.2 := fun u hu' => (good_in64 (polyB_good' hu u hu')).2
      have hnl : n ≤ 600 := by have := polyB_len hu; have := hs.1; omega
      have HKK := Lib.hid (openM_cap hu)
      have H64 := Lib.hid (open_in64 h64)
      have HL := Lib.hid hs.1
      rw [decide_eq_true hi] at hV
      have HP := Lib.hid hP
      have HV := Lib.hid hV
      have HOP := Lib.hid (fun w' (hd : Below w.heap.size w w') => l2Open_any A n c ts w' (hs.below hd (Nat.le_refl _)) (by omega) (fun k hk => by
        have := (goodT_iff _).1 (polyB_good hu (k := k) (by rw [hs.1]; exact hk))
        exact ⟨this.1, this.2.1⟩))
      clear hP hu hV hi h64 hs
      go_enter Try.func16, Try.ntmps16
      go_wp2_with (first
        | (go_at_call 52; refine HP.out.mono ?_; rintro e w7 ⟨rfl, hd7⟩; have HD7 := Lib.hid (hd7.below w.heap.size); clear hd7)
        | (go_at_call 53; refine (HV.out _).mono ?_; rintro e w8 ⟨rfl, rfl⟩)
        | (go_at_call 56; refine (HOP.out _ HD7.out).mono ?_; rintro e w1 ⟨A1, n1, c1, rfl, ho, hb⟩
           obtain rfl : n = n1 := by have := ho.len; unfold openM at this; rw [List.length_map, HL.out] at this; exact this
           have HB1 : Hid (Below w.heap.size w w1) := Lib.hid (HD7.out.trans (hb.mono HD7.out.size))
           have HO1 := Lib.hid ho
           have HS1 := Lib.hid hb
           clear ho hb)
        | (go_at_call 55; refine (l2Divided_any A1 n c1 (openM ts) m _ HO1.out.si (by omega) hm5 HKK.out.in49 H64.out).mono ?_; rintro e w2 ⟨A2, n2, c2, rfl, ho, hb⟩
           have HN2 : Hid (n2 ≤ 1000000) := Lib.hid (by
             have h1 := ho.len
             have h2 := gatherL_len (divL m (openM ts))
             have h3 := div_len m (openM ts)
             have h4 := HO1.out.len
             omega)
           have HB2 : Hid (Below w.heap.size w w2) := Lib.hid (HB1.out.trans (hb.mono HB1.out.size))
           have HO2 := Lib.hid ho
           have HS2 := Lib.hid hb
           clear ho hb)
        | (go_at_call 54; refine (l2Shut_any A2 n2 c2 _ _ HO2.out.si (by have := HN2.out; omega) (((HKK.out.div hm5).gather).in49)).mono ?_; rintro e w3 ⟨A3, n3, c3, rfl, ho, hb⟩
           have HB3 : Hid (Below w.heap.size w w3) := Lib.hid (HB2.out.trans (hb.mono HB2.out.size))
           have HO3 := Lib.hid ho
           have HZ3 := Lib.hid HB2.out.size
           clear ho hb))
      go_ret2
      rw [HE.out.1, HE.out.2]
      rw [show ddP ts (m : Int) = divL m (openM ts) by unfold ddP; rw [Int.toNat_natCast]]
      exact ⟨A3, n3, c3, rfl, HO3.out.wide HZ3.out (Nat.le_refl _), HB3.out⟩
    · have HE := Lib.hid (outB_no (ok := opOk ts i) (L := ddP ts i) (by unfold opOk; rw [decide_eq_false hi, Bool.and_false]))
      rw [decide_eq_false hi] at hV
      have HP := Lib.hid hP
      have HV := Lib.hid hV
      clear hP hu hV hi
      go_enter Try.func16, Try.ntmps16
      go_wp2_with (first
        | (go_at_call 52; refine HP.out.mono ?_; rintro e w7 ⟨rfl, hd7⟩; have HD7 := Lib.hid hd7; clear hd7)
        | (go_at_call 53; refine (HV.out _).mono ?_; rintro e w8 ⟨rfl, rfl⟩))
      go_ret2
      rw [HE.out.1, HE.out.2]
      exact FreshTB.nil_ret (HD7.out.below _)
set_option maxRecDepth 100000 in
set_option maxHeartbeats 1000000 in
theorem specDemazureOf_any (A : Option Addr) (n c : Nat) (ts : List Tm) (i : Int) (w : World) (hs : TS w A n ts) (hn : n ≤ 1099511627776) (hne : ∀ k, k < n → (tm ts k).1.length ≤ 1099511627776) :
    Calls Try.prog 22 #[.slice A n c, .int .i64 i] w fun r w' => FreshTB w w' r (outB (opOk ts i) (deP ts i)) (outL (opOk ts i) (deP ts i)) := by
  have hP := specPolyOk_any A n c ts w hs hn hne
  have hV := fun w => l2Variable_any i w
  cases hu : polyB ts with
  | false =>
    rw [hu] at hP
    have HE := Lib.hid (outB_no (ok := opOk ts i) (L := deP ts i) (by unfold opOk; rw [hu]; rfl))
    have HP := Lib.hid hP
    clear hP hu hV
    go_enter Try.func22, Try.ntmps22
    go_wp2_with (go_at_call 52; refine HP.out.mono ?_; rintro e w7 ⟨rfl, hd7⟩; have HD7 := Lib.hid hd7; clear hd7)
    go_ret2
    rw [HE.out.1, HE.out.2]
    exact FreshTB.nil_ret (HD7.out.below _)
  | true =>
    rw [hu] at hP
    by_cases hi : 0 ≤ i ∧ i ≤ 5
    · have HE := Lib.hid (outB_yes (ok := opOk ts i) (L := deP ts i) (by unfold opOk; rw [hu, decide_eq_true hi]; rfl))
      obtain ⟨m, rfl⟩ : ∃ m : Nat, i = m := ⟨i.toNat, by omega⟩
      have hm5 : m < 6 := by omega
      have h64 : ∀ u ∈ ts, in64 u.2 := fun u hu' => (good_in64 (polyB_good' hu u hu')).2
      have hnl : n ≤ 600 := by have := polyB_len hu; have := hs.1; omega
      have HKK := Lib.hid (openM_cap hu)
      have H64 := Lib.hid (open_in64 h64)
      have HL := Lib.hid hs.1
      rw [decide_eq_true hi] at hV
      have HP := Lib.hid hP
      have HV := Lib.hid hV
      have HOP := Lib.hid (fun w' (hd : Below w.heap.size w w') => l2Open_any A n c ts w' (hs.below hd (Nat.le_refl _)) (by omega) (fun k hk => by
        have := (goodT_iff _).1 (polyB_good hu (k := k) (by rw [hs.1]; exact hk))
        exact ⟨this.1, this.2.1⟩))
      clear hP hu hV hi h64 hs
      go_enter Try.func22, Try.ntmps22
      go_wp2_with (first
        | (go_at_call 52; refine HP.out.mono ?_; rintro e w7 ⟨rfl, hd7⟩; have HD7 := Lib.hid (hd7.below w.heap.size); clear hd7)
        | (go_at_call 53; refine (HV.out _).mono ?_; rintro e w8 ⟨rfl, rfl⟩)
        | (go_at_call 56; refine (HOP.out _ HD7.out).mono ?_; rintro e w1 ⟨A1, n1, c1, rfl, ho, hb⟩
           obtain rfl : n = n1 := by have := ho.len; unfold openM at this; rw [List.length_map, HL.out] at this; exact this
           have HB1 : Hid (Below w.heap.size w w1) := Lib.hid (HD7.out.trans (hb.mono HD7.out.size))
           have HO1 := Lib.hid ho
           have HS1 := Lib.hid hb
           clear ho hb)
        | (go_at_call 62; refine (l2Demazure_any A1 n c1 (openM ts) m 24 _ HO1.out.si (by omega) hm5 HKK.out (by omega)).mono ?_; rintro e w2 ⟨A2, n2, c2, rfl, ho, hb⟩
           have HN2 : Hid (n2 ≤ 1000000) := Lib.hid (by
             have h1 := ho.len
             have h2 := gatherL_len (demL m (openM ts))
             have h3 := div_len m (shiftL m (openM ts))
             have h4 := HO1.out.len
             rw [shift_len] at h3
             unfold demL at h2
             unfold demL at h1
             omega)
           have HB2 : Hid (Below w.heap.size w w2) := Lib.hid (HB1.out.trans (hb.mono HB1.out.size))
           have HO2 := Lib.hid ho
           have HS2 := Lib.hid hb
           clear ho hb)
        | (go_at_call 54; refine (l2Shut_any A2 n2 c2 _ _ HO2.out.si (by have := HN2.out; omega) ((((HKK.out.shift (by omega) (by omega : m < 7)).div hm5).gather).in49)).mono ?_; rintro e w3 ⟨A3, n3, c3, rfl, ho, hb⟩
           have HB3 : Hid (Below w.heap.size w w3) := Lib.hid (HB2.out.trans (hb.mono HB2.out.size))
           have HO3 := Lib.hid ho
           have HZ3 := Lib.hid HB2.out.size
           clear ho hb))
      go_ret2
      rw [HE.out.1, HE.out.2]
      rw [show deP ts (m : Int) = demL m (openM ts) by unfold deP; rw [Int.toNat_natCast]]
      exact ⟨A3, n3, c3, rfl, HO3.out.wide HZ3.out (Nat.le_refl _), HB3.out⟩
    · have HE := Lib.hid (outB_no (ok := opOk ts i) (L := deP ts i) (by unfold opOk; rw [decide_eq_false hi, Bool.and_false]))
      rw [decide_eq_false hi] at hV
      have HP := Lib.hid hP
      have HV := Lib.hid hV
      clear hP hu hV hi
      go_enter Try.func22, Try.ntmps22
      go_wp2_with (first
        | (go_at_call 52; refine HP.out.mono ?_; rintro e w7 ⟨rfl, hd7⟩; have HD7 := Lib.hid hd7; clear hd7)
        | (go_at_call 53; refine (HV.out _).mono ?_; rintro e w8 ⟨rfl, rfl⟩))
      go_ret2
      rw [HE.out.1, HE.out.2]
      exact FreshTB.nil_ret (HD7.out.below _)
set_option maxRecDepth 100000 in
set_option maxHeartbeats 1000000 in
theorem specAtomOf_any (A : Option Addr) (n c : Nat) (ts : List Tm) (i : Int) (w : World) (hs : TS w A n ts) (hn : n ≤ 1099511627776) (hne : ∀ k, k < n → (tm ts k).1.length ≤ 1099511627776) :
    Calls Try.prog 24 #[.slice A n c, .int .i64 i] w fun r w' => FreshTB w w' r (outB (opOk ts i) (atP ts i)) (outL (opOk ts i) (atP ts i)) := by
  have hP := specPolyOk_any A n c ts w hs hn hne
  have hV := fun w => l2Variable_any i w
  cases hu : polyB ts with
  | false =>
    rw [hu] at hP
    have HE := Lib.hid (outB_no (ok := opOk ts i) (L := atP ts i) (by unfold opOk; rw [hu]; rfl))
    have HP := Lib.hid hP
    clear hP hu hV
    go_enter Try.func24, Try.ntmps24
    go_wp2_with (go_at_call 52; refine HP.out.mono ?_; rintro e w7 ⟨rfl, hd7⟩; have HD7 := Lib.hid hd7; clear hd7)
    go_ret2
    rw [HE.out.1, HE.out.2]
    exact FreshTB.nil_ret (HD7.out.below _)
  | true =>
    rw [hu] at hP
    by_cases hi : 0 ≤ i ∧ i ≤ 5
    · have HE := Lib.hid (outB_yes (ok := opOk ts i) (L := atP ts i) (by unfold opOk; rw [hu, decide_eq_true hi]; rfl))
      obtain ⟨m, rfl⟩ : ∃ m : Nat, i = m := ⟨i.toNat, by omega⟩
      have hm5 : m < 6 := by omega
      have h64 : ∀ u ∈ ts, in64 u.2 := fun u hu' => (good_in64 (polyB_good' hu u hu')).2
      have hnl : n ≤ 600 := by have := polyB_len hu; have := hs.1; omega
      have HKK := Lib.hid (openM_cap hu)
      have H64 := Lib.hid (open_in64 h64)
      have HL := Lib.hid hs.1
      rw [decide_eq_true hi] at hV
      have HP := Lib.hid hP
      have HV := Lib.hid hV
      have HOP := Lib.hid (fun w' (hd : Below w.heap.size w w') => l2Open_any A n c ts w' (hs.below hd (Nat.le_refl _)) (by omega) (fun k hk => by
        have := (goodT_iff _).1 (polyB_good hu (k := k) (by rw [hs.1]; exact hk))
        exact ⟨this.1, this.2.1⟩))
      clear hP hu hV hi h64 hs
      go_enter Try.func24, Try.ntmps24
      go_wp2_with (first
        | (go_at_call 52; refine HP.out.mono ?_; rintro e w7 ⟨rfl, hd7⟩; have HD7 := Lib.hid (hd7.below w.heap.size); clear hd7)
        | (go_at_call 53; refine (HV.out _).mono ?_; rintro e w8 ⟨rfl, rfl⟩)
        | (go_at_call 56; first
            | (refine (HOP.out _ HB2.out).mono ?_; rintro e w3 ⟨A3, n3, c3, rfl, ho, hb⟩
               obtain rfl : n = n3 := by have := ho.len; unfold openM at this; rw [List.length_map, HL.out] at this; exact this
               have HB3 : Hid (Below w.heap.size w w3) := Lib.hid (HB2.out.trans (hb.mono HB2.out.size))
               have HO3 := Lib.hid ho
               have HO2' := Lib.hid (HO2.out.below hb (Nat.le_refl _))
               clear ho hb)
            | (refine (HOP.out _ HD7.out).mono ?_; rintro e w1 ⟨A1, n1, c1, rfl, ho, hb⟩
               obtain rfl : n = n1 := by have := ho.len; unfold openM at this; rw [List.length_map, HL.out] at this; exact this
               have HB1 : Hid (Below w.heap.size w w1) := Lib.hid (HD7.out.trans (hb.mono HD7.out.size))
               have HO1 := Lib.hid ho
               clear ho hb))
        | (go_at_call 62; refine (l2Demazure_any A1 n c1 (openM ts) m 24 _ HO1.out.si (by omega) hm5 HKK.out (by omega)).mono ?_; rintro e w2 ⟨A2, n2, c2, rfl, ho, hb⟩
           have HN2 : Hid (n2 ≤ 1000000) := Lib.hid (by
             have h1 := ho.len
             have h2 := gatherL_len (demL m (openM ts))
             have h3 := div_len m (shiftL m (openM ts))
             have h4 := HO1.out.len
             rw [shift_len] at h3
             unfold demL at h2
             unfold demL at h1
             omega)
           have HB2 : Hid (Below w.heap.size w w2) := Lib.hid (HB1.out.trans (hb.mono HB1.out.size))
           have HO2 := Lib.hid ho
           have HS2 := Lib.hid hb
           clear ho hb)
        | (go_at_call 64; refine (l2Plus_any A2 n2 c2 _ (-1) A3 n c3 (openM ts) _ HO2'.out.si HO3.out.si (by have := HN2.out; omega) (by omega) (gather_in64 _)).mono ?_; rintro e w4 ⟨A4, n4, c4, rfl, ho, hb⟩
           have HN4 : Hid (n4 ≤ 1000000) := Lib.hid (by
             have h1 := ho.len
             have h2 := gatherL_len (gatherL (demL m (openM ts)) ++ scaleM (-1) (openM ts))
             have h3 := gatherL_len (demL m (openM ts))
             have h4 := HO1.out.len
             have h5 := div_len m (shiftL m (openM ts))
             rw [shift_len] at h5
             have h6 : (scaleM (-1) (openM ts)).length = (openM ts).length := by unfold scaleM; rw [List.length_map]
             rw [List.length_append, h6] at h2
             have h7 : (gatherL (demL m (openM ts))).length ≤ 127 * (openM ts).length := Nat.le_trans h3 h5
             omega)
           have HB4 : Hid (Below w.heap.size w w4) := Lib.hid (HB3.out.trans (hb.mono HB3.out.size))
           have HO4 := Lib.hid ho
           have HS4 := Lib.hid hb
           clear ho hb)
        | (go_at_call 54; refine (l2Shut_any A4 n4 c4 _ _ HO4.out.si (by have := HN4.out; omega) ((((((HKK.out.shift (by omega) (by omega : m < 7)).div hm5).gather).app ((HKK.out.mono (by omega)).scale (-1))).gather).in49)).mono ?_; rintro e w5 ⟨A5, n5, c5, rfl, ho, hb⟩
           have HB5 : Hid (Below w.heap.size w w5) := Lib.hid (HB4.out.trans (hb.mono HB4.out.size))
           have HO5 := Lib.hid ho
           have HZ5 := Lib.hid HB4.out.size
           clear ho hb))
      go_ret2
      rw [HE.out.1, HE.out.2]
      have e3 : gatherL (gatherL (demL m (openM ts)) ++ scaleM (-1) (openM ts)) = gatherL (atP ts (m : Int)) := by
        unfold atP
        rw [Int.toNat_natCast]
        exact sameC.gather ((sameC.gath _).app (sameC.refl _))
      rw [← e3]
      exact ⟨A5, n5, c5, rfl, HO5.out.wide HZ5.out (Nat.le_refl _), HB5.out⟩
    · have HE := Lib.hid (outB_no (ok := opOk ts i) (L := atP ts i) (by unfold opOk; rw [decide_eq_false hi, Bool.and_false]))
      rw [decide_eq_false hi] at hV
      have HP := Lib.hid hP
      have HV := Lib.hid hV
      clear hP hu hV hi
      go_enter Try.func24, Try.ntmps24
      go_wp2_with (first
        | (go_at_call 52; refine HP.out.mono ?_; rintro e w7 ⟨rfl, hd7⟩; have HD7 := Lib.hid hd7; clear hd7)
        | (go_at_call 53; refine (HV.out _).mono ?_; rintro e w8 ⟨rfl, rfl⟩))
      go_ret2
      rw [HE.out.1, HE.out.2]
      exact FreshTB.nil_ret (HD7.out.below _)
set_option maxRecDepth 100000 in
set_option maxHeartbeats 1000000 in
theorem specIsobaricOf_any (A : Option Addr) (n c : Nat) (ts : List Tm) (i : Int) (w : World) (hs : TS w A n ts) (hn : n ≤ 1099511627776) (hne : ∀ k, k < n → (tm ts k).1.length ≤ 1099511627776) :
    Calls Try.prog 26 #[.slice A n c, .int .i64 i] w fun r w' => FreshTB w w' r (outB (opOk ts i) (isP ts i)) (outL (opOk ts i) (isP ts i)) := by
  have hP := specPolyOk_any A n c ts w hs hn hne
  have hV := fun w => l2Variable_any i w
  cases hu : polyB ts with
  | false =>
    rw [hu] at hP
    have HE := Lib.hid (outB_no (ok := opOk ts i) (L := isP ts i) (by unfold opOk; rw [hu]; rfl))
    have HP := Lib.hid hP
    clear hP hu hV
    go_enter Try.func26, Try.ntmps26
    go_wp2_with (go_at_call 52; refine HP.out.mono ?_; rintro e w7 ⟨rfl, hd7⟩; have HD7 := Lib.hid hd7; clear hd7)
    go_ret2
    rw [HE.out.1, HE.out.2]
    exact FreshTB.nil_ret (HD7.out.below _)
  | true =>
    rw [hu] at hP
    by_cases hi : 0 ≤ i ∧ i ≤ 5
    · have HE := Lib.hid (outB_yes (ok := opOk ts i) (L := isP ts i) (by unfold opOk; rw [hu, decide_eq_true hi]; rfl))
      obtain ⟨m, rfl⟩ : ∃ m : Nat, i = m := ⟨i.toNat, by omega⟩
      have hm5 : m < 6 := by omega
      have h64 : ∀ u ∈ ts, in64 u.2 := fun u hu' => (good_in64 (polyB_good' hu u hu')).2
      have hnl : n ≤ 600 := by have := polyB_len hu; have := hs.1; omega
      have HKK := Lib.hid (openM_cap hu)
      have H64 := Lib.hid (open_in64 h64)
      have HL := Lib.hid hs.1
      rw [decide_eq_true hi] at hV
      have HP := Lib.hid hP
      have HV := Lib.hid hV
      have HOP := Lib.hid (fun w' (hd : Below w.heap.size w w') => l2Open_any A n c ts w' (hs.below hd (Nat.le_refl _)) (by omega) (fun k hk => by
        have := (goodT_iff _).1 (polyB_good hu (k := k) (by rw [hs.1]; exact hk))
        exact ⟨this.1, this.2.1⟩))
      clear hP hu hV hi h64 hs
      go_enter Try.func26, Try.ntmps26
      go_wp2_with (first
        | (go_at_call 52; refine HP.out.mono ?_; rintro e w7 ⟨rfl, hd7⟩; have HD7 := Lib.hid (hd7.below w.heap.size); clear hd7)
        | (go_at_call 53; refine (HV.out _).mono ?_; rintro e w8 ⟨rfl, rfl⟩)
        | (go_at_call 56; refine (HOP.out _ HD7.out).mono ?_; rintro e w1 ⟨A1, n1, c1, rfl, ho, hb⟩
           obtain rfl : n = n1 := by have := ho.len; unfold openM at this; rw [List.length_map, HL.out] at this; exact this
           have HB1 : Hid (Below w.heap.size w w1) := Lib.hid (HD7.out.trans (hb.mono HD7.out.size))
           have HO1 := Lib.hid ho
           have HS1 := Lib.hid hb
           clear ho hb)
        | (go_at_call 66; refine (l2Isobaric_any A1 n c1 (openM ts) m 24 _ HO1.out.si (by omega) hm5 HKK.out (by omega) H64.out).mono ?_; rintro e w2 ⟨A2, n2, c2, rfl, ho, hb⟩
           have HN2 : Hid (n2 ≤ 1000000) := Lib.hid (by
             have h1 := ho.len
             have h2 := gatherL_len (divL m (openM ts ++ scaleM (-1) (shiftL (m + 1) (openM ts))))
             have h3 := div_len m (openM ts ++ scaleM (-1) (shiftL (m + 1) (openM ts)))
             have h4 := HO1.out.len
             rw [List.length_append] at h3
             have h5 : (scaleM (-1) (shiftL (m + 1) (openM ts))).length = (openM ts).length := by unfold scaleM; rw [List.length_map, shift_len]
             omega)
           have HB2 : Hid (Below w.heap.size w w2) := Lib.hid (HB1.out.trans (hb.mono HB1.out.size))
           have HO2 := Lib.hid ho
           have HS2 := Lib.hid hb
           clear ho hb)
        | (go_at_call 54; refine (l2Shut_any A2 n2 c2 _ _ HO2.out.si (by have := HN2.out; omega) ((((((HKK.out.mono (by omega)).app ((HKK.out.shift (by omega) (by omega : m + 1 < 7)).scale (-1))).div hm5)).gather).in49)).mono ?_; rintro e w3 ⟨A3, n3, c3, rfl, ho, hb⟩
           have HB3 : Hid (Below w.heap.size w w3) := Lib.hid (HB2.out.trans (hb.mono HB2.out.size))
           have HO3 := Lib.hid ho
           have HZ3 := Lib.hid HB2.out.size
           clear ho hb))
      go_ret2
      rw [HE.out.1, HE.out.2]
      rw [show isP ts (m : Int) = divL m (openM ts ++ scaleM (-1) (shiftL (m + 1) (openM ts))) by unfold isP; rw [Int.toNat_natCast]]
      exact ⟨A3, n3, c3, rfl, HO3.out.wide HZ3.out (Nat.le_refl _), HB3.out⟩
    · have HE := Lib.hid (outB_no (ok := opOk ts i) (L := isP ts i) (by unfold opOk; rw [decide_eq_false hi, Bool.and_false]))
      rw [decide_eq_false hi] at hV
      have HP := Lib.hid hP
      have HV := Lib.hid hV
      clear hP hu hV hi
      go_enter Try.func26, Try.ntmps26
      go_wp2_with (first
        | (go_at_call 52; refine HP.out.mono ?_; rintro e w7 ⟨rfl, hd7⟩; have HD7 := Lib.hid hd7; clear hd7)
        | (go_at_call 53; refine (HV.out _).mono ?_; rintro e w8 ⟨rfl, rfl⟩))
      go_ret2
      rw [HE.out.1, HE.out.2]
      exact FreshTB.nil_ret (HD7.out.below _)
end Go.Proofs.Ytmndchhbafkbeaa

/-
  Lists that are exchanged at their first ascents until they descend, and what operators make on the way back: plain lemmas. Conditions: seven numbers from 0 to 127.
-/


namespace Go.Proofs.Ytmndchhbafkbeaa
open Go.RowKit

def firstFrom (e : List Int) : Nat → Nat → Option Nat
  | 0, _ => none
  | f + 1, k => if nth e k < nth e (k + 1) then some k else firstFrom e f (k + 1)
/-- The first place at which a list of seven ascends. -/
def firstUp (e : List Int) : Option Nat := firstFrom e 6 0
theorem firstFrom_none {e : List Int} : ∀ {f k : Nat}, (∀ j, k ≤ j → j < k + f → ¬ nth e j < nth e (j + 1)) → firstFrom e f k = none
  | 0, _, _ => rfl
  | f + 1, k, h => by
    unfold firstFrom
    rw [if_neg (h k (Nat.le_refl _) (by omega))]
    exact firstFrom_none fun j h1 h2 => h j (by omega) (by omega)
theorem firstFrom_some {e : List Int} {m : Nat} (hm : nth e m < nth e (m + 1)) : ∀ {f k : Nat}, k ≤ m → m < k + f → (∀ j, k ≤ j → j < m → ¬ nth e j < nth e (j + 1)) → firstFrom e f k = some m
  | 0, k, h1, h2, _ => absurd h1 (by omega)
  | f + 1, k, h1, h2, h => by
    unfold firstFrom
    by_cases hk : k = m
    · subst hk; rw [if_pos hm]
    · rw [if_neg (h k (Nat.le_refl _) (by omega))]
      exact firstFrom_some hm (by omega) (by omega) fun j h3 h4 => h j (by omega) h4
theorem firstFrom_is {e : List Int} : ∀ {f k m : Nat}, firstFrom e f k = some m → k ≤ m ∧ m < k + f ∧ nth e m < nth e (m + 1)
  | 0, _, _, h => by simp [firstFrom] at h
  | f + 1, k, m, h => by
    unfold firstFrom at h
    split at h
    · injection h with h; subst h; exact ⟨Nat.le_refl _, by omega, by assumption⟩
    · have := firstFrom_is h; exact ⟨by omega, by omega, this.2.2⟩
theorem firstFrom_no {e : List Int} : ∀ {f k : Nat}, firstFrom e f k = none → ∀ j, k ≤ j → j < k + f → ¬ nth e j < nth e (j + 1)
  | 0, _, _, j, h1, h2 => absurd h1 (by omega)
  | f + 1, k, h, j, h1, h2 => by
    unfold firstFrom at h
    split at h
    · cases h
    · by_cases hk : j = k
      · subst hk; assumption
      · exact firstFrom_no h j (by omega) (by omega)
theorem firstUp_none {e : List Int} (h : ∀ j, j < 6 → ¬ nth e j < nth e (j + 1)) : firstUp e = none := firstFrom_none fun j _ h2 => h j (by omega)
theorem firstUp_some {e : List Int} {m : Nat} (h6 : m < 6) (hm : nth e m < nth e (m + 1)) (h : ∀ j, j < m → ¬ nth e j < nth e (j + 1)) : firstUp e = some m := firstFrom_some hm (by omega) (by omega) fun j _ h2 => h j h2
theorem firstUp_is {e : List Int} {m : Nat} (h : firstUp e = some m) : m < 6 ∧ nth e m < nth e (m + 1) := by have := firstFrom_is h; exact ⟨by omega, this.2.2⟩
theorem firstUp_no {e : List Int} (h : firstUp e = none) : ∀ j, j < 6 → ¬ nth e j < nth e (j + 1) := fun j hj => firstFrom_no h j (by omega) (by omega)
/-- What falls with each exchange at an ascent. -/
def mu7 (e : List Int) : Int := nth e 1 + 2 * nth e 2 + 3 * nth e 3 + 4 * nth e 4 + 5 * nth e 5 + 6 * nth e 6
abbrev swU (e : List Int) (k : Nat) : List Int := swapL e k (k + 1)
theorem swU_cases {e : List Int} (h : ex7 e) {k : Nat} (hk : k < 6) : ex7 (swU e k) ∧ mu7 (swU e k) = mu7 e - (nth e (k + 1) - nth e k) ∧ 0 ≤ mu7 e ∧ mu7 e ≤ 2667 := by
  obtain ⟨a, b, c, d, f, g, i, rfl, ha, hb, hc, hd, hf, hg, hi⟩ := ex7_cases h
  refine ⟨⟨by simp [swU, swapL_len], fun j hj => ?_⟩, ?_, ?_, ?_⟩
  · rw [swapL_nth (by show k < 7; omega) (by show k + 1 < 7; omega) (by exact hj)]
    have h1 := h.2 k (by omega)
    have h2 := h.2 (k + 1) (by omega)
    have h3 := h.2 j hj
    split
    · exact h1
    · split
      · exact h2
      · exact h3
  · rcases lt6 hk with rfl | rfl | rfl | rfl | rfl | rfl <;> simp [mu7, swU, swapL, nth] <;> omega
  · simp [mu7, nth]; omega
  · simp [mu7, nth]; omega
def upF : Nat → List Int → List Nat
  | 0, _ => []
  | f + 1, e => match firstUp e with
    | none => []
    | some k => k :: upF f (swU e k)
def endF : Nat → List Int → List Int
  | 0, e => e
  | f + 1, e => match firstUp e with
    | none => e
    | some k => endF f (swU e k)
theorem up_steady : ∀ (f f' : Nat) (e : List Int), ex7 e → mu7 e < f → mu7 e < f' → upF f e = upF f' e ∧ endF f e = endF f' e
  | 0, _, e, h, h1, _ => absurd h1 (by have := (swU_cases h (k := 0) (by omega)).2.2.1; omega)
  | _, 0, e, h, _, h1 => absurd h1 (by have := (swU_cases h (k := 0) (by omega)).2.2.1; omega)
  | f + 1, f' + 1, e, h, h1, h2 => by
    unfold upF endF
    cases hu : firstUp e with
    | none => exact ⟨rfl, rfl⟩
    | some k =>
      obtain ⟨h6, hlt⟩ := firstUp_is hu
      obtain ⟨hx, hm, _⟩ := swU_cases h h6
      have := up_steady f f' (swU e k) hx (by omega) (by omega)
      simp only
      exact ⟨by rw [this.1], this.2⟩
/-- The places of the exchanges, and what there is in the end. -/
def upL (e : List Int) : List Nat := upF ((mu7 e).toNat + 1) e
def endL (e : List Int) : List Int := endF ((mu7 e).toNat + 1) e
theorem upL_none {e : List Int} (h : firstUp e = none) : upL e = [] ∧ endL e = e := by
  unfold upL endL upF endF
  rw [h]
  exact ⟨rfl, rfl⟩
theorem upL_some {e : List Int} (h : ex7 e) {k : Nat} (hu : firstUp e = some k) : upL e = k :: upL (swU e k) ∧ endL e = endL (swU e k) := by
  obtain ⟨h6, hlt⟩ := firstUp_is hu
  obtain ⟨hx, hm, h0, _⟩ := swU_cases h h6
  have h0' := (swU_cases hx (k := 0) (by omega)).2.2.1
  have := up_steady ((mu7 e).toNat) ((mu7 (swU e k)).toNat + 1) (swU e k) hx (by omega) (by omega)
  have e1 : upL e = k :: upF (mu7 e).toNat (swU e k) := by unfold upL; rw [upF, hu]
  have e2 : endL e = endF (mu7 e).toNat (swU e k) := by unfold endL; rw [endF, hu]
  rw [e1, e2, this.1, this.2]
  exact ⟨rfl, rfl⟩
/-- Induction by exchanges. -/
theorem up_ind {P : List Int → Prop} (h0 : ∀ e, ex7 e → firstUp e = none → P e) (h1 : ∀ e k, ex7 e → firstUp e = some k → k < 6 → nth e k < nth e (k + 1) → P (swU e k) → P e) : ∀ e, ex7 e → P e := by
  have main : ∀ (f : Nat) (e : List Int), ex7 e → mu7 e < f → P e := by
    intro f
    induction f with
    | zero => intro e h hm; exact absurd hm (by have := (swU_cases h (k := 0) (by omega)).2.2.1; omega)
    | succ f ih =>
      intro e h hm
      cases hu : firstUp e with
      | none => exact h0 e h hu
      | some k =>
        obtain ⟨h6, hlt⟩ := firstUp_is hu
        obtain ⟨hx, hm', _⟩ := swU_cases h h6
        exact h1 e k h hu h6 hlt (ih _ hx (by omega))
  intro e h
  exact main ((mu7 e).toNat + 1) e h (by have := (swU_cases h (k := 0) (by omega)).2.2.1; omega)
theorem upL_small {e : List Int} (h : ex7 e) : ∀ k ∈ upL e, k < 6 := by
  refine up_ind (P := fun e => ∀ k ∈ upL e, k < 6) ?_ ?_ e h
  · intro e _ hu k hk; rw [(upL_none hu).1] at hk; simp at hk
  · intro e k h hu h6 _ ih j hj
    rw [(upL_some h hu).1] at hj
    rcases List.mem_cons.1 hj with rfl | hj
    · exact h6
    · exact ih j hj
theorem upL_len {e : List Int} (h : ex7 e) : ((upL e).length : Int) ≤ mu7 e := by
  refine up_ind (P := fun e => ((upL e).length : Int) ≤ mu7 e) ?_ ?_ e h
  · intro e h hu; rw [(upL_none hu).1]; have := (swU_cases h (k := 0) (by omega)).2.2.1; simpa using this
  · intro e k h hu h6 hlt ih
    rw [(upL_some h hu).1]
    have := (swU_cases h h6).2.1
    simp only [List.length_cons]
    omega
theorem endL_ex7 {e : List Int} (h : ex7 e) : ex7 (endL e) := by
  refine up_ind (P := fun e => ex7 (endL e)) ?_ ?_ e h
  · intro e h hu; rw [(upL_none hu).2]; exact h
  · intro e k h hu _ _ ih; rw [(upL_some h hu).2]; exact ih
theorem swU_cap {e : List Int} {d : Int} (h : ex7 e) (hd : ∀ k, k < 7 → nth e k ≤ d) {k : Nat} (hk : k < 6) : ∀ j, j < 7 → nth (swU e k) j ≤ d := fun j hj => by
  rw [swapL_nth (by rw [h.1]; omega) (by rw [h.1]; omega) (by rw [h.1]; exact hj)]
  split
  · exact hd k (by omega)
  · split
    · exact hd (k + 1) (by omega)
    · exact hd j hj
theorem endL_cap {e : List Int} {d : Int} (h : ex7 e) (hd : ∀ k, k < 7 → nth e k ≤ d) : ∀ k, k < 7 → nth (endL e) k ≤ d := by
  refine up_ind (P := fun e => (∀ k, k < 7 → nth e k ≤ d) → ∀ k, k < 7 → nth (endL e) k ≤ d) ?_ ?_ e h hd
  · intro e h hu hd; rw [(upL_none hu).2]; exact hd
  · intro e k h hu h6 _ ih hd; rw [(upL_some h hu).2]; exact ih (swU_cap h hd h6)
/-- What the operators make of the monomial in the end. -/
def dscL (op : Nat → List Mn → List Mn) (e : List Int) : List Mn := (upL e).foldr op [(key7 (endL e), 1)]
theorem dsc_none (op : Nat → List Mn → List Mn) {e : List Int} (h : firstUp e = none) : dscL op e = [(key7 e, 1)] := by
  unfold dscL; rw [(upL_none h).1, (upL_none h).2]; rfl
theorem dsc_some (op : Nat → List Mn → List Mn) {e : List Int} (h : ex7 e) {k : Nat} (hu : firstUp e = some k) : dscL op e = op k (dscL op (swU e k)) := by
  unfold dscL; rw [(upL_some h hu).1, (upL_some h hu).2]; rfl
/-- The document's operators. -/
def isoD (i : Nat) (l : List Mn) : List Mn := divL i (l ++ scaleM (-1) (shiftL (i + 1) l))
theorem capK.shiftDiv {d : Int} {L : List Mn} (h : capK d L) (hd : d ≤ 126) {i j : Nat} (hi : i < 6) (hj : j = i ∨ j = i + 1) : capK d (divL i (shiftL j L)) := fun t ht => by
  obtain ⟨u, hu, v, hv, e⟩ := lin_mem ht
  obtain ⟨s, hs, q, hq, e2⟩ := lin_mem hu
  obtain ⟨x0, hx0, hc0, hk0⟩ := h s hs
  have hj7 : j < 7 := by omega
  unfold shiftF at hq
  rw [List.mem_singleton.1 hq] at e2
  have hx : ex7 (incE x0 j) := set_ex7 hx0 hj7 (by have := hx0.2 j hj7; have := hc0 j hj7; omega)
  have hk : u.1 = key7 (incE x0 j) := by
    rw [e2, hk0]; unfold incE
    rw [set_key hx0.1 hj7]; show key7 x0 + unitI j = _; rw [show nth x0 j + 1 - nth x0 j = 1 by omega, Int.one_mul]
  have hc : ∀ k, k < 7 → nth (incE x0 j) k = if k = j then nth x0 k + 1 else nth x0 k := fun k hk7 => by
    unfold incE
    rw [set_nth (by rw [hx0.1]; exact hj7) _ (by rw [hx0.1]; exact hk7)]
    split
    · rename_i h; rw [h]
    · rfl
  unfold divF at hv
  obtain ⟨y, hy, rfl⟩ := List.mem_map.1 hv
  rw [hk, divK_key hx hi] at hy
  obtain ⟨z, hz, rfl⟩ := List.mem_map.1 hy
  unfold ddE at hz
  obtain ⟨m, hm, rfl⟩ := List.mem_map.1 hz
  have hm' := List.mem_range.1 hm
  have h1 := hx.2 i (by omega)
  have h2 := hx.2 (i + 1) (by omega)
  have h3 := hc i (by omega)
  have h4 := hc (i + 1) (by omega)
  have h5 := hc0 i (by omega)
  have h6 := hc0 (i + 1) (by omega)
  refine ⟨_, putE_ex7 hx hi (by omega) (by omega), fun k hk7 => ?_, e⟩
  rw [putE_nth (by rw [hx.1]; omega) _ _ (by rw [hx.1]; exact hk7)]
  have h7 := hc k hk7
  have h8 := hc0 k hk7
  rcases hj with rfl | rfl
  · rw [if_pos rfl] at h3
    rw [if_neg (by omega)] at h4
    split
    · omega
    · split
      · omega
      · rw [if_neg (by assumption)] at h7; omega
  · rw [if_neg (by omega)] at h3
    rw [if_pos rfl] at h4
    split
    · omega
    · rw [if_neg (by assumption)] at h7
      split <;> omega
theorem capK.dem {d : Int} {L : List Mn} (h : capK d L) (hd : d ≤ 126) {i : Nat} (hi : i < 6) : capK d (demL i L) := h.shiftDiv hd hi (.inl rfl)
theorem lin_scale_cap {d : Int} {i : Nat} (_hi : i < 6) (c : Int) (L : List Mn) (h : capK d (divL i L)) : capK d (divL i (scaleM c L)) := fun t ht => by
  obtain ⟨u, hu, v, hv, e⟩ := lin_mem ht
  unfold scaleM at hu
  obtain ⟨s, hs, rfl⟩ := List.mem_map.1 hu
  have : (v.1, w64 (s.2 * v.2)) ∈ divL i L := by
    unfold divL linL
    exact List.mem_flatMap.2 ⟨s, hs, by unfold scaleM; exact List.mem_map.2 ⟨v, hv, rfl⟩⟩
  obtain ⟨x, hx, hc, hk⟩ := h _ this
  exact ⟨x, hx, hc, by rw [e]; exact hk⟩
theorem capK.isoD {d : Int} {L : List Mn} (h : capK d L) (hd : d ≤ 126) {i : Nat} (hi : i < 6) : capK d (isoD i L) := by
  unfold Proofs.Ytmndchhbafkbeaa.isoD
  rw [show divL i (L ++ scaleM (-1) (shiftL (i + 1) L)) = divL i L ++ divL i (scaleM (-1) (shiftL (i + 1) L)) from linL_app _ _ _]
  exact (h.div hi).app (lin_scale_cap hi _ _ (h.shiftDiv hd hi (.inr rfl)))
/-- What an operator must keep. -/
structure OpK (op : Nat → List Mn → List Mn) (d : Int) : Prop where
  cap : ∀ {L : List Mn} {i : Nat}, i < 6 → capK d L → capK d (op i L)
  same : ∀ {a b : List Mn} (i : Nat), sameC a b → sameC (op i a) (op i b)
theorem opK_div (d : Int) : OpK divL d := ⟨fun hi h => h.div hi, fun _ h => h.lin _⟩
theorem opK_dem {d : Int} (hd : d ≤ 126) : OpK demL d := ⟨fun hi h => h.dem hd hi, fun i h => h.dem i⟩
theorem opK_iso {d : Int} (hd : d ≤ 126) : OpK isoD d := ⟨fun hi h => h.isoD hd hi, fun _ h => (h.app ((h.lin _).scale _)).lin _⟩
theorem fold_cap {op : Nat → List Mn → List Mn} {d : Int} (h : OpK op d) : ∀ {ks : List Nat} {b : List Mn}, (∀ k ∈ ks, k < 6) → capK d b → capK d (ks.foldr op b)
  | [], _, _, hb => hb
  | k :: _, _, hk, hb => h.cap (hk k (List.mem_cons_self ..)) (fold_cap h (fun j hj => hk j (List.mem_cons_of_mem _ hj)) hb)
theorem fold_same {op op' : Nat → List Mn → List Mn} (h : ∀ (i : Nat) {a b : List Mn}, sameC a b → sameC (op i a) (op' i b)) : ∀ {ks : List Nat} {a b : List Mn}, sameC a b → sameC (ks.foldr op a) (ks.foldr op' b)
  | [], _, _, hb => hb
  | k :: _, _, _, hb => h k (fold_same h hb)
/-- How many terms there can be. -/
def val7 (e : List Int) : Int := ((((((nth e 6 * 7 + nth e 5) * 7 + nth e 4) * 7 + nth e 3) * 7 + nth e 2) * 7 + nth e 1) * 7 + nth e 0)
theorem lex_step {q q' v v' r r' : Int} (hq : q < q' ↔ v < v') (he : q = q' ↔ v = v') (hr : 0 ≤ r ∧ r ≤ 6) (hr' : 0 ≤ r' ∧ r' ≤ 6) :
    (q * 128 + r < q' * 128 + r' ↔ v * 7 + r < v' * 7 + r') ∧ (q * 128 + r = q' * 128 + r' ↔ v * 7 + r = v' * 7 + r') := by
  by_cases h1 : q < q'
  · have := hq.1 h1; constructor <;> constructor <;> intro <;> omega
  · by_cases h2 : q = q'
    · have := he.1 h2; constructor <;> constructor <;> intro <;> omega
    · have h3 : ¬ v < v' := fun h => h1 (hq.2 h)
      have h4 : ¬ v = v' := fun h => h2 (he.2 h)
      constructor <;> constructor <;> intro <;> omega
theorem val7_lt {e e' : List Int} (h : ex7 e) (h' : ex7 e') (hc : ∀ k, k < 7 → nth e k ≤ 6) (hc' : ∀ k, k < 7 → nth e' k ≤ 6) : key7 e < key7 e' ↔ val7 e < val7 e' := by
  have b : ∀ k, k < 7 → 0 ≤ nth e k ∧ nth e k ≤ 6 := fun k hk => ⟨(h.2 k hk).1, hc k hk⟩
  have b' : ∀ k, k < 7 → 0 ≤ nth e' k ∧ nth e' k ≤ 6 := fun k hk => ⟨(h'.2 k hk).1, hc' k hk⟩
  have k1 : key7 e = ((((((nth e 6 * 128 + nth e 5) * 128 + nth e 4) * 128 + nth e 3) * 128 + nth e 2) * 128 + nth e 1) * 128 + nth e 0) := by
    obtain ⟨a, b, c, d, f, g, i, rfl, _⟩ := ex7_cases h; rw [key7_lit]; rfl
  have k2 : key7 e' = ((((((nth e' 6 * 128 + nth e' 5) * 128 + nth e' 4) * 128 + nth e' 3) * 128 + nth e' 2) * 128 + nth e' 1) * 128 + nth e' 0) := by
    obtain ⟨a, b, c, d, f, g, i, rfl, _⟩ := ex7_cases h'; rw [key7_lit]; rfl
  rw [k1, k2]
  unfold val7
  have s5 := lex_step (q := nth e 6) (q' := nth e' 6) (v := nth e 6) (v' := nth e' 6) Iff.rfl Iff.rfl (b 5 (by omega)) (b' 5 (by omega))
  have s4 := lex_step s5.1 s5.2 (b 4 (by omega)) (b' 4 (by omega))
  have s3 := lex_step s4.1 s4.2 (b 3 (by omega)) (b' 3 (by omega))
  have s2 := lex_step s3.1 s3.2 (b 2 (by omega)) (b' 2 (by omega))
  have s1 := lex_step s2.1 s2.2 (b 1 (by omega)) (b' 1 (by omega))
  exact (lex_step s1.1 s1.2 (b 0 (by omega)) (b' 0 (by omega))).1
theorem val7_range {e : List Int} (h : ex7 e) (hc : ∀ k, k < 7 → nth e k ≤ 6) : 0 ≤ val7 e ∧ val7 e < 823543 := by
  have b : ∀ k, k < 7 → 0 ≤ nth e k ∧ nth e k ≤ 6 := fun k hk => ⟨(h.2 k hk).1, hc k hk⟩
  have := b 0 (by omega); have := b 1 (by omega); have := b 2 (by omega); have := b 3 (by omega); have := b 4 (by omega); have := b 5 (by omega); have := b 6 (by omega)
  unfold val7
  omega
theorem desc_len : ∀ (l : List Int) (N : Nat), l.Pairwise (fun a b => b < a) → (∀ x ∈ l, 0 ≤ x ∧ x < N) → l.length ≤ N
  | [], _, _, _ => Nat.zero_le _
  | x :: l, N, hp, hb => by
    obtain ⟨h1, h2⟩ := List.pairwise_cons.1 hp
    have hx := hb x (List.mem_cons_self ..)
    have := desc_len l x.toNat h2 (fun y hy => ⟨(hb y (List.mem_cons_of_mem _ hy)).1, by have := h1 y hy; omega⟩)
    simp only [List.length_cons]
    omega
theorem cap6_len {L : List Mn} (h : capK 6 L) (hc : canonM L) : L.length ≤ 823543 := by
  have hv : ∀ t ∈ L, ∃ v, 0 ≤ v ∧ v < 823543 ∧ ∃ e, ex7 e ∧ (∀ k, k < 7 → nth e k ≤ 6) ∧ t.1 = key7 e ∧ v = val7 e := fun t ht => by
    obtain ⟨e, he, hcap, hk⟩ := h t ht
    have := val7_range he hcap
    exact ⟨val7 e, this.1, this.2, e, he, hcap, hk, rfl⟩
  have hmain : ∀ (l : List Mn), (∀ t ∈ l, t ∈ L) → l.Pairwise (fun a b => b.1 < a.1) → ∃ vs : List Int, vs.length = l.length ∧ vs.Pairwise (fun a b => b < a) ∧ (∀ v ∈ vs, ∃ t ∈ l, ∃ e, ex7 e ∧ (∀ k, k < 7 → nth e k ≤ 6) ∧ t.1 = key7 e ∧ v = val7 e) := by
    intro l
    induction l with
    | nil => intro _ _; exact ⟨[], rfl, List.Pairwise.nil, fun v hv => by simp at hv⟩
    | cons t l ih =>
      intro hm hp
      obtain ⟨h1, h2⟩ := List.pairwise_cons.1 hp
      obtain ⟨vs, e1, e2, e3⟩ := ih (fun u hu => hm u (List.mem_cons_of_mem _ hu)) h2
      obtain ⟨v, _, _, e, he, hcap, hk, hve⟩ := hv t (hm t (List.mem_cons_self ..))
      refine ⟨v :: vs, by simp [e1], List.pairwise_cons.2 ⟨fun y hy => ?_, e2⟩, fun y hy => ?_⟩
      · obtain ⟨u, hu, e', he', hcap', hk', hve'⟩ := e3 y hy
        have := h1 u hu
        rw [hk, hk'] at this
        rw [hve, hve']
        exact (val7_lt he' he hcap' hcap).1 this
      · rcases List.mem_cons.1 hy with rfl | hy
        · exact ⟨t, List.mem_cons_self .., e, he, hcap, hk, hve⟩
        · obtain ⟨u, hu, r⟩ := e3 y hy
          exact ⟨u, List.mem_cons_of_mem _ hu, r⟩
  obtain ⟨vs, e1, e2, e3⟩ := hmain L (fun _ h => h) hc.1
  rw [← e1]
  refine desc_len vs 823543 e2 fun x hx => ?_
  obtain ⟨u, hu, e, he, hcap, hk, rfl⟩ := e3 x hx
  exact val7_range he hcap
end Go.Proofs.Ytmndchhbafkbeaa

/-
  Copying a slice of numbers into an array. Conditions: the slice is no longer than the array.
-/


namespace Go.Proofs.Ytmndchhbafkbeaa
open Go.RowKit

/-- A list with zeros behind it. -/
def padN (N : Nat) (xs : List Int) : List Int := xs ++ List.replicate (N - xs.length) 0
theorem padN_len {N : Nat} {xs : List Int} (h : xs.length ≤ N) : (padN N xs).length = N := by simp [padN]; omega
theorem padN_nth (N : Nat) (xs : List Int) (k : Nat) : nth (padN N xs) k = nth xs k := by
  unfold padN nth
  rw [List.getD_eq_getElem?_getD, List.getD_eq_getElem?_getD]
  by_cases h : k < xs.length
  · rw [List.getElem?_append_left h]
  · rw [List.getElem?_append_right (by omega), List.getElem?_eq_none (l := xs) (by omega), List.getElem?_replicate]
    split <;> rfl
theorem nth_out {xs : List Int} {k : Nat} (h : xs.length ≤ k) : nth xs k = 0 := by
  unfold nth
  rw [List.getD_eq_getElem?_getD, List.getElem?_eq_none h]; rfl
theorem Try.infoIntA : (Try.prog.info? 3).map (·.size) = some 1 := by kernel_rfl
/-- 'copy(a[:], s)' where the array a holds zeros. -/
theorem wpList_copy_arr {ops : Array Oper} {rest : List Oper} {o : Oper} {a : Act} {w : World} {Q : Exit → Act → World → Prop} (hgd : o.guard = none) (d s : Operand)
    (ho : o.op = .call { callee := .builtin .copy, args := #[d, s], argTypes := #[35, 35] }) (g N : Nat) (A : Option Addr) (n c : Nat) (hd : a.eval d = .slice (some ⟨g, 0, none⟩) N N) (hs : a.eval s = .slice A n c)
    (t : TypeId) (xs : List Int) (hblk : Blk w g t ((List.replicate N (0 : Int)).map (Value.int .i64)).toArray) (hsi : SI w A n xs) (hle : n ≤ N)
    (hK : ∀ w', Blk w' g t ((padN N xs).map (Value.int .i64)).toArray → w.grownBy w' (some g) → wpList Try.prog ops Q rest (a.put o.dst (goInt n)) w') : wpList Try.prog ops Q (o :: rest) a w := by
  have hl := hsi.1
  by_cases h0 : n = 0
  · subst h0
    obtain rfl : xs = [] := List.eq_nil_of_length_eq_zero hl
    exact Go.wpList_copy_nothing hgd d s 35 35 ho 3 Try.underlying35 Try.infoIntA (some ⟨g, 0, none⟩) A N N 0 c hd hs (by simp) (hK w (by simpa [padN] using hblk) (World.grownBy.refl _ _))
  · obtain ⟨b, off, rfl, hb, hc⟩ := hsi.2 (by omega)
    have hE : (((List.replicate N (0 : Int)).map (Value.int .i64)).toArray.toList.take 0 ++ (xs.map (Value.int .i64) ++ ((List.replicate N (0 : Int)).map (Value.int .i64)).toArray.toList.drop (0 + (xs.map (Value.int .i64)).length))).toArray = ((padN N xs).map (Value.int .i64)).toArray := by
      simp [padN, List.drop_replicate]
    refine Go.wpList_copy_own hgd d s 35 35 ho 3 Try.underlying35 Try.infoIntA g 0 N N ⟨b, off, none⟩ n c hd hs _ t hblk (xs.map (Value.int .i64)) (by simp [hl]; exact (Nat.min_eq_left hle).symm) ?_ (by simp [hl]; omega) (ints_oneCell _ _) ?_
    · intro j v hj
      have hjl : j < xs.length := by
        rcases Nat.lt_or_ge j xs.length with h | h
        · exact h
        · rw [List.getElem?_eq_none (by simpa using h)] at hj; cases hj
      rw [List.getElem?_map, nth_get? hjl] at hj
      rw [add_pt, hc j (by omega)]
      exact hj
    · rw [hE]
      have hk := hK (w.setRow g ((padN N xs).map (Value.int .i64)).toArray) (hblk.row _) (grownBy_setRow w g _)
      simpa [hl] using hk
end Go.Proofs.Ytmndchhbafkbeaa
