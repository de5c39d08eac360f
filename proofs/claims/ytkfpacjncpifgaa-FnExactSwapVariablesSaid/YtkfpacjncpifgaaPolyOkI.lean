/-
  Is a list of terms a polynomial: the program's side answers polyB. Conditions: lengths below 2^40.
-/
import Derived.Test.YtkfpacjncpifgaaPolyOk
namespace Go.Proofs.Ytkfpacjncpifgaa
open Go.RowKit

theorem quiet_loadmid {P : Program} {C : World → Prop} {a : Act} {o : Oper} {K : Act → Prop} (ty : TypeId) (x : Operand) (ho : o.op = .load ty x) (b off : Nat) (hx : a.eval x = .pointer (some ⟨b, off, none⟩)) (cs : List Value) (d : TypeDesc)
    (hb : ∀ w, C w → w.rangeAt b off cs) (hu : P.underlying ty = some d) (hd : d.isRow = true) (hi : (P.info? ty).map (·.size) = some cs.length) (hk : K (a.put o.dst (.agg cs.toArray))) : o.quiet P a C K :=
  ⟨_, fun w hw => by
    unfold Oper.quietAt execOp
    simp only [ho, hx, Instr.loadAt, Instr.sureAddr, Sem.run_bind, Sem.run_pure, Result.andThen_ok, run_loadVar_mid w b off ty cs d (hb w hw) hu hd hi]
    exact ⟨rfl, rfl⟩, hk⟩

set_option maxRecDepth 100000 in
set_option maxHeartbeats 400000 in
theorem implPolyOk_any (A : Option Addr) (n c : Nat) (ts : List Tm) (w : World) (hs : TS w A n ts) (hn : n ≤ 1099511627776) (hne : ∀ k, k < n → (tm ts k).1.length ≤ 1099511627776) :
    Calls Try.prog 64 #[.slice A n c] w fun r w' => r = .returned (.bool (polyB ts)) ∧ Below w.heap.size w w' := by
  have HL := Lib.hid hs.1
  have HNE := Lib.hid hne
  clear hne
  by_cases hbig : 600 < n
  · go_enter Try.func64, Try.ntmps64
    go_wp2
    go_ret
    exact ⟨ret_bool (polyB_big (by rw [HL.out]; exact hbig)).symm, Below.refl _ _⟩
  go_enter Try.func64, Try.ntmps64
  go_wp2
  go_loopw [10] (fun i wr => ∃ k : Nat, k ≤ n ∧ i = .int .i64 k ∧ (∀ j, j < k → okAt ts j = true) ∧ Below w.heap.size w wr)
    (fun i _ => n - (intOf i).toNat)
  case atStart => exact ⟨0, Nat.zero_le _, rfl, fun j hj => absurd hj (by omega), Below.refl _ _⟩
  case round =>
    obtain ⟨k, hk, rfl, hall, hbel⟩ := hrel
    have HA := Lib.hid hall
    have HB := Lib.hid hbel
    have hts := hs.below hbel (Nat.le_refl _)
    clear hall hbel hs
    by_cases hlt : k < n
    · have hlI : (k : Int) < (n : Int) := by omega
      obtain ⟨b, o, A', n', c', rfl, hb, hc0, hc1, hsi, hnc, hnil⟩ := hts.at_ hlt
      have no : goodT (tm ts k) = false → polyB ts = false := fun h => polyB_no (by rw [HL.out]; exact hlt) (okAt_bad h)
      have NO := Lib.hid no
      obtain ⟨x, hx⟩ : ∃ x, x = (tm ts k).2 := ⟨_, rfl⟩
      obtain ⟨e, he⟩ : ∃ e, e = (tm ts k).1 := ⟨_, rfl⟩
      have het : (e, x) = tm ts k := by rw [hx, he]
      rw [← hx] at hc1
      rw [← he] at hsi
      have HET := Lib.hid het
      have HE := Lib.hid he
      have hln : n' ≤ 1099511627776 := by have := HNE.out k hlt; rw [← he] at this; have := hsi.1; omega
      have HT := Lib.hid hts
      have HSI := Lib.hid hsi
      clear hts hsi hx he het no hnil
      go_wp2_with fail
      obtain ⟨w5, hw5⟩ : ∃ w5, w5 = wr.alloc (.cells #[.slice A' n' c', .int .i64 x] 68) := ⟨_, rfl⟩
      have hb5 : Below wr.heap.size wr w5 := by rw [hw5]; exact (Below.refl _ _).alloc (Nat.le_refl _) _
      have hK5 : Blk w5 wr.heap.size 68 #[.slice A' n' c', .int .i64 x] := by rw [hw5]; exact Blk.new _ _ _
      have LG : ∀ w', AfterT w5 w' → w'.rangeAt wr.heap.size 0 [.slice A' n' c', .int .i64 x] := fun w' hw' j v hj => by
        rw [(hK5.below hw' hK5.lt).cell]
        match j, hj with
        | 0, hj => simp at hj; subst hj; rfl
        | 1, hj => simp at hj; subst hj; rfl
      have S5 := HSI.out.below hb5 (Nat.le_refl _)
      have T5 := HT.out.below hb5 (Nat.le_refl _)
      have call1 : ∀ w', AfterT w5 w' → Calls Try.prog 117 #[.agg #[.slice A' n' c', .int .i64 x]] w' (fun r w'' => r = .returned (.bool (goodT (tm ts k))) ∧ AfterT w5 w'') := fun w' hw' =>
        (isValid_any A' n' c' e x w' (S5.below hw' (Nat.le_refl _)) hln).mono fun r w'' ⟨hr, hb⟩ => ⟨by rw [hr, HET.out], Below.trans hw' (hb.mono hw'.size)⟩
      have HB5 := Lib.hid (HB.out.trans (hb5.mono HB.out.size))
      obtain ⟨G, hG⟩ : ∃ G, G = wr.heap.size := ⟨_, rfl⟩
      rw [← hG] at LG ⊢
      rw [← hw5]
      have L1 := Lib.hid LG
      clear hw5 hb5 hK5 LG hG hc0 hc1
      cases hgd : goodT (tm ts k) with
      | false =>
        rw [hgd] at call1
        have CA1 := Lib.hid call1
        have HN := Lib.hid (NO.out hgd)
        clear call1 hgd S5 T5
        refine tq_class (AfterT w5) (by kernel_rfl) (by kernel_rfl) (Below.refl _ _).drew ?_
        refine tq_load rfl 68 (.tmp 4) rfl G 0 rfl [.slice A' n' c', .int .i64 x] _ L1.out Try.underlying68 rfl Try.infoTerm ?_
        refine wpQuiet_step (fun K hK => ?_)
        go_simp
        refine ⟨.bool false, fun w' hw' => CA1.out w' hw', hK _ ?_⟩
        clear hK K
        go_big_quiet_want
        go_big_quiet_op
        first | go_big_quiet_on | (refine ⟨_, fun _ _ => rfl, ?_⟩; go_big_quiet_on)
        go_big_quiet_want
        go_big_quiet_op
        first | go_big_quiet_on | (refine ⟨_, fun _ _ => rfl, ?_⟩; go_big_quiet_on)
        repeat go_big_quiet_skip
        go_big_quiet_want
        go_big_quiet_op
        first | go_big_quiet_on | (refine ⟨_, fun _ _ => rfl, ?_⟩; go_big_quiet_on)
        refine wpQuiet_nil ?_
        intro w6 hw6
        have HB6 := Lib.hid (HB5.out.trans (Below.mono hw6 HB5.out.size))
        clear hw6 L1 CA1
        go_wp2
        go_ret
        exact ⟨ret_bool HN.out.symm, HB6.out⟩
      | true =>
        rw [hgd] at call1
        have CA1 := Lib.hid call1
        have HG := Lib.hid hgd
        have HT5 := Lib.hid T5
        clear call1
        by_cases hk0 : k = 0
        · subst hk0
          clear hgd S5 T5
          refine tq_class (AfterT w5) (by kernel_rfl) (by kernel_rfl) (Below.refl _ _).drew ?_
          refine tq_load rfl 68 (.tmp 4) rfl G 0 rfl [.slice A' n' c', .int .i64 x] _ L1.out Try.underlying68 rfl Try.infoTerm ?_
          refine wpQuiet_step (fun K hK => ?_)
          go_simp
          refine ⟨.bool true, fun w' hw' => CA1.out w' hw', hK _ ?_⟩
          clear hK K
          go_big_quiet_want
          go_big_quiet_op
          first | go_big_quiet_on | (refine ⟨_, fun _ _ => rfl, ?_⟩; go_big_quiet_on)
          go_big_quiet_want
          go_big_quiet_op
          first | go_big_quiet_on | (refine ⟨_, fun _ _ => rfl, ?_⟩; go_big_quiet_on)
          go_big_quiet_want
          go_big_quiet_op
          first | go_big_quiet_on | (refine ⟨_, fun _ _ => rfl, ?_⟩; go_big_quiet_on)
          go_big_quiet_want
          go_big_quiet_op
          first | go_big_quiet_on | (refine ⟨_, fun _ _ => rfl, ?_⟩; go_big_quiet_on)
          go_big_quiet_want
          go_big_quiet_op
          first | go_big_quiet_on | (refine ⟨_, fun _ _ => rfl, ?_⟩; go_big_quiet_on)
          repeat go_big_quiet_skip
          go_big_quiet_want
          go_big_quiet_op
          first | go_big_quiet_on | (refine ⟨_, fun _ _ => rfl, ?_⟩; go_big_quiet_on)
          go_big_quiet_want
          go_big_quiet_op
          first | go_big_quiet_on | (refine ⟨_, fun _ _ => rfl, ?_⟩; go_big_quiet_on)
          refine wpQuiet_nil ?_
          intro w6 hw6
          have HB6 := Lib.hid (HB5.out.trans (Below.mono hw6 HB5.out.size))
          clear hw6 L1 CA1
          go_wp2
          go_roundw
          case rel => exact ⟨1, by omega, by go_num, fun j hj => by
            obtain rfl : j = 0 := by omega
            exact okAt_zero HG.out, HB6.out⟩
          case measure => simp [intOf]; omega
        · obtain ⟨m, rfl⟩ : ∃ m, k = m + 1 := ⟨k - 1, by omega⟩
          obtain ⟨b3, o3, A3, n3, c3, e3, hb3, hd0, hd1, hsi3, hnc3, hnil3⟩ := T5.at_ (k := m) (by omega)
          injection e3 with e3
          injection e3 with e31 e32 e33
          subst e31; subst e32
          have hg3 := (goodT_iff _).1 (okAt_good (HA.out m (by omega)))
          have hg2 := (goodT_iff _).1 hgd
          have e7 : n3 = 7 := by rw [← hsi3.1]; exact hg3.1
          subst e7
          have e7' : n' = 7 := by have := S5.1; rw [HE.out, hg2.1] at this; exact this.symm
          subst e7'
          have R3 := TS.range hd0 hd1
          have LP : ∀ w', AfterT w5 w' → w'.rangeAt b (o + m * 2) [.slice A3 7 c3, .int .i64 (tm ts m).2] := fun w' hw' j v hj => by
            rw [Below.cell hw' (p := ⟨b, o + m * 2 + j, none⟩) hb3]; exact R3 j v hj
          have call2 : ∀ w', AfterT w5 w' → Calls Try.prog 68 #[.agg #[.slice A3 7 c3, .int .i64 (tm ts m).2], .agg #[.slice A' 7 c', .int .i64 x]] w' (fun r w'' => r = .returned (.int .i64 (cmpK (tm ts m).1 (tm ts (m + 1)).1)) ∧ AfterT w5 w'') := fun w' hw' =>
            (compareTerms_any A3 A' c3 c' (tm ts m).1 e (tm ts m).2 x w' (hsi3.below hw' (Nat.le_refl _)) (S5.below hw' (Nat.le_refl _)) hg3.2.1 (by rw [HE.out]; exact hg2.2.1)).mono fun r w'' ⟨hr, hb⟩ => ⟨by rw [hr, HE.out], Below.trans hw' (hb.mono hw'.size)⟩
          obtain ⟨y, hy⟩ : ∃ y, y = (tm ts m).2 := ⟨_, rfl⟩
          obtain ⟨q, hq⟩ : ∃ q, q = cmpK (tm ts m).1 (tm ts (m + 1)).1 := ⟨_, rfl⟩
          rw [← hy] at LP call2
          rw [← hq] at call2
          have HQ := Lib.hid hq
          have LP1 := Lib.hid LP
          have CA2 := Lib.hid call2
          have hmw : IntKind.i64.wrap (((m + 1 : Nat) : Int) - 1) = (m : Int) := by rw [IntWalk.i64_in _ (by omega)]; omega
          have hm0 : (0 : Int) < ((m + 1 : Nat) : Int) := by omega
          have hmI : (m : Int) < (n : Int) := by omega
          clear hgd S5 T5 hsi3 hg3 hg2 hd0 hd1 R3 LP call2 hy hq hnil3
          refine tq_class (AfterT w5) (by kernel_rfl) (by kernel_rfl) (Below.refl _ _).drew ?_
          refine tq_load rfl 68 (.tmp 4) rfl G 0 rfl [.slice A' 7 c', .int .i64 x] _ L1.out Try.underlying68 rfl Try.infoTerm ?_
          refine wpQuiet_step (fun K hK => ?_)
          go_simp
          refine ⟨.bool true, fun w' hw' => CA1.out w' hw', hK _ ?_⟩
          clear hK K
          go_big_quiet_want
          go_big_quiet_op
          first | go_big_quiet_on | (refine ⟨_, fun _ _ => rfl, ?_⟩; go_big_quiet_on)
          go_big_quiet_want
          go_big_quiet_op
          first | go_big_quiet_on | (refine ⟨_, fun _ _ => rfl, ?_⟩; go_big_quiet_on)
          go_big_quiet_want
          go_big_quiet_op
          first | go_big_quiet_on | (refine ⟨_, fun _ _ => rfl, ?_⟩; go_big_quiet_on)
          go_big_quiet_want
          go_big_quiet_op
          first | go_big_quiet_on | (refine ⟨_, fun _ _ => rfl, ?_⟩; go_big_quiet_on)
          go_big_quiet_want
          go_big_quiet_op
          first | go_big_quiet_on | (refine ⟨_, fun _ _ => rfl, ?_⟩; go_big_quiet_on)
          go_big_quiet_want
          go_big_quiet_op
          first | go_big_quiet_on | (refine ⟨_, fun _ _ => rfl, ?_⟩; go_big_quiet_on)
          go_big_quiet_want
          go_big_quiet_op
          first | go_big_quiet_on | (refine ⟨_, fun _ _ => rfl, ?_⟩; go_big_quiet_on)
          go_big_quiet_want
          go_big_quiet_op
          first | go_big_quiet_on | (refine ⟨_, fun _ _ => rfl, ?_⟩; go_big_quiet_on)
          go_big_quiet_want
          go_big_quiet_op
          first | go_big_quiet_on | (refine ⟨_, fun _ _ => rfl, ?_⟩; go_big_quiet_on)
          go_big_quiet_want
          refine quiet_loadmid 68 (.tmp 25) rfl b (o + m * 2) rfl [.slice A3 7 c3, .int .i64 y] _ LP1.out Try.underlying68 rfl Try.infoTerm ?_
          go_big_quiet_on
          go_simp
          go_big_quiet_want
          refine quiet_loadmid 68 (.tmp 4) rfl G (0) rfl [.slice A' 7 c', .int .i64 x] _ L1.out Try.underlying68 rfl Try.infoTerm ?_
          go_big_quiet_on
          go_simp
          go_big_quiet_want
          go_big_quiet_op
          refine ⟨.int .i64 q, fun w' hw' => CA2.out w' hw', ?_⟩
          go_big_quiet_on
          go_big_quiet_want
          go_big_quiet_op
          first | go_big_quiet_on | (refine ⟨_, fun _ _ => rfl, ?_⟩; go_big_quiet_on)
          go_big_quiet_want
          go_big_quiet_op
          first | go_big_quiet_on | (refine ⟨_, fun _ _ => rfl, ?_⟩; go_big_quiet_on)
          go_big_quiet_want
          go_big_quiet_op
          first | go_big_quiet_on | (refine ⟨_, fun _ _ => rfl, ?_⟩; go_big_quiet_on)
          refine wpQuiet_nil ?_
          intro w6 hw6
          have HB6 := Lib.hid (HB5.out.trans (Below.mono hw6 HB5.out.size))
          clear hw6 L1 CA1 LP1 CA2
          by_cases hq0 : 0 ≤ q
          · go_wp2
            go_ret
            refine ⟨ret_bool (polyB_no (k := m + 1) (by rw [HL.out]; exact hlt) (okAt_wrong (by omega) ?_)).symm, HB6.out⟩
            show ¬ key7 (tm ts (m + 1)).1 < key7 (tm ts m).1
            intro hk2
            have := HQ.out
            unfold cmpK at this
            rw [if_pos hk2] at this
            omega
          · go_wp2
            go_roundw
            case rel => exact ⟨m + 1 + 1, by omega, by go_num, fun j hj => by
              rcases Nat.lt_or_ge j (m + 1) with h | h
              · exact HA.out j h
              · obtain rfl : j = m + 1 := by omega
                refine okAt_step HG.out ?_
                show key7 (tm ts (m + 1)).1 < key7 (tm ts m).1
                have := HQ.out
                unfold cmpK at this
                by_cases h1 : key7 (tm ts (m + 1)).1 < key7 (tm ts m).1
                · exact h1
                · rw [if_neg h1] at this
                  split at this <;> omega, HB6.out⟩
            case measure => simp [intOf]; omega
    · have hkn : k = n := by omega
      subst hkn
      go_wp2
      go_ret
      exact ⟨ret_bool (polyB_all (by rw [HL.out]; omega) (by rw [HL.out]; exact HA.out)).symm, HB.out⟩
end Go.Proofs.Ytkfpacjncpifgaa
