/-
  What a list of parts is: the program's side answers partsB. Conditions: lengths below 2^40.
-/
import Derived.Test.YthinbmjcdcmioaaParts
import Derived.Test.YthinbmjcdcmioaaPolyOkI
namespace Go.Proofs.Ythinbmjcdcmioaa
open Go.RowKit

theorem quiet_loadcell0 {C : World → Prop} {a : Act} {o : Oper} {K : Act → Prop} (ty : TypeId) (x : Operand) (ho : o.op = .load ty x) (b off : Nat) (hx : a.eval x = .pointer (some ⟨b, off, none⟩)) (v : Value)
    (hb : ∀ w, C w → w.cell? ⟨b, off, none⟩ = some v) (hu : ty = 3) (hk : K (a.put o.dst v)) : o.quiet Try.prog a C K :=
  ⟨_, fun w hw => by
    subst hu
    have hc := hb w hw
    have hl : (loadVar 3 ⟨b, off, none⟩).run Try.prog w = .ok v w := by
      simp [loadVar, isAgg, underlying, Try.underlying3, hc, Result.andThen]
    unfold Oper.quietAt execOp
    simp only [ho, hx, Instr.loadAt, Instr.sureAddr, Sem.run_bind, Sem.run_pure, Result.andThen_ok, hl]
    exact ⟨rfl, rfl⟩, hk⟩

set_option maxRecDepth 100000 in
set_option maxHeartbeats 1600000 in
theorem implParts_any (A : Option Addr) (n c : Nat) (ts : List Tm) (w : World) (hs : TS w A n ts) (hn : n ≤ 1099511627776) (hne : ∀ k, k < n → (tm ts k).1.length ≤ 1099511627776) :
    Calls Try.prog 33 #[.slice A n c] w fun r w' => r = .returned (.bool (partsB ts)) ∧ Below w.heap.size w w' := by
  have HL := Lib.hid hs.1
  have HNE := Lib.hid hne
  clear hne
  go_enter Try.func33, Try.ntmps33
  go_wp2
  go_loopw [7] (fun i wr => ∃ k : Nat, k ≤ n ∧ i = .int .i64 k ∧ (∀ j, j < k → partAt ts j) ∧ Below w.heap.size w wr)
    (fun i _ => n - (intOf i).toNat)
  case atStart => exact ⟨0, Nat.zero_le _, rfl, fun j hj => absurd hj (by omega), Below.refl _ _⟩
  case round =>
    obtain ⟨k, hk, rfl, hall, hbel⟩ := hrel
    have HA := Lib.hid hall
    have HB := Lib.hid hbel
    have hts := hs.below hbel (Nat.le_refl _)
    clear hall hbel hs
    by_cases hlt : k < n
    · have hlI : (k : Int) < (n : Int) := by omega
      obtain ⟨b, o, A', n', c', rfl, hb, hc0, hc1, hsi, hnc, hnil⟩ := hts.at_ hlt
      have NO : Hid (¬ partAt ts k → partsB ts = false) := Lib.hid (fun h => partsB_no (by rw [HL.out]; exact hlt) h)
      obtain ⟨x, hx⟩ : ∃ x, x = (tm ts k).2 := ⟨_, rfl⟩
      rw [← hx] at hc1
      have HX := Lib.hid hx
      have hln : n' ≤ 1099511627776 := by have := HNE.out k hlt; have := hsi.1; omega
      have HT := Lib.hid hts
      have HSI := Lib.hid hsi
      clear hts hsi hx hnil
      go_wp2_with fail
      obtain ⟨w5, hw5⟩ : ∃ w5, w5 = wr.alloc (.cells #[.slice A' n' c', .int .i64 x] 68) := ⟨_, rfl⟩
      have hb5 : Below wr.heap.size wr w5 := by rw [hw5]; exact (Below.refl _ _).alloc (Nat.le_refl _) _
      have hK5 : Blk w5 wr.heap.size 68 #[.slice A' n' c', .int .i64 x] := by rw [hw5]; exact Blk.new _ _ _
      have LG : ∀ w', AfterT w5 w' → w'.rangeAt wr.heap.size 0 [.slice A' n' c', .int .i64 x] := fun w' hw' j v hj => by
        rw [(hK5.below hw' hK5.lt).cell]
        match j, hj with
        | 0, hj => simp at hj; subst hj; rfl
        | 1, hj => simp at hj; subst hj; rfl
      have LC0 : ∀ w', AfterT w5 w' → w'.cell? ⟨wr.heap.size, 0, none⟩ = some (.slice A' n' c') := fun w' hw' => by rw [(hK5.below hw' hK5.lt).cell]; rfl
      have LC1 : ∀ w', AfterT w5 w' → w'.cell? ⟨wr.heap.size, 1, none⟩ = some (.int .i64 x) := fun w' hw' => by rw [(hK5.below hw' hK5.lt).cell]; rfl
      have S5 := HSI.out.below hb5 (Nat.le_refl _)
      have T5 := HT.out.below hb5 (Nat.le_refl _)
      have call1 : ∀ w', AfterT w5 w' → Calls Try.prog 17 #[.slice A' n' c'] w' (fun r w'' => r = .returned (.bool (isShapeB (tm ts k).1)) ∧ AfterT w5 w'') := fun w' hw' =>
        (implIsShape_any A' n' c' (tm ts k).1 w' (S5.below hw' (Nat.le_refl _)) hln).mono fun r w'' ⟨hr, hd⟩ => ⟨hr, Below.trans hw' (hd.below _)⟩
      have HB5 := Lib.hid (HB.out.trans (hb5.mono HB.out.size))
      obtain ⟨G, hG⟩ : ∃ G, G = wr.heap.size := ⟨_, rfl⟩
      rw [← hG] at LG LC0 LC1 ⊢
      rw [← hw5]
      have L1 := Lib.hid LG
      have C0 := Lib.hid LC0
      have C1 := Lib.hid LC1
      clear hw5 hb5 hK5 LG LC0 LC1 hG hc0 hc1
      cases hsh : isShapeB (tm ts k).1 with
      | false =>
        rw [hsh] at call1
        have CA1 := Lib.hid call1
        have HF := Lib.hid (NO.out (fun h => by rw [h.1] at hsh; simp at hsh))
        clear call1 hsh S5 T5
        refine tq_class (AfterT w5) (by kernel_rfl) (by kernel_rfl) (Below.refl _ _).drew ?_
        go_big_quiet_want
        go_big_quiet_op
        first | go_big_quiet_on | (refine ⟨_, fun _ _ => rfl, ?_⟩; go_big_quiet_on)
        go_big_quiet_want
        refine quiet_loadcell1 22 (.tmp 12) rfl G 0 rfl _ C0.out rfl ?_
        go_big_quiet_on
        go_simp
        go_big_quiet_want
        go_big_quiet_op
        refine ⟨.bool false, fun w' hw' => CA1.out w' hw', ?_⟩
        go_big_quiet_on
        go_big_quiet_want
        go_big_quiet_op
        first | go_big_quiet_on | (refine ⟨_, fun _ _ => rfl, ?_⟩; go_big_quiet_on)
        go_big_quiet_want
        go_big_quiet_op
        first | go_big_quiet_on | (refine ⟨_, fun _ _ => rfl, ?_⟩; go_big_quiet_on)
        repeat go_big_quiet_skip
        go_big_quiet_want
        go_big_quiet_op
        first | go_big_quiet_on | (refine ⟨_, fun _ _ => rfl, ?_⟩; go_big_quiet_on)
        go_big_quiet_want
        go_big_quiet_op
        first | go_big_quiet_on | (refine ⟨_, fun _ _ => rfl, ?_⟩; go_big_quiet_on)
        repeat go_big_quiet_skip
        go_big_quiet_want
        go_big_quiet_op
        first | go_big_quiet_on | (refine ⟨_, fun _ _ => rfl, ?_⟩; go_big_quiet_on)
        refine wpQuiet_nil ?_
        intro w6 hw6
        have HB6 := Lib.hid (HB5.out.trans (Below.mono hw6 HB5.out.size))
        clear hw6 L1 CA1 C0 C1
        go_wp2
        go_ret
        exact ⟨ret_bool HF.out.symm, HB6.out⟩
      | true =>
        rw [hsh] at call1
        have CA1 := Lib.hid call1
        have HSH := Lib.hid hsh
        clear call1 hsh
        by_cases h0 : x = 0
        · have HF := Lib.hid (NO.out (fun h => h.2.1 (by rw [← HX.out]; exact h0)))
          subst h0
          clear S5 T5
          refine tq_class (AfterT w5) (by kernel_rfl) (by kernel_rfl) (Below.refl _ _).drew ?_
          go_big_quiet_want
          go_big_quiet_op
          first | go_big_quiet_on | (refine ⟨_, fun _ _ => rfl, ?_⟩; go_big_quiet_on)
          go_big_quiet_want
          refine quiet_loadcell1 22 (.tmp 12) rfl G 0 rfl _ C0.out rfl ?_
          go_big_quiet_on
          go_simp
          go_big_quiet_want
          go_big_quiet_op
          refine ⟨.bool true, fun w' hw' => CA1.out w' hw', ?_⟩
          go_big_quiet_on
          go_big_quiet_want
          go_big_quiet_op
          first | go_big_quiet_on | (refine ⟨_, fun _ _ => rfl, ?_⟩; go_big_quiet_on)
          go_big_quiet_want
          go_big_quiet_op
          first | go_big_quiet_on | (refine ⟨_, fun _ _ => rfl, ?_⟩; go_big_quiet_on)
          go_big_quiet_want
          go_big_quiet_op
          first | go_big_quiet_on | (refine ⟨_, fun _ _ => rfl, ?_⟩; go_big_quiet_on)
          go_big_quiet_want
          refine quiet_loadcell0 3 (.tmp 17) rfl G 1 rfl _ C1.out rfl ?_
          go_big_quiet_on
          go_simp
          go_big_quiet_want
          go_big_quiet_op
          first | go_big_quiet_on | (refine ⟨_, fun _ _ => rfl, ?_⟩; go_big_quiet_on)
          go_big_quiet_want
          go_big_quiet_op
          first | go_big_quiet_on | (refine ⟨_, fun _ _ => rfl, ?_⟩; go_big_quiet_on)
          go_big_quiet_want
          go_big_quiet_op
          first | go_big_quiet_on | (refine ⟨_, fun _ _ => rfl, ?_⟩; go_big_quiet_on)
          repeat go_big_quiet_skip
          go_big_quiet_want
          go_big_quiet_op
          first | go_big_quiet_on | (refine ⟨_, fun _ _ => rfl, ?_⟩; go_big_quiet_on)
          refine wpQuiet_nil ?_
          intro w6 hw6
          have HB6 := Lib.hid (HB5.out.trans (Below.mono hw6 HB5.out.size))
          clear hw6 L1 CA1 C0 C1
          go_wp2
          go_ret
          exact ⟨ret_bool HF.out.symm, HB6.out⟩
        · have hx0 : (x == 0) = false := by simpa using h0
          cases k with
          | zero =>
            have HG : Hid (partAt ts 0) := Lib.hid ⟨HSH.out, by rw [← HX.out]; exact h0, fun h => absurd h (by omega)⟩
            clear S5 T5
            refine tq_class (AfterT w5) (by kernel_rfl) (by kernel_rfl) (Below.refl _ _).drew ?_
            go_big_quiet_want
            go_big_quiet_op
            first | go_big_quiet_on | (refine ⟨_, fun _ _ => rfl, ?_⟩; go_big_quiet_on)
            go_big_quiet_want
            refine quiet_loadcell1 22 (.tmp 12) rfl G 0 rfl _ C0.out rfl ?_
            go_big_quiet_on
            go_simp
            go_big_quiet_want
            go_big_quiet_op
            refine ⟨.bool true, fun w' hw' => CA1.out w' hw', ?_⟩
            go_big_quiet_on
            go_big_quiet_want
            go_big_quiet_op
            first | go_big_quiet_on | (refine ⟨_, fun _ _ => rfl, ?_⟩; go_big_quiet_on)
            go_big_quiet_want
            go_big_quiet_op
            first | go_big_quiet_on | (refine ⟨_, fun _ _ => rfl, ?_⟩; go_big_quiet_on)
            go_big_quiet_want
            go_big_quiet_op
            first | go_big_quiet_on | (refine ⟨_, fun _ _ => rfl, ?_⟩; go_big_quiet_on)
            go_big_quiet_want
            refine quiet_loadcell0 3 (.tmp 17) rfl G 1 rfl _ C1.out rfl ?_
            go_big_quiet_on
            go_simp
            go_big_quiet_want
            go_big_quiet_op
            first | go_big_quiet_on | (refine ⟨_, fun _ _ => rfl, ?_⟩; go_big_quiet_on)
            go_big_quiet_want
            go_big_quiet_op
            first | go_big_quiet_on | (refine ⟨_, fun _ _ => rfl, ?_⟩; go_big_quiet_on)
            go_big_quiet_want
            go_big_quiet_op
            first | go_big_quiet_on | (refine ⟨_, fun _ _ => rfl, ?_⟩; go_big_quiet_on)
            go_big_quiet_want
            go_big_quiet_op
            first | go_big_quiet_on | (refine ⟨_, fun _ _ => rfl, ?_⟩; go_big_quiet_on)
            go_big_quiet_want
            go_big_quiet_op
            first | go_big_quiet_on | (refine ⟨_, fun _ _ => rfl, ?_⟩; go_big_quiet_on)
            go_big_quiet_want
            go_big_quiet_op
            first | go_big_quiet_on | (refine ⟨_, fun _ _ => rfl, ?_⟩; go_big_quiet_on)
            repeat go_big_quiet_skip
            go_big_quiet_want
            go_big_quiet_op
            first | go_big_quiet_on | (refine ⟨_, fun _ _ => rfl, ?_⟩; go_big_quiet_on)
            go_big_quiet_want
            go_big_quiet_op
            first | go_big_quiet_on | (refine ⟨_, fun _ _ => rfl, ?_⟩; go_big_quiet_on)
            refine wpQuiet_nil ?_
            intro w6 hw6
            have HB6 := Lib.hid (HB5.out.trans (Below.mono hw6 HB5.out.size))
            clear hw6 L1 CA1 C0 C1
            go_wp2
            go_roundw
            case rel => exact ⟨1, by omega, by go_num, fun j hj => by
              obtain rfl : j = 0 := by omega
              exact HG.out, HB6.out⟩
            case measure => simp [intOf]; omega
          | succ m =>
            obtain ⟨b3, o3, A3, n3, c3, e3, hb3, hd0, hd1, hsi3, _, _⟩ := T5.at_ (k := m) (by omega)
            obtain ⟨rfl, rfl⟩ : b = b3 ∧ o = o3 := by simpa using e3
            have hln3 : n3 ≤ 1099511627776 := by have := HNE.out m (by omega); have := hsi3.1; omega
            have R3 := TS.range hd0 hd1
            have LP : ∀ w', AfterT w5 w' → w'.rangeAt b (o + m * 2) [.slice A3 n3 c3, .int .i64 (tm ts m).2] := fun w' hw' j v hj => by
              rw [Below.cell hw' (p := ⟨b, o + m * 2 + j, none⟩) hb3]; exact R3 j v hj
            have call2 : ∀ w', AfterT w5 w' → Calls Try.prog 65 #[.agg #[.slice A3 n3 c3, .int .i64 (tm ts m).2], .agg #[.slice A' n' c', .int .i64 x]] w' (fun r w'' => r = .returned (.int .i64 (cmpL (tm ts m).1 (tm ts (m + 1)).1)) ∧ AfterT w5 w'') := fun w' hw' =>
              (compareParts_any A3 A' n3 c3 n' c' (tm ts m).1 (tm ts (m + 1)).1 (tm ts m).2 x w' (hsi3.below hw' (Nat.le_refl _)) (S5.below hw' (Nat.le_refl _)) hln3 hln).mono fun r w'' ⟨hr, hb⟩ => ⟨hr, Below.trans hw' (hb.mono hw'.size)⟩
            obtain ⟨y, hy⟩ : ∃ y, y = (tm ts m).2 := ⟨_, rfl⟩
            obtain ⟨q, hq⟩ : ∃ q, q = cmpL (tm ts m).1 (tm ts (m + 1)).1 := ⟨_, rfl⟩
            rw [← hy] at LP call2
            rw [← hq] at call2
            have HQ := Lib.hid hq
            have LP1 := Lib.hid LP
            have CA2 := Lib.hid call2
            have hmw : IntKind.i64.wrap (((m + 1 : Nat) : Int) - 1) = (m : Int) := by rw [IntWalk.i64_in _ (by omega)]; omega
            have hm0 : (0 : Int) < ((m + 1 : Nat) : Int) := by omega
            have hmI : (m : Int) < (n : Int) := by omega
            clear S5 T5 hsi3 hd0 hd1 R3 LP call2 hy hq
            refine tq_class (AfterT w5) (by kernel_rfl) (by kernel_rfl) (Below.refl _ _).drew ?_
            go_big_quiet_want
            go_big_quiet_op
            first | go_big_quiet_on | (refine ⟨_, fun _ _ => rfl, ?_⟩; go_big_quiet_on)
            go_big_quiet_want
            refine quiet_loadcell1 22 (.tmp 12) rfl G 0 rfl _ C0.out rfl ?_
            go_big_quiet_on
            go_simp
            go_big_quiet_want
            go_big_quiet_op
            refine ⟨.bool true, fun w' hw' => CA1.out w' hw', ?_⟩
            go_big_quiet_on
            go_big_quiet_want
            go_big_quiet_op
            first | go_big_quiet_on | (refine ⟨_, fun _ _ => rfl, ?_⟩; go_big_quiet_on)
            go_big_quiet_want
            go_big_quiet_op
            first | go_big_quiet_on | (refine ⟨_, fun _ _ => rfl, ?_⟩; go_big_quiet_on)
            go_big_quiet_want
            go_big_quiet_op
            first | go_big_quiet_on | (refine ⟨_, fun _ _ => rfl, ?_⟩; go_big_quiet_on)
            go_big_quiet_want
            refine quiet_loadcell0 3 (.tmp 17) rfl G 1 rfl _ C1.out rfl ?_
            go_big_quiet_on
            go_simp
            go_big_quiet_want
            go_big_quiet_op
            first | go_big_quiet_on | (refine ⟨_, fun _ _ => rfl, ?_⟩; go_big_quiet_on)
            go_big_quiet_want
            go_big_quiet_op
            first | go_big_quiet_on | (refine ⟨_, fun _ _ => rfl, ?_⟩; go_big_quiet_on)
            go_big_quiet_want
            go_big_quiet_op
            first | go_big_quiet_on | (refine ⟨_, fun _ _ => rfl, ?_⟩; go_big_quiet_on)
            go_big_quiet_want
            go_big_quiet_op
            first | go_big_quiet_on | (refine ⟨_, fun _ _ => rfl, ?_⟩; go_big_quiet_on)
            go_big_quiet_want
            go_big_quiet_op
            first | go_big_quiet_on | (refine ⟨_, fun _ _ => rfl, ?_⟩; go_big_quiet_on)
            go_big_quiet_want
            go_big_quiet_op
            first | go_big_quiet_on | (refine ⟨_, fun _ _ => rfl, ?_⟩; go_big_quiet_on)
            go_big_quiet_want
            go_big_quiet_op
            first | go_big_quiet_on | (refine ⟨_, fun _ _ => rfl, ?_⟩; go_big_quiet_on)
            go_big_quiet_want
            go_big_quiet_op
            first | go_big_quiet_on | (refine ⟨_, fun _ _ => rfl, ?_⟩; go_big_quiet_on)
            go_big_quiet_want
            go_big_quiet_op
            first | go_big_quiet_on | (refine ⟨_, fun _ _ => rfl, ?_⟩; go_big_quiet_on)
            go_big_quiet_want
            go_big_quiet_op
            first | go_big_quiet_on | (refine ⟨_, fun _ _ => rfl, ?_⟩; go_big_quiet_on)
            go_big_quiet_want
            refine quiet_loadmid 68 (.tmp 28) rfl b (o + m * 2) rfl [.slice A3 n3 c3, .int .i64 y] _ LP1.out Try.underlying68 rfl Prt.Try.infoTermP ?_
            go_big_quiet_on
            go_simp
            go_big_quiet_want
            refine quiet_loadmid 68 (.tmp 4) rfl G (0) rfl [.slice A' n' c', .int .i64 x] _ L1.out Try.underlying68 rfl Prt.Try.infoTermP ?_
            go_big_quiet_on
            go_simp
            go_big_quiet_want
            go_big_quiet_op
            refine ⟨.int .i64 q, fun w' hw' => CA2.out w' hw', ?_⟩
            go_big_quiet_on
            go_big_quiet_want
            go_big_quiet_op
            first | go_big_quiet_on | (refine ⟨_, fun _ _ => rfl, ?_⟩; go_big_quiet_on)
            go_big_quiet_want
            go_big_quiet_op
            first | go_big_quiet_on | (refine ⟨_, fun _ _ => rfl, ?_⟩; go_big_quiet_on)
            go_big_quiet_want
            go_big_quiet_op
            first | go_big_quiet_on | (refine ⟨_, fun _ _ => rfl, ?_⟩; go_big_quiet_on)
            refine wpQuiet_nil ?_
            intro w6 hw6
            have HB6 := Lib.hid (HB5.out.trans (Below.mono hw6 HB5.out.size))
            clear hw6 L1 CA1 LP1 CA2 C0 C1
            by_cases hq0 : 0 ≤ q
            · have HF := Lib.hid (NO.out (fun h => by have h2 := h.2.2 (by omega); rw [show m + 1 - 1 = m by omega, lessL_no (by rw [← HQ.out]; exact hq0)] at h2; simp at h2))
              go_wp2
              go_ret
              exact ⟨ret_bool HF.out.symm, HB6.out⟩
            · have HG : Hid (partAt ts (m + 1)) := Lib.hid ⟨HSH.out, by rw [← HX.out]; exact h0, fun _ => by rw [show m + 1 - 1 = m by omega]; have := HQ.out; unfold lessL; simp only [decide_eq_true_eq]; omega⟩
              go_wp2
              go_roundw
              case rel => exact ⟨m + 1 + 1, by omega, by go_num, fun j hj => by
                rcases Nat.lt_or_ge j (m + 1) with h | h
                · exact HA.out j h
                · rw [show j = m + 1 by omega]; exact HG.out, HB6.out⟩
              case measure => simp [intOf]; omega
    · have hkn : k = n := by omega
      subst hkn
      have HT := Lib.hid (partsB_yes (ts := ts) (by rw [HL.out]; exact HA.out))
      clear hts
      go_wp2
      go_ret
      exact ⟨ret_bool HT.out.symm, HB.out⟩
end Go.Proofs.Ythinbmjcdcmioaa
