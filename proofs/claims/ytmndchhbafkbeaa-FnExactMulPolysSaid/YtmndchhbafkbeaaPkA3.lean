/-
  Texts UpS to SizeT, merged. Conditions: as each says.
-/
import Derived.BigRegion
import Derived.Shelf.SlSortCmp.WholeK
import Derived.Test.YtmndchhbafkbeaaLayT
import Derived.Deep.RegionHeld3
import Derived.ProofKit
import Derived.OpenShut
import Derived.ChangeOld
import Derived.Deep.SlicePairs
import Derived.Test.YtmndchhbafkbeaaPkA2
/-
  The document's climb to the longest permutation: places of first ascents, the monomial of the stairs. Conditions: lists of one to seven numbers from 0 to 127.
-/


namespace Go.Proofs.Ytmndchhbafkbeaa
open Go.RowKit

def natL (ks : List Nat) : List Int := ks.map fun (k : Nat) => (k : Int)
theorem natL_len (ks : List Nat) : (natL ks).length = ks.length := by simp [natL]
theorem natL_app (a b : List Nat) : natL (a ++ b) = natL a ++ natL b := by simp [natL]
theorem natL_nth {ks : List Nat} {k : Nat} (h : k < ks.length) : nth (natL ks) k = ((ks[k] : Nat) : Int) := by
  rw [nth_get (by rw [natL_len]; exact h)]; simp [natL]
def lenV : Value → Nat
  | .slice _ n _ => n
  | _ => 0
/-- 'out = append(out, x)' on a slice of the call's own, and where the new one lies. -/
theorem wpList_append1_at {ops : Array Oper} {rest : List Oper} {o : Oper} {a : Act} {w : World} {Q : Exit → Act → World → Prop} (hgd : o.guard = none) (s x : Operand)
    (ho : o.op = .call { callee := .builtin .append, args := #[s, x], argTypes := #[35, 35] })
    (lo : Nat) (A : Option Addr) (n c : Nat) (xs : List Int) (v : Int) (hs : a.eval s = .slice A n c) (hx : a.eval x = .slice (some ⟨w.heap.size, 0, none⟩) 1 1)
    (hown : Own w lo w.heap.size A n c xs) (hlo : lo ≤ w.heap.size) (hn : n ≤ 1099511627776)
    (hK : ∀ A' c' w', Own w' lo w'.heap.size A' (n + 1) c' (xs ++ [v]) → w.grownBy w' (Value.slice A n c).ownBlock → Below lo w w' → (∀ g, (Value.slice A' (n + 1) c').ownBlock = some g → (Value.slice A n c).ownBlock = some g ∨ w.heap.size ≤ g) → wpList Try.prog ops Q rest (a.put o.dst (.slice A' (n + 1) c')) w') :
    wpList Try.prog ops Q (o :: rest) a (w.alloc (.cells #[.int .i64 v] 3)) := by
  obtain ⟨i0, hi, hz0, hz1, hz2⟩ := info_parts Try.infoInt
  refine Go.wpList_append_own_at _ hgd s x 35 ho lo 3 i0 (.int .i64 0) 1 8 Try.underlying35 hi hz0 hz1 hz2 rfl (by decide) _ _ _ hs (hown.1.alloc _) ⟨w.heap.size, 0, none⟩ 1 1 [.int .i64 v] hx rfl ?_ ?_ (by unfold maxLen; omega) (by omega) (by simp; omega) ?_
  · intro j u hj
    match j, hj with
    | 0, hj =>
      simp at hj
      subst hj
      rw [add_pt]
      exact (Blk.new w 3 #[.int .i64 v]).cell 0
  · intro u hu
    simp at hu
    subst hu
    rfl
  · intro v' w1 ho1 hg1 _ hat
    have e1 : List.map (Value.int .i64) xs ++ [Value.int .i64 v] = (xs ++ [v]).map (Value.int .i64) := by simp
    rw [e1] at ho1
    obtain ⟨g, cap, rfl, _, _⟩ := ho1.form (by omega)
    have hg2 : w.grownBy w1 (Value.slice A n c).ownBlock := (World.grownBy_alloc w _ _).trans hg1
    exact hK _ _ w1 (Own.of ho1) hg2 (grow_below hg2 hlo (fun k hk => (hown.1.lt k hk).1)) (fun b hb => by
      rcases hat with h | h
      · exact .inl (h ▸ hb)
      · right; rw [h] at hb; injection hb with hb; rw [← hb]; simp)

theorem pad_swap {vs : List Int} {n k : Nat} (hl : vs.length = n) (h7 : n ≤ 7) (hk : k + 1 < n) : padN 7 (swapL vs k (k + 1)) = swU (padN 7 vs) k := by
  have hp : (padN 7 vs).length = 7 := padN_len (by omega)
  apply List.ext_getElem (by rw [padN_len (by rw [swapL_len]; omega)]; simp [swU, swapL_len, hp])
  intro j h1 h2
  have hj : j < 7 := by rw [padN_len (by rw [swapL_len]; omega)] at h1; exact h1
  have e1 : nth (swU (padN 7 vs) k) j = if j = k + 1 then nth (padN 7 vs) k else if j = k then nth (padN 7 vs) (k + 1) else nth (padN 7 vs) j := swapL_nth (by rw [hp]; omega) (by rw [hp]; omega) (by rw [hp]; exact hj)
  rw [← nth_get h1, ← nth_get h2, e1, padN_nth, padN_nth, padN_nth, padN_nth]
  by_cases hjn : j < n
  · rw [swapL_nth (by omega) (by omega) (by omega)]
  · rw [nth_out (by rw [swapL_len]; omega), if_neg (by omega), if_neg (by omega), nth_out (by omega)]
/-- Where a list ends, zeros stand: there is no ascent from there on. -/
theorem pad_up {vs : List Int} {n : Nat} (hl : vs.length = n) (hx : ex7 (padN 7 vs)) {k : Nat} (hk : n ≤ k + 1) (hk6 : k < 6) : ¬ nth (padN 7 vs) k < nth (padN 7 vs) (k + 1) := by
  have := (hx.2 k (by omega)).1
  rw [padN_nth _ _ (k + 1), nth_out (xs := vs) (k := k + 1) (by omega)]
  omega
structure UpInv (xs : List Int) (n : Nat) (O : List Nat) (vs : List Int) (k : Nat) : Prop where
  len : vs.length = n
  ex : ex7 (padN 7 vs)
  ups : upL (padN 7 xs) = O ++ upL (padN 7 vs)
  fin : endL (padN 7 xs) = endL (padN 7 vs)
  no : ∀ j, j < k → ¬ nth vs j < nth vs (j + 1)
theorem UpInv.start {xs : List Int} {n : Nat} (hl : xs.length = n) (hx : ex7 (padN 7 xs)) : UpInv xs n [] xs 0 := ⟨hl, hx, rfl, rfl, fun j hj => absurd hj (by omega)⟩
theorem UpInv.step {xs : List Int} {n : Nat} {O : List Nat} {vs : List Int} {k : Nat} (h : UpInv xs n O vs k) (h7 : n ≤ 7) (hk : k + 1 < n) (hlt : nth vs k < nth vs (k + 1)) : UpInv xs n (O ++ [k]) (swapL vs k (k + 1)) 0 ∧ (O ++ [k]).length ≤ (upL (padN 7 xs)).length := by
  have hu : firstUp (padN 7 vs) = some k := firstUp_some (by omega) (by rw [padN_nth, padN_nth]; exact hlt) (fun j hj => by rw [padN_nth, padN_nth]; exact h.no j hj)
  obtain ⟨e1, e2⟩ := upL_some h.ex hu
  have hp := pad_swap h.len h7 hk
  refine ⟨⟨by rw [swapL_len]; exact h.len, by rw [hp]; exact (swU_cases h.ex (by omega)).1, ?_, ?_, fun j hj => absurd hj (by omega)⟩, ?_⟩
  · rw [h.ups, e1, hp]; simp
  · rw [h.fin, e2, hp]
  · rw [h.ups, e1]; simp
theorem UpInv.next {xs : List Int} {n : Nat} {O : List Nat} {vs : List Int} {k : Nat} (h : UpInv xs n O vs k) (hlt : ¬ nth vs k < nth vs (k + 1)) : UpInv xs n O vs (k + 1) := ⟨h.len, h.ex, h.ups, h.fin, fun j hj => by
  rcases Nat.lt_or_ge j k with h1 | h1
  · exact h.no j h1
  · obtain rfl : j = k := by omega
    exact hlt⟩
theorem UpInv.done {xs : List Int} {n : Nat} {O : List Nat} {vs : List Int} {k : Nat} (h : UpInv xs n O vs k) (hk : n ≤ k + 1) : upL (padN 7 xs) = O ∧ endL (padN 7 xs) = padN 7 vs := by
  have hu : firstUp (padN 7 vs) = none := firstUp_none fun j hj => by
    by_cases h1 : j < k
    · rw [padN_nth, padN_nth]; exact h.no j h1
    · exact pad_up h.len h.ex (by omega) hj
  obtain ⟨e1, e2⟩ := upL_none hu
  exact ⟨by rw [h.ups, e1]; simp, by rw [h.fin, e2]⟩
set_option maxRecDepth 100000 in
set_option maxHeartbeats 2000000 in
theorem l3Up_any (A : Option Addr) (n c : Nat) (xs : List Int) (w : World) (hs : SI w A n xs) (h1 : 1 ≤ n) (h7 : n ≤ 7) (hx : ex7 (padN 7 xs)) :
    Calls Try.prog 80 #[.slice A n c] w fun e w' => Fresh w w' e (natL (upL (padN 7 xs))) := by
  have HL := Lib.hid hs.1
  have HEX := Lib.hid hx
  obtain ⟨B, hB⟩ : ∃ B, B = w.heap.size := ⟨_, rfl⟩
  have HBE : Hid (B = w.heap.size) := Lib.hid hB
  obtain ⟨w0, hw0⟩ : ∃ w0, w0 = w.alloc (.cells #[] 3) := ⟨_, rfl⟩
  have HO0 : Hid (Own w0 B (B + 1) (some ⟨B, 0, none⟩) 0 0 []) := Lib.hid (by rw [hw0, hB]; exact Own.empty w)
  have HB0 : Hid (Below B w w0) := Lib.hid (by rw [hw0, hB]; exact Below.alloc_self _ _)
  have HZ0 : Hid (w0.heap.size = B + 1) := Lib.hid (by rw [hw0, hB]; simp)
  have hs0 : SI w0 A n xs := by rw [hw0]; exact hs.alloc _
  have HUL : Hid (((upL (padN 7 xs)).length : Int) ≤ 2667) := Lib.hid (by have := upL_len hx; have := (swU_cases hx (k := 0) (by omega)).2.2.2; omega)
  clear hx
  go_enter Try.func80, Try.ntmps80
  go_upto_region 2 with fail
  rw [← hw0, ← hB]
  clear hw0 hB hs
  go_wp2_with (go_at_call 84
               refine (l1Ints_any A n c xs _ hs0 (by omega)).mono ?_
               rintro e w1 ⟨A1, n1, c1, rfl, ho1, hb1⟩
               obtain rfl : n = n1 := by have := ho1.len; rw [HL.out] at this; exact this
               have HO1 := Lib.hid ho1
               have HB1 : Hid (Below B w w1) := Lib.hid (HB0.out.trans (hb1.mono (by have := HZ0.out; omega)))
               have HO0' : Hid (Own w1 B (B + 1) (some ⟨B, 0, none⟩) 0 0 []) := Lib.hid (HO0.out.below hb1 (by have := HZ0.out; omega))
               have HZ1 : Hid (B + 1 ≤ w1.heap.size) := Lib.hid (by have := hb1.size; have := HZ0.out; omega)
               clear ho1 hb1)
  clear hs0
  go_loopw [3, 4, 5] (fun ov vv kv wr => ∃ (O : List Nat) (Ao : Option Addr) (co : Nat) (vs : List Int) (Av : Option Addr) (cv lv hv k : Nat), ov = .slice Ao O.length co ∧ vv = .slice Av n cv ∧ kv = .int .i64 k ∧ k + 1 ≤ n ∧
      UpInv xs n O vs k ∧ Own wr B wr.heap.size Ao O.length co (natL O) ∧ Own wr lv hv Av n cv vs ∧ hv ≤ wr.heap.size ∧ B ≤ lv ∧ (∀ g, (Value.slice Ao O.length co).ownBlock = some g → g < lv ∨ hv ≤ g) ∧ Below B w wr ∧ O.length ≤ (upL (padN 7 xs)).length)
    (fun ov _ kv _ => ((upL (padN 7 xs)).length - lenV ov) * 8 + (7 - (intOf kv).toNat))
  case atStart =>
    refine ⟨[], some ⟨B, 0, none⟩, 0, xs, A1, c1, w0.heap.size, w1.heap.size, 0, rfl, rfl, rfl, by omega, UpInv.start HL.out HEX.out, HO0'.out.wide (Nat.le_refl _) HZ1.out, HO1.out, Nat.le_refl _, by have := HZ0.out; omega, fun g hg => ?_, HB1.out, by simp⟩
    have := (HO0'.out.lt g hg).2
    have := HZ0.out
    omega
  case round =>
    obtain ⟨O, Ao, co, vs, Av, cv, lv, hv, k, rfl, rfl, rfl, hk, hinv, hoo, hov, hhv, hlv, hap, hbw, hol⟩ := hrel
    clear HO1 HB1 HO0' HZ1
    have HI := Lib.hid hinv
    have HOO := Lib.hid hoo
    have HOV := Lib.hid hov
    have HHV := Lib.hid hhv
    have HLV := Lib.hid hlv
    have HAP := Lib.hid hap
    have HBW := Lib.hid hbw
    have HOL := Lib.hid hol
    have hwr : IntKind.i64.wrap ((k : Int) + 1) = (k : Int) + 1 := IntWalk.i64_in _ (by omega)
    obtain ⟨gv, rfl, hgv1, hgv2⟩ := hov.place (by omega)
    clear hinv hoo hhv hlv hap hbw hol
    by_cases hlt : k + 1 < n
    · have hlI : (k : Int) + 1 < (n : Int) := by omega
      have hkI : (k : Int) < (n : Int) := by omega
      have hc0 := hov.cellAt (k := k) (by omega)
      have hc1 := hov.cellAt (k := k + 1) (by omega)
      have hn1 : ((k : Int) + 1).toNat = k + 1 := by omega
      have h01 : (0 : Int) ≤ (k : Int) + 1 := by omega
      obtain ⟨x, hx⟩ : ∃ x, x = nth vs k := ⟨_, rfl⟩
      obtain ⟨y, hy⟩ : ∃ y, y = nth vs (k + 1) := ⟨_, rfl⟩
      rw [← hx] at hc0
      rw [← hy] at hc1
      have HX := Lib.hid hx
      have HY := Lib.hid hy
      have SW : Hid (∀ wx : World, Drawn wr wx → Calls Try.prog 85 #[.slice (some ⟨gv, 0, none⟩) n cv, .int .i64 k, .int .i64 ((k : Int) + 1)] wx (fun e w' => Fresh wx w' e (swapL vs k (k + 1)))) := Lib.hid (fun (wx : World) (hd : Drawn wr wx) => l1Swap_any (some ⟨gv, 0, none⟩) n cv k (k + 1) vs wx (hd.own HOV.out).si (by omega) (by omega) (by omega) (by omega))
      clear hx hy hov hgv1 hgv2
      by_cases hxy : x < y
      · have HST := Lib.hid (HI.out.step h7 hlt (by have := HX.out; have := HY.out; omega))
        go_wp2_with fail
        go_quiet (fail)
        clear hwr hn1 h01
        have hwr : IntKind.i64.wrap ((k : Int) + 1) = (k : Int) + 1 := IntWalk.i64_in _ (by omega)
        go_wp2_with fail
        refine (SW.out _ ⟨_, rfl⟩).mono ?_
        rintro e w3 ⟨A3, n3, c3, rfl, ho3, hb3⟩
        obtain rfl : n = n3 := by have := ho3.len; rw [swapL_len, HI.out.len] at this; exact this
        have hb3' : Below wr.heap.size wr w3 := (Drawn.below (w' := wr.drewN nq) ⟨_, rfl⟩ wr.heap.size).trans hb3
        have HO3 : Hid (Own w3 wr.heap.size w3.heap.size A3 n c3 (swapL vs k (k + 1))) := Lib.hid ho3
        have HB3 : Hid (Below B w w3) := Lib.hid (HBW.out.trans (hb3'.mono (Nat.le_trans HLV.out (by have := HOV.out.lt gv rfl; have := HHV.out; omega))))
        have HOO3 : Hid (Own w3 B w3.heap.size Ao O.length co (natL O)) := Lib.hid ((HOO.out.below hb3' (Nat.le_refl _)).wide (Nat.le_refl _) hb3'.size)
        have HOB3 : Hid (∀ g, (Value.slice Ao O.length co).ownBlock = some g → g < wr.heap.size) := Lib.hid (fun g hg => (HOO.out.lt g hg).2)
        have HZ3 : Hid (B ≤ wr.heap.size ∧ wr.heap.size ≤ w3.heap.size) := Lib.hid ⟨Nat.le_trans HLV.out (by have := HOV.out.lt gv rfl; have := HHV.out; omega), hb3'.size⟩
        clear ho3 hb3 hb3'
        go_wp2_with (at_builtin
                     refine wpList_append1_at rfl (.tmp 31) (.tmp 33) rfl B Ao O.length co (natL O) (k : Int) rfl rfl HOO3.out (by have := HZ3.out; omega) (by have := HUL.out; have := HOL.out; omega) ?_
                     intro A4 c4 w4 ho4 hg4 hb4 hat4
                     have HO4 := Lib.hid ho4
                     have HB4 : Hid (Below B w w4) := Lib.hid (HB3.out.trans hb4)
                     have HV4 : Hid (Own w4 wr.heap.size w3.heap.size A3 n c3 (swapL vs k (k + 1))) := Lib.hid (HO3.out.grown hg4 (fun g hg => .inl (HOB3.out g hg)))
                     have HAT4 : Hid (∀ g, (Value.slice A4 (O.length + 1) c4).ownBlock = some g → g < wr.heap.size ∨ w3.heap.size ≤ g) := Lib.hid (fun g hg => by
                       rcases hat4 g hg with h | h
                       · exact .inl (HOB3.out g h)
                       · exact .inr h)
                     have HZ4 : Hid (w3.heap.size ≤ w4.heap.size) := Lib.hid hg4.size
                     clear ho4 hg4 hb4 hat4)
        go_roundw
        case rel =>
          refine ⟨O ++ [k], A4, c4, swapL vs k (k + 1), A3, c3, wr.heap.size, w3.heap.size, 0, by simp, rfl, by go_num, by omega, HST.out.1, ?_, HV4.out, HZ4.out, HZ3.out.1, ?_, HB4.out, HST.out.2⟩
          · rw [natL_app, List.length_append]; exact HO4.out
          · rw [List.length_append]; exact HAT4.out
        case measure =>
          have := HST.out.2
          rw [List.length_append] at this
          simp only [List.length_cons, List.length_nil] at this
          simp [intOf, lenV]
          omega
      · have HNX := Lib.hid (HI.out.next (by have := HX.out; have := HY.out; omega))
        go_wp2_with fail
        go_quiet (fail)
        clear hwr hn1 h01
        have hwr : IntKind.i64.wrap ((k : Int) + 1) = (k : Int) + 1 := IntWalk.i64_in _ (by omega)
        go_wp2
        go_roundw
        case rel => exact ⟨O, Ao, co, vs, some ⟨gv, 0, none⟩, cv, lv, hv, k + 1, rfl, rfl, by go_num, by omega, HNX.out, HOO.out.drawn ⟨_, rfl⟩, HOV.out.drawn ⟨_, rfl⟩, HHV.out, HLV.out, HAP.out, HBW.out.drawnN _, HOL.out⟩
        case measure => simp [intOf, lenV]; omega
    · have hlI : ¬ (k : Int) + 1 < (n : Int) := by omega
      have HD := Lib.hid (HI.out.done (by omega))
      clear hov hgv1 hgv2
      go_wp2
      go_ret
      rw [HD.out.1]
      exact ⟨Ao, _, co, rfl, by rw [← HBE.out]; exact HOO.out, by rw [← HBE.out]; exact HBW.out⟩
/-- The stairs: the exponents of the longest permutation. -/
def stairK (n : Nat) : Nat → Int
  | 0 => 0
  | k + 1 => stairK n k + ((n : Int) - 1 - (k : Int)) * unitI k
theorem stair_all : ∀ n, n ≤ 7 → (∀ k, k ≤ n → 0 ≤ stairK n k ∧ stairK n k < 562949953421312) ∧ (∀ k, k < n → 0 ≤ ((n : Int) - 1 - (k : Int)) * unitI k ∧ ((n : Int) - 1 - (k : Int)) * unitI k < 562949953421312) ∧ stairK n n = key7 (padN 7 (downL n n)) := by
  intro n hn
  have lt8 : n = 0 ∨ n = 1 ∨ n = 2 ∨ n = 3 ∨ n = 4 ∨ n = 5 ∨ n = 6 ∨ n = 7 := by omega
  rcases lt8 with rfl | rfl | rfl | rfl | rfl | rfl | rfl | rfl <;> decide
end Go.Proofs.Ytmndchhbafkbeaa

/-
  The document's Schubert polynomials: the monomial of the stairs, then divided differences on the way back. Conditions: permutations of at most seven.
-/


namespace Go.Proofs.Ytmndchhbafkbeaa
open Go.RowKit

/-- The first n numbers are those below n, each once; behind them there are zeros. -/
structure PDl (e : List Int) (n : Nat) : Prop where
  rng : ∀ k, k < n → 0 ≤ nth e k ∧ nth e k ≤ (n : Int) - 1
  ne : ∀ j k, j < k → k < n → nth e j ≠ nth e k
  out : ∀ k, n ≤ k → k < 7 → nth e k = 0
theorem list7_ext {e f : List Int} (he : e.length = 7) (hf : f.length = 7) (h : ∀ k, k < 7 → nth e k = nth f k) : e = f := by
  apply List.ext_getElem (by omega)
  intro j h1 h2
  rw [← nth_get h1, ← nth_get h2]
  exact h j (by omega)
theorem downL_nth {n k : Nat} (h : k < n) : nth (downL n n) k = (n : Int) - 1 - (k : Int) := by
  rw [nth_get (by rw [downL_len]; exact h)]; simp [downL]
theorem PDl.end_ {n : Nat} (hn : n ≤ 7) : ∀ e, ex7 e → PDl e n → endL e = padN 7 (downL n n) := by
  refine up_ind (P := fun e => PDl e n → endL e = padN 7 (downL n n)) ?_ ?_
  · intro e he hu hp
    rw [(upL_none hu).2]
    refine list7_ext he.1 (padN_len (by rw [downL_len]; exact hn)) fun k hk => ?_
    rw [padN_nth]
    by_cases hkn : k < n
    · rw [downL_nth hkn]
      have hdown : ∀ j, j + 1 < n → nth e (j + 1) + 1 ≤ nth e j := fun j hj => by
        have h1 := firstUp_no hu j (by omega)
        have h2 := hp.ne j (j + 1) (by omega) hj
        omega
      have hup : ∀ j, j < n → nth e j ≤ (n : Int) - 1 - (j : Int) := by
        intro j
        induction j with
        | zero => intro hj; have := (hp.rng 0 hj).2; omega
        | succ j ih => intro hj; have := ih (by omega); have := hdown j hj; omega
      have hlo : ∀ d j, j + d + 1 = n → (d : Int) ≤ nth e j := by
        intro d
        induction d with
        | zero => intro j hj; have := (hp.rng j (by omega)).1; omega
        | succ d ih => intro j hj; have := ih (j + 1) (by omega); have := hdown j (by omega); omega
      have := hup k hkn
      have := hlo (n - 1 - k) k (by omega)
      omega
    · rw [nth_out (xs := downL n n) (by rw [downL_len]; omega)]
      exact hp.out k (by omega) hk
  · intro e k he hu h6 hlt ih hp
    rw [(upL_some he hu).2]
    have hkn : k + 1 < n := by
      rcases Nat.lt_or_ge (k + 1) n with h | h
      · exact h
      · have h1 := hp.out (k + 1) h (by omega)
        have h2 := (he.2 k (by omega)).1
        omega
    have hs : ∀ j, j < 7 → nth (swU e k) j = if j = k + 1 then nth e k else if j = k then nth e (k + 1) else nth e j := fun j hj => swapL_nth (by rw [he.1]; omega) (by rw [he.1]; omega) (by rw [he.1]; exact hj)
    refine ih ⟨fun j hj => ?_, fun i j hij hj => ?_, fun j hj hj7 => ?_⟩
    · rw [hs j (by omega)]
      split
      · exact hp.rng k (by omega)
      · split
        · exact hp.rng (k + 1) hkn
        · exact hp.rng j hj
    · rw [hs i (by omega), hs j (by omega)]
      have hne : ∀ a b, a < n → b < n → a ≠ b → nth e a ≠ nth e b := fun a b ha hb hab => by
        rcases Nat.lt_or_ge a b with h | h
        · exact hp.ne a b h hb
        · exact fun h' => hp.ne b a (by omega) ha h'.symm
      by_cases i1 : i = k + 1
      · rw [if_pos i1, if_neg (by omega), if_neg (by omega)]; exact hne _ _ (by omega) (by omega) (by omega)
      · rw [if_neg i1]
        by_cases i2 : i = k
        · rw [if_pos i2]
          by_cases j1 : j = k + 1
          · rw [if_pos j1]; exact hne _ _ (by omega) (by omega) (by omega)
          · rw [if_neg j1, if_neg (by omega)]; exact hne _ _ (by omega) (by omega) (by omega)
        · rw [if_neg i2]
          by_cases j1 : j = k + 1
          · rw [if_pos j1]; exact hne _ _ (by omega) (by omega) (by omega)
          · rw [if_neg j1]
            by_cases j2 : j = k
            · rw [if_pos j2]; exact hne _ _ (by omega) (by omega) (by omega)
            · rw [if_neg j2]; exact hne _ _ (by omega) (by omega) (by omega)
    · rw [hs j hj7, if_neg (by omega), if_neg (by omega)]
      exact hp.out j hj hj7
theorem perm_ne {xs : List Int} (h : isPermP xs) {j k : Nat} (hj : j < k) (hk : k < xs.length) : nth xs j ≠ nth xs k := fun e => by
  have := (h.2.2 k hk).2.2
  simp only [hasB, decide_eq_false_iff_not] at this
  apply this
  rw [← e, ← nth_take hj, nth_get (by rw [List.length_take]; omega)]
  exact List.getElem_mem _
theorem PDl.perm {xs : List Int} (h : isPermP xs) : PDl (padN 7 xs) xs.length := by
  refine ⟨fun k hk => ?_, fun j k hj hk => ?_, fun k hk _ => ?_⟩
  · rw [padN_nth]; have := h.range k hk; omega
  · rw [padN_nth, padN_nth]; exact perm_ne h hj hk
  · rw [padN_nth, nth_out hk]
theorem trimN_fix {xs : List Int} : ∀ {n k : Nat}, trimN xs n ≤ k → k < n → nth xs k = (k : Int)
  | 0, _, _, h => absurd h (by omega)
  | n + 1, k, h, hk => by
    by_cases hc : 0 < n ∧ nth xs n = (n : Int)
    · rw [trimN_hit hc.1 hc.2] at h
      by_cases hkn : k = n
      · subst hkn; exact hc.2
      · exact trimN_fix h (by omega)
    · rw [trimN_miss hc] at h; omega
theorem PDl.trim {xs : List Int} (h : isPermP xs) : PDl (padN 7 (xs.take (trimN xs xs.length))) (trimN xs xs.length) := by
  have hle := trimN_le xs xs.length
  refine ⟨fun k hk => ?_, fun j k hj hk => ?_, fun k hk _ => ?_⟩
  · rw [padN_nth, nth_take hk]
    have h1 := h.range k (by omega)
    refine ⟨h1.1, ?_⟩
    rcases Int.lt_or_le (nth xs k) (trimN xs xs.length : Int) with h2 | h2
    · omega
    · have h3 : nth xs (nth xs k).toNat = (((nth xs k).toNat : Nat) : Int) := trimN_fix (n := xs.length) (by omega) (by omega)
      have h4 := perm_ne h (j := k) (k := (nth xs k).toNat) (by omega) (by omega)
      rw [h3] at h4
      omega
  · rw [padN_nth, padN_nth, nth_take (by omega), nth_take hk]
    exact perm_ne h hj (by omega)
  · rw [padN_nth, nth_out (by rw [List.length_take]; omega)]
theorem pad_ex7 {xs : List Int} {n : Nat} (hl : xs.length = n) (h7 : n ≤ 7) (h : ∀ k, k < n → 0 ≤ nth xs k ∧ nth xs k ≤ 6) : ex7 (padN 7 xs) ∧ ∀ k, k < 7 → nth (padN 7 xs) k ≤ 6 := by
  have hk : ∀ k, k < 7 → 0 ≤ nth (padN 7 xs) k ∧ nth (padN 7 xs) k ≤ 6 := fun k hk => by
    rw [padN_nth]
    by_cases hkn : k < n
    · exact h k hkn
    · rw [nth_out (by omega)]; omega
  exact ⟨⟨padN_len (by omega), fun k hk7 => by have := hk k hk7; omega⟩, fun k hk7 => (hk k hk7).2⟩
theorem perm_pad {xs : List Int} (h : isPermP xs) : ex7 (padN 7 xs) ∧ ∀ k, k < 7 → nth (padN 7 xs) k ≤ 6 :=
  pad_ex7 rfl h.2.1 fun k hk => by have := h.range k hk; have := h.2.1; omega
theorem trim_pad {xs : List Int} (h : isPermP xs) : ex7 (padN 7 (xs.take (trimN xs xs.length))) ∧ ∀ k, k < 7 → nth (padN 7 (xs.take (trimN xs xs.length))) k ≤ 6 := by
  have hle := trimN_le xs xs.length
  refine pad_ex7 (n := trimN xs xs.length) (by rw [List.length_take]; omega) (by have := h.2.1; omega) fun k hk => ?_
  rw [nth_take hk]
  have := h.range k (by omega); have := h.2.1; omega
theorem trimN_pos {xs : List Int} : ∀ {n : Nat}, 0 < n → 0 < trimN xs n
  | 0, h => absurd h (by omega)
  | n + 1, _ => by
    by_cases hc : 0 < n ∧ nth xs n = (n : Int)
    · rw [trimN_hit hc.1 hc.2]; exact trimN_pos hc.1
    · rw [trimN_miss hc]; omega

/-- What the operators have made behind place m. -/
def FoldS (op : Nat → List Mn → List Mn) (ks : List Nat) (b : List Mn) (m : Nat) : List Mn := gatherL ((ks.drop m).foldr op b)
theorem sameC_gather (l : List Mn) : sameC (gatherL l) l := fun k => gatherL_cf k l
theorem FoldS.step {op : Nat → List Mn → List Mn} {d : Int} (h : OpK op d) {ks : List Nat} {b : List Mn} {m : Nat} (hm : m < ks.length) : gatherL (op ks[m] (FoldS op ks b (m + 1))) = FoldS op ks b m := by
  unfold FoldS
  rw [List.drop_eq_getElem_cons hm]
  exact gatherL_congr (h.same ks[m] (sameC_gather _))
theorem FoldS.facts {op : Nat → List Mn → List Mn} {d : Int} (h : OpK op d) (hd : d ≤ 6) {ks : List Nat} (hk : ∀ k ∈ ks, k < 6) {b : List Mn} (hb : capK d b) (m : Nat) : capK 6 (FoldS op ks b m) ∧ (FoldS op ks b m).length ≤ 823543 ∧ (∀ t ∈ FoldS op ks b m, in64 t.2) := by
  have h1 : capK 6 (FoldS op ks b m) := ((fold_cap h (fun k hk' => hk k (List.mem_of_mem_drop hk')) hb).gather).mono hd
  have h2 := gatherL_canon ((ks.drop m).foldr op b)
  exact ⟨h1, cap6_len h1 h2, fun t ht => (h2.2 t ht).2⟩
theorem FoldS.start {op : Nat → List Mn → List Mn} {ks : List Nat} {x : Int} : FoldS op ks [(x, 1)] ks.length = [(x, 1)] := by
  unfold FoldS
  rw [List.drop_length]
  exact gatherL_self ⟨List.pairwise_singleton .., fun t ht => by rw [List.mem_singleton.1 ht]; exact ⟨show (1 : Int) ≠ 0 by decide, show in64 1 by unfold in64; omega⟩⟩
theorem FoldS.zero {op : Nat → List Mn → List Mn} {e : List Int} : FoldS op (upL e) [(key7 (endL e), 1)] 0 = gatherL (dscL op e) := rfl

theorem OwnM.lit1 (w : World) (x z : Int) : OwnM (w.alloc (.cells #[.int .i64 x, .int .i64 z] 85)) w.heap.size (w.heap.size + 1) (some ⟨w.heap.size, 0, none⟩) 1 1 [(x, z)] :=
  ⟨rfl, World.ownsRow_lit w #[.int .i64 x, .int .i64 z] 1 (Nat.le_refl _) (by unfold maxLen; omega) rfl, fun k hk => by simp [Value.ownBlock] at hk; omega⟩
set_option maxHeartbeats 800000 in
theorem l3Stair_any (n : Nat) (w : World) (h7 : n ≤ 7) :
    Calls Try.prog 79 #[.int .i64 n] w fun e w' => FreshM w w' e [(key7 (padN 7 (downL n n)), 1)] := by
  have HS := Lib.hid (stair_all n h7)
  go_enter Try.func79, Try.ntmps79
  go_wp2
  go_loopw [3, 4] (fun kv iv wr => ∃ k : Nat, k ≤ n ∧ iv = .int .i64 k ∧ kv = .int .i64 (stairK n k) ∧ wr = w)
    (fun _ iv _ => n - (intOf iv).toNat)
  case atStart => exact ⟨0, Nat.zero_le _, rfl, rfl, rfl⟩
  case round =>
    obtain ⟨k, hk, rfl, rfl, rfl⟩ := hrel
    by_cases hlt : k < n
    · have hlI : (k : Int) < (n : Int) := by omega
      have b1 := HS.out.1 k hk
      have b2 := HS.out.1 (k + 1) hlt
      have b3 := HS.out.2.1 k hlt
      have e : stairK n (k + 1) = stairK n k + ((n : Int) - 1 - (k : Int)) * unitI k := rfl
      have hU := unitI_pos (i := k) (by omega)
      obtain ⟨U, hU0⟩ : ∃ U, U = unitI k := ⟨_, rfl⟩
      have HC := Lib.hid (fun w => l2Unit_at (j := (k : Int)) k rfl (by omega) hU0 w)
      obtain ⟨s, hs⟩ : ∃ s, s = stairK n k := ⟨_, rfl⟩
      rw [← hU0] at e b3
      rw [← hs] at e b1 ⊢
      obtain ⟨p, hp⟩ : ∃ p, p = ((n : Int) - 1 - (k : Int)) * U := ⟨_, rfl⟩
      rw [e] at b2
      have HE := Lib.hid e
      have hw1 : IntKind.i64.wrap ((n : Int) - 1) = (n : Int) - 1 := IntWalk.i64_in _ (by omega)
      have hw2 : IntKind.i64.wrap ((n : Int) - 1 - (k : Int)) = (n : Int) - 1 - (k : Int) := IntWalk.i64_in _ (by omega)
      have hw3 : IntKind.i64.wrap (((n : Int) - 1 - (k : Int)) * U) = ((n : Int) - 1 - (k : Int)) * U := IntWalk.i64_in _ (by omega)
      have hw4 : IntKind.i64.wrap (s + ((n : Int) - 1 - (k : Int)) * U) = s + ((n : Int) - 1 - (k : Int)) * U := IntWalk.i64_in _ (by omega)
      clear b1 b2 b3 hp e hU hU0 hs
      go_wp2_with (go_at_call 108; refine (HC.out _).mono ?_; rintro e w2 ⟨rfl, rfl⟩)
      go_roundw
      case rel => exact ⟨k + 1, by omega, by go_num, by rw [HE.out], by trivial⟩
      case measure => simp [intOf]; omega
    · have hkn : k = n := by omega
      subst hkn
      have HE := Lib.hid HS.out.2.2
      obtain ⟨s, hs⟩ : ∃ s, s = stairK k k := ⟨_, rfl⟩
      rw [← hs] at HE ⊢
      clear hs
      go_wp2
      go_ret
      rw [← HE.out]
      exact ⟨_, 1, 1, rfl, (OwnM.lit1 wr s 1).wide (Nat.le_refl _) (by simp), (Below.refl _ _).alloc (Nat.le_refl _) _⟩
theorem wrap64_eq {x : Int} (h : -9223372036854775808 ≤ x ∧ x ≤ 9223372036854775807) : wrap64 x = x := by unfold wrap64; omega
/-- The list of which the Schubert polynomial of a permutation is made. -/
def schE (xs : List Int) : List Int := padN 7 (xs.take (trimN xs xs.length))
theorem schE_trim {xs : List Int} (h : isPermB xs = true) : padN 7 (trimPerm xs) = schE xs := by rw [trimPerm_yes h]; rfl
set_option maxRecDepth 100000 in
set_option maxHeartbeats 2000000 in
theorem l3Schubert_any (A : Option Addr) (n c : Nat) (xs : List Int) (w : World) (hs : SI w A n xs) (hnc : n ≤ c) (hp : isPermB xs = true) :
    Calls Try.prog 76 #[.slice A n c] w fun e w' => FreshM w w' e (gatherL (dscL divL (schE xs))) := by
  have hP := isPermB_P hp
  have hl := hs.1
  have h1 : 1 ≤ n := by have := hP.1; omega
  have h7 : n ≤ 7 := by have := hP.2.1; omega
  obtain ⟨m, hm⟩ : ∃ m, m = trimN xs n := ⟨_, rfl⟩
  have hmn : m ≤ n := by have := trimN_le xs n; omega
  have hm1 : 1 ≤ m := by have := trimN_pos (xs := xs) (n := n) (by omega); omega
  have hpx := trim_pad hP
  have hpd := PDl.trim hP
  have e0 : schE xs = padN 7 (xs.take m) := by unfold schE; rw [hl, hm]
  rw [hl, ← hm] at hpx hpd
  have hend := hpd.end_ (by omega) _ hpx.1
  have HEND : Hid ((key7 (padN 7 (downL m m)), (1 : Int)) = (key7 (endL (padN 7 (xs.take m))), 1)) := Lib.hid (by rw [hend])
  have HEX := Lib.hid hpx.1
  have HCK : Hid (capK 6 [(key7 (endL (padN 7 (xs.take m))), (1 : Int))]) := Lib.hid (capK.one (endL_ex7 hpx.1) (endL_cap hpx.1 hpx.2) 1)
  have HLT : Hid ((xs.take m).length = m) := Lib.hid (by rw [List.length_take]; omega)
  have HT := Lib.hid (l1Trim_any A n c xs w hs hnc h1 (by omega))
  rw [← hm] at HT
  rw [e0]
  obtain ⟨ks, hks⟩ : ∃ ks, ks = upL (padN 7 (xs.take m)) := ⟨_, rfl⟩
  have HK6 : Hid (∀ k ∈ ks, k < 6) := Lib.hid (by rw [hks]; exact upL_small hpx.1)
  have HKL : Hid ((ks.length : Int) ≤ 2667) := Lib.hid (by rw [hks]; have := upL_len hpx.1; have := (swU_cases hpx.1 (k := 0) (by omega)).2.2.2; omega)
  have HKS := Lib.hid hks
  clear hend hpx hpd e0 hP hp hs hnc hl hm hks
  go_enter Try.func76, Try.ntmps76
  go_wp2_with (first
    | (go_at_call 117
       refine HT.out.mono ?_
       rintro e w1 ⟨A1, n1, c1, rfl, ho1, hb1⟩
       obtain rfl : m = n1 := by have := ho1.len; rw [HLT.out] at this; exact this
       have HO1 := Lib.hid ho1
       have HB1 := Lib.hid hb1
       clear ho1 hb1)
    | (go_at_call 79
       refine (l3Stair_any m _ (by omega)).mono ?_
       rintro e w2 ⟨A2, n2, c2, rfl, ho2, hb2⟩
       rw [HEND.out] at ho2
       have HO2 := Lib.hid ho2
       have HB2 : Hid (Below w.heap.size w w2) := Lib.hid (HB1.out.trans (hb2.mono HB1.out.size))
       have HO1' : Hid (Own w2 w.heap.size w1.heap.size A1 m c1 (xs.take m)) := Lib.hid (HO1.out.below hb2 (Nat.le_refl _))
       have HZ2 : Hid (w.heap.size ≤ w1.heap.size) := Lib.hid HB1.out.size
       clear ho2 hb2)
    | (go_at_call 80
       refine (l3Up_any A1 m c1 (xs.take m) _ HO1'.out.si hm1 (by omega) HEX.out).mono ?_
       rintro e w3 ⟨A3, n3, c3, rfl, ho3, hb3⟩
       rw [← HKS.out] at ho3
       obtain rfl : ks.length = n3 := by have := ho3.len; rw [natL_len] at this; exact this
       have HO3 := Lib.hid ho3
       have HB3 : Hid (Below w.heap.size w w3) := Lib.hid (HB2.out.trans (hb3.mono HB2.out.size))
       have HO2' : Hid (OwnM w3 w.heap.size w3.heap.size A2 n2 c2 [(key7 (endL (padN 7 (xs.take m))), (1 : Int))]) := Lib.hid ((HO2.out.below hb3 (Nat.le_refl _)).wide HZ2.out hb3.size)
       have HZ3 : Hid (w.heap.size ≤ w3.heap.size) := Lib.hid HB3.out.size
       clear ho3 hb3)
    | go_in)
  go_loopw [4, 6] (fun fv iv wr => ∃ (j : Nat) (Af : Option Addr) (nf cf : Nat), fv = .slice Af nf cf ∧ iv = .int .i64 ((j : Int) - 1) ∧ j ≤ ks.length ∧ OwnM wr w.heap.size wr.heap.size Af nf cf (FoldS divL ks [(key7 (endL (padN 7 (xs.take m))), (1 : Int))] j) ∧ Below w3.heap.size w3 wr)
    (fun _ iv _ => (intOf iv + 1).toNat)
  case atStart => exact ⟨ks.length, A2, n2, c2, rfl, by rw [wrap64_eq (by have := HKL.out; omega)], Nat.le_refl _, by rw [FoldS.start]; exact HO2'.out, Below.refl _ _⟩
  case round =>
    obtain ⟨j, Af, nf, cf, rfl, rfl, hj, hof, hbf⟩ := hrel
    have HOF := Lib.hid hof
    have HBF := Lib.hid hbf
    have HNL : Hid (nf ≤ 823543) := Lib.hid (by have := (FoldS.facts (opK_div 6) (Int.le_refl _) HK6.out HCK.out j).2.1; rw [hof.len] at this; exact this)
    clear hof hbf
    cases j with
    | zero =>
      go_wp2
      go_ret
      rw [HKS.out] at HOF
      exact ⟨Af, nf, cf, rfl, HOF.out, HB3.out.trans (HBF.out.mono HZ3.out)⟩
    | succ j =>
      have hjl : j < ks.length := by omega
      have hi0 : ((j + 1 : Nat) : Int) - 1 = (j : Int) := by omega
      rw [hi0]
      have HST := Lib.hid (FoldS.step (opK_div 6) (b := [(key7 (endL (padN 7 (xs.take m))), (1 : Int))]) hjl)
      have hk6 : ks[j] < 6 := HK6.out _ (List.getElem_mem hjl)
      have hsi := (HO3.out.below HBF.out (Nat.le_refl _)).si
      obtain ⟨b, o, e1, hb, hc⟩ := hsi.at_ (by omega)
      have hc1 := hc j hjl
      rw [natL_nth hjl] at hc1
      subst e1
      obtain ⟨x, hx⟩ : ∃ x, x = ks[j] := ⟨_, rfl⟩
      rw [← hx] at hc1 HST hk6
      have HFF := Lib.hid (FoldS.facts (opK_div 6) (Int.le_refl _) HK6.out HCK.out (j + 1))
      have HDV := Lib.hid (l2Divided_any Af nf cf _ x wr HOF.out.si (by have := HNL.out; omega) hk6 HFF.out.1.in49 HFF.out.2.2)
      have hjI : (j : Int) < (ks.length : Int) := by omega
      clear hsi hc hx hi0 hk6 hb
      go_wp2_with (go_at_call 55
                   refine HDV.out.mono ?_
                   rintro e w4 ⟨A4, n4, c4, rfl, ho4, hb4⟩
                   rw [HST.out] at ho4
                   have HO4 : Hid (OwnM w4 w.heap.size w4.heap.size A4 n4 c4 (FoldS divL ks [(key7 (endL (padN 7 (xs.take m))), (1 : Int))] j)) := Lib.hid (ho4.wide (Nat.le_trans HZ3.out HBF.out.size) (Nat.le_refl _))
                   have HB4 : Hid (Below w3.heap.size w3 w4) := Lib.hid (HBF.out.trans (hb4.mono HBF.out.size))
                   clear ho4 hb4)
      go_roundw
      case rel => exact ⟨j, A4, n4, c4, rfl, by rw [wrap64_eq (by have := HKL.out; omega)], by omega, HO4.out, HB4.out⟩
      case measure => simp only [intOf]; have h9 := wrap64_eq (x := (j : Int) - 1) (by have := HKL.out; omega); rw [h9]; omega
end Go.Proofs.Ytmndchhbafkbeaa

/-
  The program's descent: polynomials made by operators on the way back from a list's end. Conditions: seven numbers from 0 to 127.
-/



namespace Go.Proofs.Ytmndchhbafkbeaa
open Go.RowKit

theorem arrC_of {l : List Int} (h : l.length = 7) : (l.map (Value.int .i64)).toArray = arrC l := by
  match l, h with
  | [a, b, c, d, e, f, g], _ => rfl
set_option maxHeartbeats 800000 in
theorem withZeros_any (A : Option Addr) (n c : Nat) (xs : List Int) (w : World) (hs : SI w A n xs) (hn : n ≤ 7) :
    Calls Try.prog 82 #[.slice A n c] w fun e w' => e = .returned (arr (padN 7 xs)) ∧ Below w.heap.size w w' := by
  have HL := Lib.hid hs.1
  have HS := Lib.hid hs
  clear hs
  have hz : zeroC = ((List.replicate 7 (0 : Int)).map (Value.int .i64)).toArray := rfl
  have hz0 : Blk ((w.alloc (.cells zeroC 79)).alloc (.cells zeroC 79)) (w.heap.size + 1) 79 ((List.replicate 7 (0 : Int)).map (Value.int .i64)).toArray := by
    rw [← hz]
    have := Blk.new (w.alloc (.cells zeroC 79)) 79 zeroC
    rwa [show (w.alloc (.cells zeroC 79)).heap.size = w.heap.size + 1 from by simp] at this
  have hz1 : Blk ((w.alloc (.cells zeroC 79)).alloc (.cells zeroC 79)) w.heap.size 79 zeroC := (Blk.new w 79 zeroC).alloc _
  have hz2 : Below w.heap.size w ((w.alloc (.cells zeroC 79)).alloc (.cells zeroC 79)) := ((Below.refl _ _).alloc (Nat.le_refl _) _).alloc (by simp) _
  have hz3 : SI ((w.alloc (.cells zeroC 79)).alloc (.cells zeroC 79)) A n xs := (HS.out.alloc _).alloc _
  have HZ0 := Lib.hid hz0
  have HZ1 := Lib.hid hz1
  have HZ2 := Lib.hid hz2
  have HZ3 := Lib.hid hz3
  clear hz0 hz1 hz2 hz3 hz
  go_enter Try.func82, Try.ntmps82
  go_wp2_with (first
    | (refine wpList_copy_arr rfl (.tmp 4) (.tmp 5) rfl (w.heap.size + 1) 7 A n c rfl rfl 79 xs HZ0.out HZ3.out hn ?_
       intro w4 hb4 hg4
       rw [arrC_of (padN_len (by rw [HL.out]; exact hn))] at hb4
       have HB4 := Lib.hid hb4
       have HA4 : Hid (Blk w4 w.heap.size 79 zeroC) := Lib.hid (HZ1.out.grown hg4 (by intro e; injection e with e; omega))
       have HW4 : Hid (Below w.heap.size w w4) := Lib.hid (HZ2.out.grown hg4 HZ2.out.size (by rintro q ⟨⟩; omega))
       clear hb4 hg4)
    | (refine wpList_load_blk rfl 79 (.tmp 3) rfl (w.heap.size + 1) rfl 79 (arrC (padN 7 xs)) 7 3 HB4.out Try.undExp Try.infoExp ?_)
    | (refine wpList_store_blk rfl 79 (.tmp 2) (.tmp 7) rfl w.heap.size (arrC (padN 7 xs)) rfl rfl 79 zeroC HA4.out Try.infoExp rfl (arrC_one _) ?_; intro w5 hb5 hg5)
    | fail)
  refine bodyPost_ret (results_blk Try.results82 _ _ _ _ _ 7 3 rfl hb5 Try.undExp Try.infoExp) rfl ?_
  exact ⟨rfl, HW4.out.grown hg5 HW4.out.size (by rintro q ⟨⟩; exact Nat.le_refl _)⟩
set_option maxHeartbeats 800000 in
theorem monomialSum_any (e : List Int) (d : Int) (w : World) (he : ex7 e) (hc : ∀ k, k < 7 → nth e k ≤ d) :
    Calls Try.prog 83 #[arr e] w fun r w' => FreshS w w' r d [(key7 e, 1)] := by
  have HE := Lib.hid he
  have HC := Lib.hid hc
  clear he hc
  obtain ⟨w0, hw0⟩ : ∃ w0, w0 = w.alloc (.cells (arrC e) 79) := ⟨_, rfl⟩
  have HB0 : Hid (Below w.heap.size w w0) := Lib.hid (by rw [hw0]; exact Below.alloc_self _ _)
  have HK0 : Hid (Blk w0 w.heap.size 79 (arrC e)) := Lib.hid (by rw [hw0]; exact Blk.new _ _ _)
  have HZ0 : Hid (w0.heap.size = w.heap.size + 1) := Lib.hid (by rw [hw0]; simp)
  go_enter Try.func83, Try.ntmps83
  go_upto_region 1 with fail
  rw [← hw0]
  clear hw0
  go_wp2_with (first
    | (go_at_call 110; refine (newSum_any _).mono ?_; rintro r w1 ⟨g5, b5, rfl, hs1, hg51, hb51, hbel1⟩
       have HS1 := Lib.hid hs1
       have HB1 : Hid (Below w.heap.size w w1) := Lib.hid (HB0.out.trans (hbel1.mono HB0.out.size))
       have HK1 : Hid (Blk w1 w.heap.size 79 (arrC e)) := Lib.hid (HK0.out.below hbel1 (by have := HZ0.out; omega))
       have HG : Hid (w.heap.size ≤ g5 ∧ w.heap.size ≤ b5) := Lib.hid (by have := HZ0.out; omega)
       clear hs1 hbel1 hg51 hb51)
    | (refine wpList_load_blk rfl 79 (.tmp 1) rfl w.heap.size rfl 79 (arrC e) 7 3 HK1.out Try.undExp Try.infoExp ?_)
    | (go_at_call 114; refine (add_any g5 b5 [] e 1 _ HS1.out HE.out).mono ?_; rintro r w5 ⟨rfl, hs5, hg5⟩; have HS5 := Lib.hid hs5; have HG5 := Lib.hid hg5; clear hs5 hg5)
    | go_in)
  go_ret
  exact ⟨g5, b5, _, rfl, HS5.out, HG.out.1, HG.out.2, put_same [] e 1, (capE.nil d).put HC.out _, HB1.out.trans (grown_belowM HG5.out HB1.out.size (fun j hj => by injection hj with hj; have := HG.out.2; omega))⟩

theorem sameC.isoL {a b : List Mn} (i : Nat) (h : sameC a b) : sameC (isoL i a) (isoL i b) := (h.lin _).app (((h.lin _).lin _).scale _)

set_option maxRecDepth 100000 in
set_option maxHeartbeats 2000000 in
theorem descend_div (d0 : Int) : ∀ (f : Nat) (e : List Int) (w : World), ex7 e → (∀ k, k < 7 → nth e k ≤ d0) → mu7 e < f → d0 ≤ 126 →
    Calls Try.prog 81 #[arr e, .func (.func 83) #[] #[], .func (.func 59) #[] #[]] w fun r w' => FreshS w w' r d0 (dscL divL e) := by
  intro f
  induction f with
  | zero => intro e w h _ hm _; exact absurd hm (by have := (swU_cases h (k := 0) (by omega)).2.2.1; omega)
  | succ f ih =>
    intro e w he hcp hm hd
    have HE := Lib.hid he
    have HCP := Lib.hid hcp
    have HMU := Lib.hid hm
    have HD := Lib.hid hd
    have HIH := Lib.hid ih
    have HM0 : Hid (0 ≤ mu7 e) := Lib.hid (swU_cases he (k := 0) (by omega)).2.2.1
    clear he hcp hm ih hd
    obtain ⟨w0, hw0⟩ : ∃ w0, w0 = w.alloc (.cells (arrC e) 79) := ⟨_, rfl⟩
    obtain ⟨g, hg⟩ : ∃ g, g = w.heap.size := ⟨_, rfl⟩
    have HB0 : Hid (Below w.heap.size w w0) := Lib.hid (by rw [hw0]; exact Below.alloc_self _ _)
    have HK0 : Hid (Blk w0 g 79 (arrC e)) := Lib.hid (by rw [hw0, hg]; exact Blk.new _ _ _)
    have HG := Lib.hid hg
    go_enter Try.func81, Try.ntmps81
    go_upto_region 1 with fail
    rw [← hw0, ← hg]
    clear hw0 hg
    go_wp2_with fail
    go_loopw [8] (fun i wr => ∃ k : Nat, k ≤ 6 ∧ i = .int .i64 k ∧ Drawn w0 wr ∧ ∀ j, j < k → ¬ nth e j < nth e (j + 1))
      (fun i _ => 6 - (intOf i).toNat)
    case atStart => exact ⟨0, Nat.zero_le _, rfl, Drawn.refl _, fun j hj => absurd hj (by omega)⟩
    case round =>
      obtain ⟨k, hk, rfl, hD, hall⟩ := hrel
      have HA := Lib.hid hall
      have HDR := Lib.hid hD
      have HKR := Lib.hid (HK0.out.drawn hD)
      have hkr := HK0.out.drawn hD
      have HBR : Hid (Below w.heap.size w wr) := Lib.hid (HB0.out.trans ((hD.below _).mono HB0.out.size))
      clear hall hD
      by_cases hlt : k < 6
      · have hlI : (k : Int) < 6 := by omega
        have hc0 : wr.cell? ⟨g, k, none⟩ = some (.int .i64 (nth e k)) := (hkr.cell k).trans (arrC_get e k (by omega))
        have hc1 : wr.cell? ⟨g, k + 1, none⟩ = some (.int .i64 (nth e (k + 1))) := (hkr.cell (k + 1)).trans (arrC_get e (k + 1) (by omega))
        have hf0 := hkr.frozen k
        have hf1 := hkr.frozen (k + 1)
        have hwr : IntKind.i64.wrap ((k : Int) + 1) = (k : Int) + 1 := IntWalk.i64_in _ (by omega)
        have hn1 : ((k : Int) + 1).toNat = k + 1 := by omega
        have h01 : (0 : Int) ≤ (k : Int) + 1 := by omega
        have h17 : (k : Int) + 1 < 7 := by omega
        have hk7 : (k : Int) < 7 := by omega
        have HXS : Hid (arrC (swU e k) = ((arrC e).setIfInBounds k (.int .i64 (nth e (k + 1)))).setIfInBounds (k + 1) (.int .i64 (nth e k))) := Lib.hid (by
          rw [arrC_set e k (by omega) _ HE.out.1, arrC_set _ (k + 1) (by omega) _ (by simpa using HE.out.1)]; rfl)
        obtain ⟨x, hx⟩ : ∃ x, x = nth e k := ⟨_, rfl⟩
        obtain ⟨y, hy⟩ : ∃ y, y = nth e (k + 1) := ⟨_, rfl⟩
        rw [← hx] at hc0 HXS
        rw [← hy] at hc1 HXS
        have HX := Lib.hid hx
        have HY := Lib.hid hy
        clear hx hy hkr
        by_cases hxy : x < y
        · have HU : Hid (firstUp e = some k) := Lib.hid (firstUp_some hlt (by have := HX.out; have := HY.out; omega) HA.out)
          have hfin : ∀ (m : Nat) (wx : World), wx = ((wr.drewN m).setCell ⟨g, k, none⟩ (.int .i64 y)).setCell ⟨g, k + 1, none⟩ (.int .i64 x) → Blk wx g 79 (arrC (swU e k)) ∧ Below w.heap.size w wx := fun m wx hwx => by
            rw [hwx, HXS.out]
            exact ⟨((HKR.out.drewN m).set_ k _).set_ (k + 1) _, ((HBR.out.drawnN m).setCell (by rw [HG.out]; exact Nat.le_refl _) _).setCell (by rw [HG.out]; exact Nat.le_refl _) _⟩
          have HFIN := Lib.hid hfin
          have hsw := swU_cases HE.out hlt
          have HSE := Lib.hid hsw.1
          have HSC : Hid (∀ j, j < 7 → nth (swU e k) j ≤ d0) := Lib.hid (swU_cap HE.out HCP.out hlt)
          have HSM : Hid (mu7 (swU e k) < f ∧ mu7 (swU e k) + 1 ≤ mu7 e ∧ 0 ≤ mu7 (swU e k)) := Lib.hid (by
            have := HMU.out; have := HX.out; have := HY.out; have := hsw.2.1
            have := (swU_cases hsw.1 (k := 0) (by omega)).2.2.1
            omega)
          clear hfin hsw
          go_wp2_with fail
          go_quiet (fail)
          clear hwr
          have hwr : IntKind.i64.wrap ((k : Int) + 1) = (k : Int) + 1 := IntWalk.i64_in _ (by omega)
          go_wp2_with fail
          go_region
          obtain ⟨wx, hwx⟩ : ∃ wx, wx = ((wr.drewN (nq + 1)).setCell ⟨g, k, none⟩ (.int .i64 y)).setCell ⟨g, k + 1, none⟩ (.int .i64 x) := ⟨_, rfl⟩
          have HW := Lib.hid (HFIN.out _ wx hwx)
          rw [← hwx]
          clear hwx hc0 hc1 hf0 hf1
          go_wp2_with (first
            | (refine wpList_load_blk rfl 79 (.tmp 3) rfl g rfl 79 (arrC (swU e k)) 7 3 HW.out.1 Try.undExp Try.infoExp ?_)
            | (go_at_call 81; refine (HIH.out (swU e k) _ HSE.out HSC.out HSM.out.1 HD.out).mono ?_; rintro r w4 ⟨g4, b4, M4, rfl, hs4, hg4, hb4, hm4, hc4, hl4⟩
               have HS4 := Lib.hid hs4; have HM4 := Lib.hid hm4; have HC4 := Lib.hid hc4
               have HB4 : Hid (Below w.heap.size w w4) := Lib.hid (HW.out.2.trans (hl4.mono HW.out.2.size))
               clear hs4 hg4 hb4 hm4 hc4 hl4)
            | (go_at_call 59; refine (divided_any g4 b4 M4 k d0 _ HS4.out HC4.out hlt).mono ?_; rintro r w5 ⟨g5, b5, M5, rfl, hs5, hg5, hb5, hm5, hc5, hl5⟩
               have HS5 := Lib.hid hs5; have HM5 := Lib.hid hm5; have HC5 := Lib.hid hc5
               have HG5 : Hid (w.heap.size ≤ g5 ∧ w.heap.size ≤ b5) := Lib.hid ⟨Nat.le_trans HB4.out.size hg5, Nat.le_trans HB4.out.size hb5⟩
               have HB5 : Hid (Below w.heap.size w w5) := Lib.hid (HB4.out.trans (hl5.mono HB4.out.size))
               clear hs5 hg5 hb5 hm5 hc5 hl5)
            | go_in)
          go_ret
          refine ⟨g5, b5, M5, rfl, HS5.out, HG5.out.1, HG5.out.2, ?_, HC5.out, HB5.out⟩
          rw [dsc_some divL HE.out HU.out]
          exact HM5.out.trans (HM4.out.lin _)
        · have HN : Hid (¬ nth e k < nth e (k + 1)) := Lib.hid (by have := HX.out; have := HY.out; omega)
          go_wp2_with fail
          go_quiet (fail)
          clear hwr
          go_wp2_with fail
          go_roundw
          case rel => exact ⟨k + 1, by omega, by go_num, HDR.out.drewN _, fun j hj => by
            rcases Nat.lt_or_ge j k with h | h
            · have := HA.out j h; omega
            · obtain rfl : j = k := by omega
              have := HN.out; omega⟩
          case measure => simp [intOf]; omega
      · have hk6 : k = 6 := by omega
        subst hk6
        have HU : Hid (firstUp e = none) := Lib.hid (firstUp_none HA.out)
        clear hkr
        go_wp2_with (first
          | (refine wpList_load_blk rfl 79 (.tmp 3) rfl g rfl 79 (arrC e) 7 3 HKR.out Try.undExp Try.infoExp ?_)
          | (go_at_call 83; refine (monomialSum_any e d0 _ HE.out HCP.out).mono ?_; rintro r w4 ⟨g4, b4, M4, rfl, hs4, hg4, hb4, hm4, hc4, hl4⟩
             have HS4 := Lib.hid hs4; have HM4 := Lib.hid hm4; have HC4 := Lib.hid hc4
             have HG4 : Hid (w.heap.size ≤ g4 ∧ w.heap.size ≤ b4) := Lib.hid ⟨Nat.le_trans HBR.out.size hg4, Nat.le_trans HBR.out.size hb4⟩
             have HB4 : Hid (Below w.heap.size w w4) := Lib.hid (HBR.out.trans (hl4.mono HBR.out.size))
             clear hs4 hg4 hb4 hm4 hc4 hl4)
          | go_in)
        go_ret
        refine ⟨g4, b4, M4, rfl, HS4.out, HG4.out.1, HG4.out.2, ?_, HC4.out, HB4.out⟩
        rw [dsc_none divL HU.out]
        exact HM4.out

set_option maxRecDepth 100000 in
set_option maxHeartbeats 2000000 in
theorem descend_dem (d0 : Int) : ∀ (f : Nat) (e : List Int) (w : World), ex7 e → (∀ k, k < 7 → nth e k ≤ d0) → mu7 e < f → d0 + mu7 e ≤ 126 →
    Calls Try.prog 81 #[arr e, .func (.func 83) #[] #[], .func (.func 63) #[] #[]] w fun r w' => FreshS w w' r (d0 + mu7 e) (dscL demL e) := by
  intro f
  induction f with
  | zero => intro e w h _ hm _; exact absurd hm (by have := (swU_cases h (k := 0) (by omega)).2.2.1; omega)
  | succ f ih =>
    intro e w he hcp hm hd
    have HE := Lib.hid he
    have HCP := Lib.hid hcp
    have HMU := Lib.hid hm
    have HD := Lib.hid hd
    have HIH := Lib.hid ih
    have HM0 : Hid (0 ≤ mu7 e) := Lib.hid (swU_cases he (k := 0) (by omega)).2.2.1
    clear he hcp hm ih hd
    obtain ⟨w0, hw0⟩ : ∃ w0, w0 = w.alloc (.cells (arrC e) 79) := ⟨_, rfl⟩
    obtain ⟨g, hg⟩ : ∃ g, g = w.heap.size := ⟨_, rfl⟩
    have HB0 : Hid (Below w.heap.size w w0) := Lib.hid (by rw [hw0]; exact Below.alloc_self _ _)
    have HK0 : Hid (Blk w0 g 79 (arrC e)) := Lib.hid (by rw [hw0, hg]; exact Blk.new _ _ _)
    have HG := Lib.hid hg
    go_enter Try.func81, Try.ntmps81
    go_upto_region 1 with fail
    rw [← hw0, ← hg]
    clear hw0 hg
    go_wp2_with fail
    go_loopw [8] (fun i wr => ∃ k : Nat, k ≤ 6 ∧ i = .int .i64 k ∧ Drawn w0 wr ∧ ∀ j, j < k → ¬ nth e j < nth e (j + 1))
      (fun i _ => 6 - (intOf i).toNat)
    case atStart => exact ⟨0, Nat.zero_le _, rfl, Drawn.refl _, fun j hj => absurd hj (by omega)⟩
    case round =>
      obtain ⟨k, hk, rfl, hD, hall⟩ := hrel
      have HA := Lib.hid hall
      have HDR := Lib.hid hD
      have HKR := Lib.hid (HK0.out.drawn hD)
      have hkr := HK0.out.drawn hD
      have HBR : Hid (Below w.heap.size w wr) := Lib.hid (HB0.out.trans ((hD.below _).mono HB0.out.size))
      clear hall hD
      by_cases hlt : k < 6
      · have hlI : (k : Int) < 6 := by omega
        have hc0 : wr.cell? ⟨g, k, none⟩ = some (.int .i64 (nth e k)) := (hkr.cell k).trans (arrC_get e k (by omega))
        have hc1 : wr.cell? ⟨g, k + 1, none⟩ = some (.int .i64 (nth e (k + 1))) := (hkr.cell (k + 1)).trans (arrC_get e (k + 1) (by omega))
        have hf0 := hkr.frozen k
        have hf1 := hkr.frozen (k + 1)
        have hwr : IntKind.i64.wrap ((k : Int) + 1) = (k : Int) + 1 := IntWalk.i64_in _ (by omega)
        have hn1 : ((k : Int) + 1).toNat = k + 1 := by omega
        have h01 : (0 : Int) ≤ (k : Int) + 1 := by omega
        have h17 : (k : Int) + 1 < 7 := by omega
        have hk7 : (k : Int) < 7 := by omega
        have HXS : Hid (arrC (swU e k) = ((arrC e).setIfInBounds k (.int .i64 (nth e (k + 1)))).setIfInBounds (k + 1) (.int .i64 (nth e k))) := Lib.hid (by
          rw [arrC_set e k (by omega) _ HE.out.1, arrC_set _ (k + 1) (by omega) _ (by simpa using HE.out.1)]; rfl)
        obtain ⟨x, hx⟩ : ∃ x, x = nth e k := ⟨_, rfl⟩
        obtain ⟨y, hy⟩ : ∃ y, y = nth e (k + 1) := ⟨_, rfl⟩
        rw [← hx] at hc0 HXS
        rw [← hy] at hc1 HXS
        have HX := Lib.hid hx
        have HY := Lib.hid hy
        clear hx hy hkr
        by_cases hxy : x < y
        · have HU : Hid (firstUp e = some k) := Lib.hid (firstUp_some hlt (by have := HX.out; have := HY.out; omega) HA.out)
          have hfin : ∀ (m : Nat) (wx : World), wx = ((wr.drewN m).setCell ⟨g, k, none⟩ (.int .i64 y)).setCell ⟨g, k + 1, none⟩ (.int .i64 x) → Blk wx g 79 (arrC (swU e k)) ∧ Below w.heap.size w wx := fun m wx hwx => by
            rw [hwx, HXS.out]
            exact ⟨((HKR.out.drewN m).set_ k _).set_ (k + 1) _, ((HBR.out.drawnN m).setCell (by rw [HG.out]; exact Nat.le_refl _) _).setCell (by rw [HG.out]; exact Nat.le_refl _) _⟩
          have HFIN := Lib.hid hfin
          have hsw := swU_cases HE.out hlt
          have HSE := Lib.hid hsw.1
          have HSC : Hid (∀ j, j < 7 → nth (swU e k) j ≤ d0) := Lib.hid (swU_cap HE.out HCP.out hlt)
          have HSM : Hid (mu7 (swU e k) < f ∧ mu7 (swU e k) + 1 ≤ mu7 e ∧ 0 ≤ mu7 (swU e k)) := Lib.hid (by
            have := HMU.out; have := HX.out; have := HY.out; have := hsw.2.1
            have := (swU_cases hsw.1 (k := 0) (by omega)).2.2.1
            omega)
          clear hfin hsw
          go_wp2_with fail
          go_quiet (fail)
          clear hwr
          have hwr : IntKind.i64.wrap ((k : Int) + 1) = (k : Int) + 1 := IntWalk.i64_in _ (by omega)
          go_wp2_with fail
          go_region
          obtain ⟨wx, hwx⟩ : ∃ wx, wx = ((wr.drewN (nq + 1)).setCell ⟨g, k, none⟩ (.int .i64 y)).setCell ⟨g, k + 1, none⟩ (.int .i64 x) := ⟨_, rfl⟩
          have HW := Lib.hid (HFIN.out _ wx hwx)
          rw [← hwx]
          clear hwx hc0 hc1 hf0 hf1
          go_wp2_with (first
            | (refine wpList_load_blk rfl 79 (.tmp 3) rfl g rfl 79 (arrC (swU e k)) 7 3 HW.out.1 Try.undExp Try.infoExp ?_)
            | (go_at_call 81; refine (HIH.out (swU e k) _ HSE.out HSC.out HSM.out.1 (by have := HD.out; have := HSM.out; omega)).mono ?_; rintro r w4 ⟨g4, b4, M4, rfl, hs4, hg4, hb4, hm4, hc4, hl4⟩
               have HS4 := Lib.hid hs4; have HM4 := Lib.hid hm4; have HC4 := Lib.hid hc4
               have HB4 : Hid (Below w.heap.size w w4) := Lib.hid (HW.out.2.trans (hl4.mono HW.out.2.size))
               clear hs4 hg4 hb4 hm4 hc4 hl4)
            | (go_at_call 63; refine (demazure_any g4 b4 M4 k (d0 + mu7 (swU e k)) _ HS4.out HC4.out (by have := HD.out; have := HSM.out; omega) hlt).mono ?_; rintro r w5 ⟨g5, b5, M5, rfl, hs5, hg5, hb5, hm5, hc5, hl5⟩
               have HS5 := Lib.hid hs5; have HM5 := Lib.hid hm5; have HC5 := Lib.hid hc5
               have HG5 : Hid (w.heap.size ≤ g5 ∧ w.heap.size ≤ b5) := Lib.hid ⟨Nat.le_trans HB4.out.size hg5, Nat.le_trans HB4.out.size hb5⟩
               have HB5 : Hid (Below w.heap.size w w5) := Lib.hid (HB4.out.trans (hl5.mono HB4.out.size))
               clear hs5 hg5 hb5 hm5 hc5 hl5)
            | go_in)
          go_ret
          refine ⟨g5, b5, M5, rfl, HS5.out, HG5.out.1, HG5.out.2, ?_, HC5.out.mono (by have := HSM.out; omega), HB5.out⟩
          rw [dsc_some demL HE.out HU.out]
          exact HM5.out.trans (HM4.out.dem k)
        · have HN : Hid (¬ nth e k < nth e (k + 1)) := Lib.hid (by have := HX.out; have := HY.out; omega)
          go_wp2_with fail
          go_quiet (fail)
          clear hwr
          go_wp2_with fail
          go_roundw
          case rel => exact ⟨k + 1, by omega, by go_num, HDR.out.drewN _, fun j hj => by
            rcases Nat.lt_or_ge j k with h | h
            · have := HA.out j h; omega
            · obtain rfl : j = k := by omega
              have := HN.out; omega⟩
          case measure => simp [intOf]; omega
      · have hk6 : k = 6 := by omega
        subst hk6
        have HU : Hid (firstUp e = none) := Lib.hid (firstUp_none HA.out)
        clear hkr
        go_wp2_with (first
          | (refine wpList_load_blk rfl 79 (.tmp 3) rfl g rfl 79 (arrC e) 7 3 HKR.out Try.undExp Try.infoExp ?_)
          | (go_at_call 83; refine (monomialSum_any e d0 _ HE.out HCP.out).mono ?_; rintro r w4 ⟨g4, b4, M4, rfl, hs4, hg4, hb4, hm4, hc4, hl4⟩
             have HS4 := Lib.hid hs4; have HM4 := Lib.hid hm4; have HC4 := Lib.hid hc4
             have HG4 : Hid (w.heap.size ≤ g4 ∧ w.heap.size ≤ b4) := Lib.hid ⟨Nat.le_trans HBR.out.size hg4, Nat.le_trans HBR.out.size hb4⟩
             have HB4 : Hid (Below w.heap.size w w4) := Lib.hid (HBR.out.trans (hl4.mono HBR.out.size))
             clear hs4 hg4 hb4 hm4 hc4 hl4)
          | go_in)
        go_ret
        refine ⟨g4, b4, M4, rfl, HS4.out, HG4.out.1, HG4.out.2, ?_, HC4.out.mono (by have := HM0.out; omega), HB4.out⟩
        rw [dsc_none demL HU.out]
        exact HM4.out

set_option maxRecDepth 100000 in
set_option maxHeartbeats 2000000 in
theorem descend_iso (d0 : Int) : ∀ (f : Nat) (e : List Int) (w : World), ex7 e → (∀ k, k < 7 → nth e k ≤ d0) → mu7 e < f → d0 + mu7 e ≤ 126 →
    Calls Try.prog 81 #[arr e, .func (.func 83) #[] #[], .func (.func 67) #[] #[]] w fun r w' => FreshS w w' r (d0 + mu7 e) (dscL isoL e) := by
  intro f
  induction f with
  | zero => intro e w h _ hm _; exact absurd hm (by have := (swU_cases h (k := 0) (by omega)).2.2.1; omega)
  | succ f ih =>
    intro e w he hcp hm hd
    have HE := Lib.hid he
    have HCP := Lib.hid hcp
    have HMU := Lib.hid hm
    have HD := Lib.hid hd
    have HIH := Lib.hid ih
    have HM0 : Hid (0 ≤ mu7 e) := Lib.hid (swU_cases he (k := 0) (by omega)).2.2.1
    clear he hcp hm ih hd
    obtain ⟨w0, hw0⟩ : ∃ w0, w0 = w.alloc (.cells (arrC e) 79) := ⟨_, rfl⟩
    obtain ⟨g, hg⟩ : ∃ g, g = w.heap.size := ⟨_, rfl⟩
    have HB0 : Hid (Below w.heap.size w w0) := Lib.hid (by rw [hw0]; exact Below.alloc_self _ _)
    have HK0 : Hid (Blk w0 g 79 (arrC e)) := Lib.hid (by rw [hw0, hg]; exact Blk.new _ _ _)
    have HG := Lib.hid hg
    go_enter Try.func81, Try.ntmps81
    go_upto_region 1 with fail
    rw [← hw0, ← hg]
    clear hw0 hg
    go_wp2_with fail
    go_loopw [8] (fun i wr => ∃ k : Nat, k ≤ 6 ∧ i = .int .i64 k ∧ Drawn w0 wr ∧ ∀ j, j < k → ¬ nth e j < nth e (j + 1))
      (fun i _ => 6 - (intOf i).toNat)
    case atStart => exact ⟨0, Nat.zero_le _, rfl, Drawn.refl _, fun j hj => absurd hj (by omega)⟩
    case round =>
      obtain ⟨k, hk, rfl, hD, hall⟩ := hrel
      have HA := Lib.hid hall
      have HDR := Lib.hid hD
      have HKR := Lib.hid (HK0.out.drawn hD)
      have hkr := HK0.out.drawn hD
      have HBR : Hid (Below w.heap.size w wr) := Lib.hid (HB0.out.trans ((hD.below _).mono HB0.out.size))
      clear hall hD
      by_cases hlt : k < 6
      · have hlI : (k : Int) < 6 := by omega
        have hc0 : wr.cell? ⟨g, k, none⟩ = some (.int .i64 (nth e k)) := (hkr.cell k).trans (arrC_get e k (by omega))
        have hc1 : wr.cell? ⟨g, k + 1, none⟩ = some (.int .i64 (nth e (k + 1))) := (hkr.cell (k + 1)).trans (arrC_get e (k + 1) (by omega))
        have hf0 := hkr.frozen k
        have hf1 := hkr.frozen (k + 1)
        have hwr : IntKind.i64.wrap ((k : Int) + 1) = (k : Int) + 1 := IntWalk.i64_in _ (by omega)
        have hn1 : ((k : Int) + 1).toNat = k + 1 := by omega
        have h01 : (0 : Int) ≤ (k : Int) + 1 := by omega
        have h17 : (k : Int) + 1 < 7 := by omega
        have hk7 : (k : Int) < 7 := by omega
        have HXS : Hid (arrC (swU e k) = ((arrC e).setIfInBounds k (.int .i64 (nth e (k + 1)))).setIfInBounds (k + 1) (.int .i64 (nth e k))) := Lib.hid (by
          rw [arrC_set e k (by omega) _ HE.out.1, arrC_set _ (k + 1) (by omega) _ (by simpa using HE.out.1)]; rfl)
        obtain ⟨x, hx⟩ : ∃ x, x = nth e k := ⟨_, rfl⟩
        obtain ⟨y, hy⟩ : ∃ y, y = nth e (k + 1) := ⟨_, rfl⟩
        rw [← hx] at hc0 HXS
        rw [← hy] at hc1 HXS
        have HX := Lib.hid hx
        have HY := Lib.hid hy
        clear hx hy hkr
        by_cases hxy : x < y
        · have HU : Hid (firstUp e = some k) := Lib.hid (firstUp_some hlt (by have := HX.out; have := HY.out; omega) HA.out)
          have hfin : ∀ (m : Nat) (wx : World), wx = ((wr.drewN m).setCell ⟨g, k, none⟩ (.int .i64 y)).setCell ⟨g, k + 1, none⟩ (.int .i64 x) → Blk wx g 79 (arrC (swU e k)) ∧ Below w.heap.size w wx := fun m wx hwx => by
            rw [hwx, HXS.out]
            exact ⟨((HKR.out.drewN m).set_ k _).set_ (k + 1) _, ((HBR.out.drawnN m).setCell (by rw [HG.out]; exact Nat.le_refl _) _).setCell (by rw [HG.out]; exact Nat.le_refl _) _⟩
          have HFIN := Lib.hid hfin
          have hsw := swU_cases HE.out hlt
          have HSE := Lib.hid hsw.1
          have HSC : Hid (∀ j, j < 7 → nth (swU e k) j ≤ d0) := Lib.hid (swU_cap HE.out HCP.out hlt)
          have HSM : Hid (mu7 (swU e k) < f ∧ mu7 (swU e k) + 1 ≤ mu7 e ∧ 0 ≤ mu7 (swU e k)) := Lib.hid (by
            have := HMU.out; have := HX.out; have := HY.out; have := hsw.2.1
            have := (swU_cases hsw.1 (k := 0) (by omega)).2.2.1
            omega)
          clear hfin hsw
          go_wp2_with fail
          go_quiet (fail)
          clear hwr
          have hwr : IntKind.i64.wrap ((k : Int) + 1) = (k : Int) + 1 := IntWalk.i64_in _ (by omega)
          go_wp2_with fail
          go_region
          obtain ⟨wx, hwx⟩ : ∃ wx, wx = ((wr.drewN (nq + 1)).setCell ⟨g, k, none⟩ (.int .i64 y)).setCell ⟨g, k + 1, none⟩ (.int .i64 x) := ⟨_, rfl⟩
          have HW := Lib.hid (HFIN.out _ wx hwx)
          rw [← hwx]
          clear hwx hc0 hc1 hf0 hf1
          go_wp2_with (first
            | (refine wpList_load_blk rfl 79 (.tmp 3) rfl g rfl 79 (arrC (swU e k)) 7 3 HW.out.1 Try.undExp Try.infoExp ?_)
            | (go_at_call 81; refine (HIH.out (swU e k) _ HSE.out HSC.out HSM.out.1 (by have := HD.out; have := HSM.out; omega)).mono ?_; rintro r w4 ⟨g4, b4, M4, rfl, hs4, hg4, hb4, hm4, hc4, hl4⟩
               have HS4 := Lib.hid hs4; have HM4 := Lib.hid hm4; have HC4 := Lib.hid hc4
               have HB4 : Hid (Below w.heap.size w w4) := Lib.hid (HW.out.2.trans (hl4.mono HW.out.2.size))
               clear hs4 hg4 hb4 hm4 hc4 hl4)
            | (go_at_call 67; refine (isobaric_any g4 b4 M4 k (d0 + mu7 (swU e k)) _ HS4.out HC4.out (by have := HD.out; have := HSM.out; omega) hlt).mono ?_; rintro r w5 ⟨g5, b5, M5, rfl, hs5, hg5, hb5, hm5, hc5, hl5⟩
               have HS5 := Lib.hid hs5; have HM5 := Lib.hid hm5; have HC5 := Lib.hid hc5
               have HG5 : Hid (w.heap.size ≤ g5 ∧ w.heap.size ≤ b5) := Lib.hid ⟨Nat.le_trans HB4.out.size hg5, Nat.le_trans HB4.out.size hb5⟩
               have HB5 : Hid (Below w.heap.size w w5) := Lib.hid (HB4.out.trans (hl5.mono HB4.out.size))
               clear hs5 hg5 hb5 hm5 hc5 hl5)
            | go_in)
          go_ret
          refine ⟨g5, b5, M5, rfl, HS5.out, HG5.out.1, HG5.out.2, ?_, HC5.out.mono (by have := HSM.out; omega), HB5.out⟩
          rw [dsc_some isoL HE.out HU.out]
          exact HM5.out.trans (sameC.isoL k HM4.out)
        · have HN : Hid (¬ nth e k < nth e (k + 1)) := Lib.hid (by have := HX.out; have := HY.out; omega)
          go_wp2_with fail
          go_quiet (fail)
          clear hwr
          go_wp2_with fail
          go_roundw
          case rel => exact ⟨k + 1, by omega, by go_num, HDR.out.drewN _, fun j hj => by
            rcases Nat.lt_or_ge j k with h | h
            · have := HA.out j h; omega
            · obtain rfl : j = k := by omega
              have := HN.out; omega⟩
          case measure => simp [intOf]; omega
      · have hk6 : k = 6 := by omega
        subst hk6
        have HU : Hid (firstUp e = none) := Lib.hid (firstUp_none HA.out)
        clear hkr
        go_wp2_with (first
          | (refine wpList_load_blk rfl 79 (.tmp 3) rfl g rfl 79 (arrC e) 7 3 HKR.out Try.undExp Try.infoExp ?_)
          | (go_at_call 83; refine (monomialSum_any e d0 _ HE.out HCP.out).mono ?_; rintro r w4 ⟨g4, b4, M4, rfl, hs4, hg4, hb4, hm4, hc4, hl4⟩
             have HS4 := Lib.hid hs4; have HM4 := Lib.hid hm4; have HC4 := Lib.hid hc4
             have HG4 : Hid (w.heap.size ≤ g4 ∧ w.heap.size ≤ b4) := Lib.hid ⟨Nat.le_trans HBR.out.size hg4, Nat.le_trans HBR.out.size hb4⟩
             have HB4 : Hid (Below w.heap.size w w4) := Lib.hid (HBR.out.trans (hl4.mono HBR.out.size))
             clear hs4 hg4 hb4 hm4 hc4 hl4)
          | go_in)
        go_ret
        refine ⟨g4, b4, M4, rfl, HS4.out, HG4.out.1, HG4.out.2, ?_, HC4.out.mono (by have := HM0.out; omega), HB4.out⟩
        rw [dsc_none isoL HU.out]
        exact HM4.out
end Go.Proofs.Ytmndchhbafkbeaa

/-
  Contracts of the program's EmbedPerm, TrimPerm, RankAt. Conditions: lengths below 2^40.
-/


namespace Go.Proofs.Ytmndchhbafkbeaa
open Go.RowKit

theorem trimN_fill {xs : List Int} (h7 : xs.length ≤ 7) : ∀ k, k ≤ xs.length → trimN (fillA xs xs.length) k = trimN xs k := by
  intro k
  induction k with
  | zero => intro _; rfl
  | succ k ih => intro hk; unfold trimN; rw [ih (by omega), fillA_lt (by omega) (by omega)]

set_option maxHeartbeats 1000000 in
theorem implTrim_any (A : Option Addr) (n c : Nat) (xs : List Int) (w : World) (hs : SI w A n xs) (hn : n ≤ 1099511627776) :
    Calls Try.prog 119 #[.slice A n c] w fun e w' => Fresh w w' e (trimPerm xs) := by
  have hl := hs.1
  cases hu : isPermB xs with
  | false =>
    have HE := Lib.hid (trimPerm_no hu)
    have HU := Lib.hid hu
    clear hu
    go_enter Try.func119, Try.ntmps119
    go_wp2_with fail
    refine (arrayOf_x c HU.out hs hn).mono ?_
    rintro e w1 ⟨l, rfl, -, hb1⟩
    go_wp2
    go_ret
    rw [HE.out]
    exact Fresh.nil_ret (hb1.alloc hb1.size _)
  | true =>
    have HE := Lib.hid (trimPerm_yes hu)
    have HU := Lib.hid hu
    have HL := Lib.hid hl
    have hpos : 1 ≤ n := by have := (isPermB_P hu).1; omega
    have h7 : n ≤ 7 := by have := (isPermB_P hu).2.1; omega
    clear hu hl
    go_enter Try.func119, Try.ntmps119
    go_wp2_with fail
    refine (arrayOf_x c HU.out hs hn).mono ?_
    rintro e w1 ⟨l, rfl, hlf, hb1⟩
    have HF := Lib.hid (hlf rfl)
    clear hlf
    have hK := Blk.new w1 113 (arrC l)
    have hb2 : Below w.heap.size w (w1.alloc (.cells (arrC l) 113)) := hb1.alloc hb1.size _
    go_wp2
    obtain ⟨g, hg⟩ : ∃ g, g = w1.heap.size := ⟨_, rfl⟩
    rw [← hg] at hK ⊢
    generalize w1.alloc (.cells (arrC l) 113) = w2 at *
    clear hg
    have HK := Lib.hid hK
    clear hK
    go_loop [5] (fun v => ∃ k : Nat, k + 1 ≤ n ∧ v = .int .i64 ((k : Int) + 1) ∧ trimN l (k + 1) = trimN l n)
      (fun v => (intOf v).toNat)
    case atStart => exact ⟨n - 1, by omega, by go_num, by rw [show n - 1 + 1 = n from by omega]⟩
    case round =>
      obtain ⟨k, hk, rfl, htr⟩ := hrel
      have HT := Lib.hid htr
      have hck : w2.cell? ⟨g, k, none⟩ = some (.int .i64 (nth l k)) := (HK.out.cell _).trans (arrC_get l k (by omega))
      obtain ⟨x, hx⟩ : ∃ x, x = nth l k := ⟨_, rfl⟩
      rw [← hx] at hck
      have HX := Lib.hid hx
      clear htr hx
      have stop : ∀ (w4 : World) (e : Ending), trimN l (k + 1) = k + 1 → Fresh w2 w4 e (l.take (k + 1)) → Fresh w w4 e (trimPerm xs) := by
        intro w4 e h1 h2
        have e2 := HT.out
        have e1 := HF.out
        have e3 := HL.out
        have e4 := trimN_fill (xs := xs) (by omega) n (by omega)
        rw [e3, ← e1, ← e2, h1] at e4
        rw [HE.out, e3, ← e4]
        have e5 := fill_take_short (xs := xs) (k := k + 1) (by omega) (by omega)
        rw [e3, ← e1] at e5
        rw [← e5]
        exact Fresh.after hb2 h2
      have STOP := Lib.hid stop
      clear stop
      by_cases h0 : 0 < k
      · by_cases hxk : x = (k : Int)
        · subst hxk
          go_wp2
          go_round
          case rel =>
            have e1 := HX.out
            have e2 := HT.out
            rw [trimN_hit h0 e1.symm] at e2
            exact ⟨k - 1, by omega, by go_num, by rw [show k - 1 + 1 = k from by omega]; exact e2⟩
          case measure => simp only [intOf]; omega
        · have hxb : (x == (k : Int)) = false := by simpa using hxk
          have HX2 := Lib.hid hxk
          clear hxk
          have hsl : Calls Try.prog 136 #[arr l, .int .i64 ((k : Int) + 1)] w2 (fun e w' => Fresh w2 w' e (l.take (k + 1))) := list_any l (k + 1) w2 (by rw [HF.out, fillA_len]) (by omega)
          go_wp2_with (refine wpList_load_blk rfl 113 (.tmp 3) rfl g rfl 113 (arrC l) 7 3 HK.out Try.undArr Try.infoArr ?_)
          refine hsl.mono ?_
          intro e w4 hfr
          obtain ⟨A4, n4, c4, rfl, ho4, hb4⟩ := hfr
          go_wp2
          go_ret
          exact STOP.out _ _ (trimN_miss (by have := HX.out; have := HX2.out; rintro ⟨_, h⟩; omega)) ⟨A4, n4, c4, rfl, ho4, hb4⟩
      · have hk0 : k = 0 := by omega
        subst hk0
        have hsl : Calls Try.prog 136 #[arr l, .int .i64 1] w2 (fun e w' => Fresh w2 w' e (l.take 1)) := list_any l 1 w2 (by rw [HF.out, fillA_len]) (by omega)
        go_wp2_with (refine wpList_load_blk rfl 113 (.tmp 3) rfl g rfl 113 (arrC l) 7 3 HK.out Try.undArr Try.infoArr ?_)
        refine hsl.mono ?_
        intro e w4 hfr
        obtain ⟨A4, n4, c4, rfl, ho4, hb4⟩ := hfr
        go_wp2
        go_ret
        exact STOP.out _ _ (trimN_miss (by rintro ⟨h, _⟩; omega)) ⟨A4, n4, c4, rfl, ho4, hb4⟩

end Go.Proofs.Ytmndchhbafkbeaa

/-
  The library's sort: the worlds that it passes through, in the words of slices that a call owns. Plain lemmas. No conditions.
-/



namespace Go.Proofs.Ytmndchhbafkbeaa
open Go.RowKit

theorem ix_lt {n : Nat} (h : 0 < n) (i : Nat) : (if i < n then i else 0) < n := by split <;> omega
/-- A number as a place among the first n. -/
def ix (n i : Nat) : Nat := if i < n then i else 0
theorem ix_of {n i : Nat} (h : i < n) : ix n i = i := if_pos h
theorem ix_in {n : Nat} (h : 0 < n) (i : Nat) : ix n i < n := ix_lt h i

theorem sortWorld_block (enc : Nat → List Value) (size : Nat) (w : World) (g m : Nat) (dk : Array Nat) (os : Array Obj) {cur : Array Value} {e : TypeId} {fr : Nat × Nat} (h : w.heap[g]? = some (.cells cur e fr)) :
    (sortWorldK enc size w g 0 m dk os).heap[g]? = some (.cells (Go.Sort.putCells id 0 (Go.Sort.flatK enc size dk) cur) e fr) := by
  have hlt : g < w.heap.size := by
    rcases Nat.lt_or_ge g w.heap.size with h1 | h1
    · exact h1
    · rw [Array.getElem?_eq_none h1] at h; cases h
  unfold sortWorldK
  rw [Go.Sort.heap_grow_old _ _ (by rw [show (Go.Sort.putRowK enc size (Go.Sort.ahead w m) g 0 dk).heap.size = w.heap.size by simp [Go.Sort.putRowK, Go.Sort.ahead]]; exact hlt)]
  simp [Go.Sort.putRowK, Go.Sort.putRow, Go.Sort.mapBlock, Go.Sort.ahead, Array.getElem?_modify, h, Go.Sort.onCells]
theorem sortWorld_grown (enc : Nat → List Value) (size : Nat) (w : World) (g m : Nat) (dk : Array Nat) (os : Array Obj) : w.grownBy (sortWorldK enc size w g 0 m dk os) (some g) := by
  refine ⟨rfl, rfl, rfl, by simp [sortWorldK, Go.Sort.putRowK, Go.Sort.ahead], fun k hk hne => ?_⟩
  unfold sortWorldK
  rw [Go.Sort.heap_grow_old _ _ (by rw [show (Go.Sort.putRowK enc size (Go.Sort.ahead w m) g 0 dk).heap.size = w.heap.size by simp [Go.Sort.putRowK, Go.Sort.ahead]]; exact hk)]
  have hgk : g ≠ k := fun e => hne (by rw [e])
  simp [Go.Sort.putRowK, Go.Sort.putRow, Go.Sort.mapBlock, Go.Sort.ahead, Array.getElem?_modify, hgk]
/-- The row that the sort leaves is owned as the one that came. -/
theorem sortWorld_owns {w : World} {base size n c g : Nat} {e : TypeId} {xs : List Value} {enc : Nat → List Value} (h : w.ownsRow base e size (.slice (some ⟨g, 0, none⟩) n c) n xs) (m : Nat) (dk : Array Nat) (os : Array Obj) (hd : dk.size = n) :
    (sortWorldK enc size w g 0 m dk os).ownsRow base e size (.slice (some ⟨g, 0, none⟩) n c) n (Go.Sort.flatK enc size dk).toList := by
  obtain ⟨_, h2⟩ := h
  rcases h2 with ⟨hx, _⟩ | ⟨g', cap, cur, hv, hlo, hg, hnc, hcm, hcs, htake⟩
  · cases hx
  · simp only [Value.slice.injEq, Option.some.injEq, Addr.mk.injEq, and_true, true_and] at hv
    obtain ⟨rfl, rfl⟩ := hv
    refine ⟨by simp [hd], .inr ⟨g, c, _, rfl, hlo, sortWorld_block enc size w g m dk os hg, hnc, hcm, by simp [Go.Sort.putCells, hcs], ?_⟩⟩
    apply List.ext_getElem?
    intro j
    have hle : n * size ≤ cur.size := by rw [hcs]; exact Nat.mul_le_mul_right _ hnc
    by_cases hj : j < n * size
    · rw [List.getElem?_take_of_lt hj]
      simp only [Array.getElem?_toList, Go.Sort.putCells, Array.getElem?_mapIdx]
      rw [Array.getElem?_eq_getElem (show j < cur.size by omega), Option.map_some, if_pos ⟨Nat.zero_le _, by simp [hd]; omega⟩, Array.getElem?_eq_getElem (show j < (Go.Sort.flatK enc size dk).size by simp [hd]; omega), Nat.sub_zero, getElem!_pos (Go.Sort.flatK enc size dk) j (by simp [hd]; omega)]
      rfl
    · rw [List.getElem?_eq_none (by simp; omega), List.getElem?_eq_none (by simp [hd]; omega)]
/-- What an owned row holds, in the sort's words. -/
theorem holds_of_owns {w : World} {base size n c g : Nat} {e : TypeId} {xs : List Value} {enc : Nat → List Value} (h : w.ownsRow base e size (.slice (some ⟨g, 0, none⟩) n c) n xs) (d : Array Nat) (hx : xs = (Go.Sort.flatK enc size d).toList) : Go.Sort.HoldsK enc size w g 0 d := by
  intro j hj
  subst hx
  refine ⟨?_, h.frozenAt _⟩
  have hl := h.1
  simp at hl
  rw [Nat.zero_add, h.cellAt j (by rw [← hl]; simpa using hj)]
  simp only [Array.getElem?_toList]
  rw [Array.getElem?_eq_getElem hj, getElem!_pos (Go.Sort.flatK enc size d) j hj]
  rfl
/-- What was sorted, as lists: the places of the numbers in their new order. -/
theorem sorted_lists {n : Nat} {lt : Nat → Nat → Bool} {dk : Array Nat} (hp : Go.Sort.PermIn 0 (Array.range n).size (Array.range n) dk) (hs : Go.Sort.SortedIn lt 0 (Array.range n).size dk) :
    dk.size = n ∧ dk.toList.Perm (List.range n) ∧ dk.toList.Pairwise (fun i j => lt j i = false) := by
  obtain ⟨h1, _, h3⟩ := hp
  have hsz : dk.size = n := by simpa using h1
  refine ⟨hsz, ?_, ?_⟩
  · have e1 : dk.extract 0 (Array.range n).size = dk := by
      rw [Array.size_range, ← hsz]; simp
    have e2 : (Array.range n).extract 0 (Array.range n).size = Array.range n := by simp
    rw [e1, e2] at h3
    simpa using h3
  · rw [List.pairwise_iff_getElem]
    intro i j hi hj hij
    simp at hi hj
    have := hs i j (Nat.zero_le _) hij (by rw [Array.size_range]; omega)
    rw [getElem!_pos dk i (by omega), getElem!_pos dk j (by omega)] at this
    simpa using this
end Go.Proofs.Ytmndchhbafkbeaa

/-
  slices.SortFunc over terms by their exponents: a permutation in descending order, in the slice's own blocks. Conditions: seven exponents a term.
-/




namespace Go.Proofs.Ytmndchhbafkbeaa
open Go.RowKit

theorem cmpI_neg (a b : Int) : cmpI a b < 0 ↔ a < b := by unfold cmpI; split <;> (try split) <;> omega
theorem cmpI_pos (a b : Int) : 0 ≤ cmpI a b ↔ b ≤ a := by unfold cmpI; split <;> (try split) <;> omega
theorem cmpX_self (xs : List Int) : ∀ m, cmpX xs xs m = 0
  | 0 => rfl
  | m + 1 => (cmpX_eq rfl).trans (cmpX_self xs m)
theorem cmpX_trans {x y z : List Int} : ∀ m, cmpX x y m < 0 → cmpX y z m < 0 → cmpX x z m < 0
  | 0, h, _ => absurd h (by simp [cmpX])
  | m + 1, h1, h2 => by
    by_cases e1 : nth x m = nth y m
    · rw [cmpX_eq e1] at h1
      by_cases e2 : nth y m = nth z m
      · rw [cmpX_eq e2] at h2
        rw [cmpX_eq (e1.trans e2)]
        exact cmpX_trans m h1 h2
      · rw [cmpX_ne e2] at h2
        rw [cmpX_ne (by rw [e1]; exact e2), e1]
        exact h2
    · rw [cmpX_ne e1, cmpI_neg] at h1
      by_cases e2 : nth y m = nth z m
      · rw [cmpX_ne (by rw [← e2]; exact e1), ← e2, cmpI_neg]
        exact h1
      · rw [cmpX_ne e2, cmpI_neg] at h2
        rw [cmpX_ne (by omega), cmpI_neg]
        omega
theorem cmpX_ntrans {x y z : List Int} : ∀ m, 0 ≤ cmpX x y m → 0 ≤ cmpX y z m → 0 ≤ cmpX x z m
  | 0, _, _ => by simp [cmpX]
  | m + 1, h1, h2 => by
    by_cases e1 : nth x m = nth y m
    · rw [cmpX_eq e1] at h1
      by_cases e2 : nth y m = nth z m
      · rw [cmpX_eq e2] at h2
        rw [cmpX_eq (e1.trans e2)]
        exact cmpX_ntrans m h1 h2
      · rw [cmpX_ne e2] at h2
        rw [cmpX_ne (by rw [e1]; exact e2), e1]
        exact h2
    · rw [cmpX_ne e1, cmpI_pos] at h1
      by_cases e2 : nth y m = nth z m
      · rw [cmpX_ne (by rw [← e2]; exact e1), ← e2, cmpI_pos]
        exact h1
      · rw [cmpX_ne e2, cmpI_pos] at h2
        rw [cmpX_ne (by omega), cmpI_pos]
        omega
theorem swo_cmpX (f : Nat → List Int) : Go.Sort.SWO (ltOf fun i j : Nat => cmpX (f i) (f j) 7) where
  irrefl i := by
    show decide (cmpX (f i) (f i) 7 < 0) = false
    rw [cmpX_self]; rfl
  trans i j k h1 h2 := by
    have h1 : cmpX (f i) (f j) 7 < 0 := of_decide_eq_true h1
    have h2 : cmpX (f j) (f k) 7 < 0 := of_decide_eq_true h2
    exact decide_eq_true (cmpX_trans 7 h1 h2)
  ntrans i j k h1 h2 := by
    have h1 : ¬ cmpX (f i) (f j) 7 < 0 := of_decide_eq_false h1
    have h2 : ¬ cmpX (f j) (f k) 7 < 0 := of_decide_eq_false h2
    have := cmpX_ntrans 7 (Int.not_lt.1 h1) (Int.not_lt.1 h2)
    exact decide_eq_false (show ¬ cmpX (f i) (f k) 7 < 0 by omega)
theorem flat2 (dk : Array Nat) (enc : Nat → List Value) (f : Nat → Value × Value) (henc : ∀ k, k < dk.size → enc dk[k]! = [(f k).1, (f k).2]) : (Go.Sort.flatK enc 2 dk).toList = cells2 dk.size f := by
  apply List.ext_getElem?
  intro j
  by_cases hj : j < dk.size * 2
  · rw [cells2_get f hj, Array.getElem?_toList, Array.getElem?_eq_getElem (by simpa using hj), ← getElem!_pos (Go.Sort.flatK enc 2 dk) j (by simpa using hj), Go.Sort.get_flatK enc 2 dk j hj, henc (j / 2) (by omega)]
    rcases Nat.mod_two_eq_zero_or_one j with e | e <;> rw [e] <;> simp
  · rw [List.getElem?_eq_none (by simp; omega), List.getElem?_eq_none (by simp [cells2_len]; omega)]
theorem Try.isAggTerm (w : World) : (isAgg 60).run Try.prog w = .ok true w := by kernel_rfl
theorem Try.sizeTerm (w : World) : (sizeOf 60).run Try.prog w = .ok 2 w := by kernel_rfl

set_option maxHeartbeats 1000000 in
/-- At least one term. -/
theorem sortTerms_own (g n c lo hi : Nat) (ts : List Tm) (w : World) (h : OwnT w lo hi (some ⟨g, 0, none⟩) n c ts) (h0 : 0 < n) (hn : n ≤ 1099511627776) (h7 : ∀ k, k < n → (tm ts k).1.length = 7) :
    Calls Try.prog 102 #[.slice (some ⟨g, 0, none⟩) n c, .func (.func 103) #[] #[]] w fun e w' => e = .returned (.tuple #[]) ∧
      ∃ us : List Tm, us.Perm ts ∧ us.Pairwise (fun a b => 0 ≤ cmpX b.1 a.1 7) ∧ OwnT w' lo hi (some ⟨g, 0, none⟩) n c us ∧ w.grownBy w' (some g) := by
  obtain ⟨E, hl, ho, hh, he, hne, hdd⟩ := h
  have hg : g < w.heap.size := (ho.lt g rfl).2
  have hE : ∀ k, k < n → (E k).2.1 = 7 := fun k hk => by rw [← (he k hk).len]; exact h7 k hk
  obtain ⟨enc, henc⟩ : ∃ enc : Nat → List Value, enc = fun i => [sv (E (ix n i)), .int .i64 (tm ts (ix n i)).2] := ⟨_, rfl⟩
  have hk : ∀ x, (enc x).length = 2 := fun x => by rw [henc]; rfl
  have h1 : ∀ x, ∀ v ∈ enc x, v.oneCell' = true := fun x v hv => by
    rw [henc] at hv
    simp at hv
    rcases hv with rfl | rfl <;> rfl
  have hcells : cells2 n (fun k => (sv (E k), .int .i64 (tm ts k).2)) = (Go.Sort.flatK enc 2 (Array.range n)).toList := by
    rw [flat2 (Array.range n) enc (fun k => (sv (E k), .int .i64 (tm ts k).2)) (fun k hk => by
      rw [Array.size_range] at hk
      rw [getElem!_pos _ k (by simpa using hk), henc]
      simp [ix_of hk]), Array.size_range]
  have hH := holds_of_owns (enc := enc) ho (Array.range n) hcells
  have hcmp : CmpLays Try.prog 103 #[] enc 2 (fun i j => cmpX (tm ts (ix n i)).1 (tm ts (ix n j)).1 7) g 0 (Array.range n).size w := fun m os dk hd x y => by
    have gg := sortWorld_grown enc 2 w g m dk os
    have own : ∀ k, k < n → Own (sortWorldK enc 2 w g 0 m dk os) lo hi (E k).1 (E k).2.1 (E k).2.2 (tm ts k).1 := fun k hk => (he k hk).kept gg (fun b hb e2 => hne k b hk hb e2)
    have s1 := (own _ (ix_in h0 x)).si
    have s2 := (own _ (ix_in h0 y)).si
    rw [hE _ (ix_in h0 x)] at s1
    rw [hE _ (ix_in h0 y)] at s2
    have hc := compareTermsX_any (E (ix n x)).1 (E (ix n y)).1 (E (ix n x)).2.2 (E (ix n y)).2.2 _ _ (tm ts (ix n x)).2 (tm ts (ix n y)).2 _ s1 s2
    have e1 : (enc x).toArray = #[.slice (E (ix n x)).1 7 (E (ix n x)).2.2, .int .i64 (tm ts (ix n x)).2] := by rw [henc]; simp [sv, hE _ (ix_in h0 x)]
    have e2 : (enc y).toArray = #[.slice (E (ix n y)).1 7 (E (ix n y)).2.2, .int .i64 (tm ts (ix n y)).2] := by rw [henc]; simp [sv, hE _ (ix_in h0 y)]
    rw [e1, e2]
    exact hc
  have eg : ∀ args w, (callFunc 103 args).run Try.prog w = .ok (.enter 103 args) w := enters_of Try.func103 (by kernel_rfl) rfl
  have hcon := AnyQ.slices_SortFunc Try.sortT 2 Try.isAggTerm Try.sizeTerm enc hk h1 (fun i j => cmpX (tm ts (ix n i)).1 (tm ts (ix n j)).1 7) (swo_cmpX fun i => (tm ts (ix n i)).1) 103 #[] g 0 c (Array.range n) w eg hcmp hH hg (by rw [Array.size_range]; omega)
  change Calls Try.prog 102 _ _ _ at hcon
  rw [Array.size_range] at hcon
  refine hcon.mono ?_
  rintro e w' ⟨rfl, dk, m, os, hp, hs, rfl⟩
  obtain ⟨hsz, hperm, hsort⟩ := sorted_lists (by rw [Array.size_range]; exact hp) (by rw [Array.size_range]; exact hs)
  have gg := sortWorld_grown enc 2 w g m dk os
  have hin : ∀ k, k < n → dk[k]! < n := fun k hk => by
    have : dk[k]! ∈ dk.toList := by
      rw [getElem!_pos dk k (by omega)]
      exact Array.getElem_mem_toList _
    have := hperm.mem_iff.1 this
    simpa using this
  have hinj : ∀ i j, i < j → j < n → dk[i]! ≠ dk[j]! := fun i j hij hj e => by
    have hnd : dk.toList.Nodup := hperm.nodup_iff.2 List.nodup_range
    rw [getElem!_pos dk i (by omega), getElem!_pos dk j (by omega)] at e
    have := (List.nodup_iff_pairwise_ne.1 hnd)
    rw [List.pairwise_iff_getElem] at this
    exact this i j (by simp; omega) (by simp; omega) hij (by simpa using e)
  obtain ⟨us, hus⟩ : ∃ us, us = dk.toList.map (tm ts) := ⟨_, rfl⟩
  have hul : us.length = n := by rw [hus]; simp [hsz]
  have htm : ∀ k, k < n → tm us k = tm ts dk[k]! := fun k hk => by
    rw [hus, getElem!_pos dk k (by omega)]
    unfold tm
    simp [List.getD, show k < dk.size by omega]
  refine ⟨rfl, us, ?_, ?_, ?_, gg⟩
  · have e1 : ts = (List.range n).map (tm ts) := by
      apply List.ext_getElem (by simp [hl])
      intro k hk1 hk2
      simp [tm, List.getD, hk1]
    rw [hus]
    have := hperm.map (tm ts)
    rwa [← e1] at this
  · rw [hus, List.pairwise_map]
    refine hsort.imp_of_mem ?_
    intro i j hi hj hlt
    have hi := hperm.mem_iff.1 hi
    have hj := hperm.mem_iff.1 hj
    simp at hi hj
    have hlt : ¬ cmpX (tm ts (ix n j)).1 (tm ts (ix n i)).1 7 < 0 := of_decide_eq_false hlt
    rw [ix_of hi, ix_of hj] at hlt
    omega
  · refine ⟨fun k => E dk[k]!, hul, ?_, hh, fun j hj => ?_, fun j b hj hb => hne _ b (hin j hj) hb, fun i j b hij hj hb e2 => ?_⟩
    · have o2 := sortWorld_owns (enc := enc) ho m dk os hsz
      refine row_eq o2 ?_
      rw [flat2 dk enc (fun k => (sv (E dk[k]!), .int .i64 (tm us k).2)) (fun k hk => by
        rw [henc]
        simp only [ix_of (hin k (by omega))]
        rw [htm k (by omega)]), hsz]
    · rw [htm j hj]
      exact (he _ (hin j hj)).kept gg (fun b hb e2 => hne _ b (hin j hj) hb e2)
    · have hd := hinj i j hij hj
      rcases Nat.lt_or_ge dk[i]! dk[j]! with hlt | hge
      · exact hdd _ _ b hlt (hin j hj) hb e2
      · exact hdd _ _ b (by omega) (hin i (by omega)) e2 hb
end Go.Proofs.Ytmndchhbafkbeaa

/-
  A term cloned, by the program. Conditions: lengths below 2^40.
-/



namespace Go.Proofs.Ytmndchhbafkbeaa
open Go.RowKit

set_option maxRecDepth 100000 in
set_option maxHeartbeats 800000 in
theorem termClone_any (A : Option Addr) (n c : Nat) (xs : List Int) (x : Int) (w : World) (hs : SI w A n xs) (hA : A = none → n = 0 ∧ c = 0) (hn : n ≤ 1099511627776) :
    Calls Try.prog 101 #[.agg #[.slice A n c, .int .i64 x]] w fun e w' => ∃ A' c', e = .returned (.agg #[.slice A' n c', .int .i64 x]) ∧ Own w' w.heap.size w'.heap.size A' n c' xs ∧ Below w.heap.size w w' := by
  have hlx := hs.1
  go_enter Try.func101, Try.ntmps101
  go_wp2_with fail
  obtain ⟨g1, hg1⟩ : ∃ g1, g1 = w.heap.size := ⟨_, rfl⟩
  have hK1 : Blk ((w.alloc (.cells #[.slice A n c, .int .i64 x] 60)).alloc (.cells #[.slice none 0 0, .int .i64 0] 60)) g1 60 #[.slice A n c, .int .i64 x] := by rw [hg1]; exact (Blk.new w _ _).alloc _
  have hK2 : Blk ((w.alloc (.cells #[.slice A n c, .int .i64 x] 60)).alloc (.cells #[.slice none 0 0, .int .i64 0] 60)) (w.heap.size + 1) 60 #[.slice none 0 0, .int .i64 0] := by
    have := Blk.new (w.alloc (.cells #[.slice A n c, .int .i64 x] 60)) 60 #[.slice none 0 0, .int .i64 0]
    simpa using this
  have hb3 : Below w.heap.size w ((w.alloc (.cells #[.slice A n c, .int .i64 x] 60)).alloc (.cells #[.slice none 0 0, .int .i64 0] 60)) := by go_grown
  have hs3 := hs.below hb3 (Nat.le_refl _)
  generalize ((w.alloc (.cells #[.slice A n c, .int .i64 x] 60)).alloc (.cells #[.slice none 0 0, .int .i64 0] 60)) = w3 at *
  rw [← hg1] at hK2 ⊢
  obtain ⟨g2, hg2⟩ : ∃ g2, g2 = g1 + 1 := ⟨_, rfl⟩
  rw [← hg2] at hK2 ⊢
  have q0 : w3.cell? ⟨g1, 0, none⟩ = some (.slice A n c) := hK1.cell 0
  have q1 : w3.cell? ⟨g1, 1, none⟩ = some (.int .i64 x) := hK1.cell 1
  have hsd : SI w3.drew A n xs := hs3.below ((Below.refl w3.heap.size w3).drew) (Nat.le_refl _)
  have HSD := Lib.hid hsd
  have HK1 := Lib.hid hK1
  have HK2 := Lib.hid hK2
  have HB3 := Lib.hid hb3
  have hl3 := hK2.lt
  have n1 : ¬ g1 = g2 := by omega
  have n2 : ¬ g2 = g1 := by omega
  have HG := Lib.hid (And.intro hg1 hg2)
  have hl1 : g1 < w3.heap.size := by omega
  clear hg1 hg2 hs3 hsd hK1 hK2 hb3 hs
  go_region_held3 (fun w' => w'.cell? ⟨g1, 0, none⟩ = some (.slice A n c) ∧ w'.cell? ⟨g1, 1, none⟩ = some (.int .i64 x))
    (first | go_keep | exact K4)
    ((refine (clone_any A n c xs w3.drew HSD.out hA hn).mono ?_
      rintro r w4 ⟨A4, n4, c4, rfl, ho4, hb4⟩
      obtain rfl : n = n4 := by have := ho4.len; omega
      have k1 := HK1.out.below ((Below.refl w3.heap.size w3).drew.trans hb4) (by omega)
      have k2 := HK2.out.below ((Below.refl w3.heap.size w3).drew.trans hb4) (by omega)
      have K4 : w4.cell? ⟨g1, 0, none⟩ = some (.slice A n c) ∧ w4.cell? ⟨g1, 1, none⟩ = some (.int .i64 x) := ⟨k1.cell 0, k1.cell 1⟩
      have hc5 : w4.cell? ⟨g2, 0, none⟩ = some (.slice none 0 0) := k2.cell 0
      have hf5 := k2.frozen 0
      have hc6 : w4.cell? ⟨g2, 1, none⟩ = some (.int .i64 0) := k2.cell 1
      have hf6 := k2.frozen 1
      have H2 := Lib.hid k2
      have HO4 := Lib.hid ho4
      have HB4 := Lib.hid (HB3.out.trans (((Below.refl w3.heap.size w3).drew.trans hb4).mono HB3.out.size))
      clear k1 k2 ho4 hb4))
  obtain ⟨hg1, hg2⟩ := HG.out
  go_wp2
  have R := (H2.out.set_ 0 (.slice A4 n c4)).set_ 1 (.int .i64 x)
  refine bodyPost_ret (results_row Try.results101 _ _ g2 60 #[.slice A4 n c4, .int .i64 x] _ rfl R Try.underlying60 rfl (by kernel_rfl)) rfl ?_
  refine ⟨A4, c4, rfl, ?_, ?_⟩
  · refine ((HO4.out.kept (grown_set _ _ _) ?_).kept (grown_set _ _ _) ?_).wide (by show w.heap.size ≤ w3.heap.size; omega) (by simp) <;>
      (intro b hb e; have := HO4.out.lt b hb; injection e with e; have e3 : w3.heap.size ≤ b := this.1; simp only [] at e; omega)
  · exact (HB4.out.setCell (by show w.heap.size ≤ g2; omega) _).setCell (by show w.heap.size ≤ g2; omega) _
end Go.Proofs.Ytmndchhbafkbeaa

/-
  Variables exchanged, the program's side. Conditions: lengths below 2^40.
-/






namespace Go.Proofs.Ytmndchhbafkbeaa
open Go.RowKit

theorem insSort_none (A : Option Addr) (c : Nat) (f : Value) (w : World) : Calls Try.prog 141 #[.slice A 0 c, .int .i64 0, .int .i64 0, f] w fun e w' => e = .returned (.tuple #[]) ∧ w = w' := by
  go_enter Try.func141, Try.ntmps141
  go_wp2
  refine wp_loop_rounds 1 ?_
  rw [rounds_succ]
  go_wp2
  go_end0
  exact ⟨rfl, rfl⟩
set_option maxRecDepth 100000 in
set_option maxHeartbeats 1000000 in
theorem pdq_none (A : Option Addr) (c : Nat) (lim : Int) (f : Value) (w : World) : Calls Try.prog 130 #[.slice A 0 c, .int .i64 0, .int .i64 0, .int .i64 lim, f] w fun e w' => e = .returned (.tuple #[]) ∧ w = w' := by
  go_enter Try.func130, Try.ntmps130
  go_wp2
  refine wp_loop_rounds 1 ?_
  rw [rounds_succ]
  go_wp2_with (go_at_call 141; refine (insSort_none A c f _).mono ?_; rintro e w' ⟨rfl, rfl⟩)
  (try simp only [Exit.inBlock, Exit.then])
  refine bodyPost_ret (results_none rfl _ _ _) rfl ?_
  exact ⟨rfl, rfl⟩
theorem bitsLen_zero (w : World) : Calls Try.prog 131 #[.int .u64 0] w fun e w' => e = .returned (.int .i64 0) ∧ w = w' := by
  have L := Try.sortT
  have h := Any.bits_Len (SlLaysF0.n15.bits (P := Try.prog) (ρ := Try.sortT_ren) { L with }) (0 : Int) w (by omega) (by omega)
  exact h.mono fun _ _ ⟨h1, h2⟩ => ⟨by rw [h1]; rfl, h2.symm⟩
/-- No term at all. -/
theorem sortTerms_none (A : Option Addr) (c : Nat) (f : Value) (w : World) : Calls Try.prog 102 #[.slice A 0 c, f] w fun e w' => e = .returned (.tuple #[]) ∧ w = w' := by
  go_enter Try.func102, Try.ntmps102
  go_wp2_with (first | (go_at_call 131; refine (bitsLen_zero _).mono ?_; rintro e w' ⟨rfl, rfl⟩) | (go_at_call 130; refine (pdq_none A c _ f _).mono ?_; rintro e w' ⟨rfl, rfl⟩))
  go_end0
  exact ⟨rfl, rfl⟩
/-- A slice of terms of the call's own sorted, however many. -/
theorem sortTerms_any (A : Option Addr) (n c lo hi : Nat) (ts : List Tm) (w : World) (h : OwnT w lo hi A n c ts) (hn : n ≤ 1099511627776) (h7 : ∀ k, k < n → (tm ts k).1.length = 7) :
    Calls Try.prog 102 #[.slice A n c, .func (.func 103) #[] #[]] w fun e w' => e = .returned (.tuple #[]) ∧
      ∃ us : List Tm, us.Perm ts ∧ us.Pairwise (fun a b => 0 ≤ cmpX b.1 a.1 7) ∧ OwnT w' lo hi A n c us ∧ w.grownBy w' (Value.slice A n c).ownBlock := by
  rcases Nat.eq_zero_or_pos n with h0 | h0
  · subst h0
    have hx : ts = [] := List.eq_nil_of_length_eq_zero h.len
    subst hx
    refine (sortTerms_none A c _ w).mono ?_
    rintro e w' ⟨rfl, rfl⟩
    exact ⟨rfl, [], List.Perm.refl _, List.Pairwise.nil, h, World.grownBy.refl _ _⟩
  · obtain ⟨g, rfl, _, _⟩ := h.place h0
    exact sortTerms_own g n c lo hi ts w h h0 hn h7

/-- Terms with other exponents, sorted: they are a polynomial. -/
theorem swap_sorted {ts us : List Tm} {i : Nat} (hp : polyB ts = true) (hi : i ≤ 5) (hperm : us.Perm (swT ts i)) (hs : us.Pairwise (fun a b => 0 ≤ cmpX b.1 a.1 7)) : us = swapPoly ts i := by
  have hex := polyB_ex7 hp
  have hexS := swT_ex7 hex (i := i) (by omega)
  have hexU : ∀ u ∈ us, ex7 u.1 := fun u hu => hexS u (hperm.mem_iff.1 hu)
  have hkeys : ∀ a ∈ us, ∀ b ∈ us, 0 ≤ cmpX b.1 a.1 7 → key7 b.1 ≤ key7 a.1 := fun a ha b hb h => by
    have ea := hexU a ha
    have eb := hexU b hb
    rw [cmpX_key eb.1 ea.1 eb.2 ea.2 7 (Nat.le_refl _) (fun j h1 h2 => absurd h1 (by omega))] at h
    unfold cmpK at h
    split at h
    · omega
    · omega
  have hnd : (us.map fun t => key7 t.1).Nodup := by
    have h1 : ((swT ts i).map fun t => key7 t.1).Nodup := by
      have hd := polyB_desc hp
      unfold swT
      rw [List.map_map]
      have h2 : (ts.map fun t => swK (key7 t.1) i).Nodup := by
        unfold List.Nodup
        rw [List.pairwise_map]
        refine hd.imp_of_mem ?_
        intro a b ha hb hlt e
        rw [swK_key (hex a ha) (by omega), swK_key (hex b hb) (by omega)] at e
        have e2 := key7_inj (swE_ex7 (hex a ha) (i := i) (by omega)) (swE_ex7 (hex b hb) (i := i) (by omega)) e
        have e3 : ∀ k, k < 7 → nth a.1 k = nth b.1 k := fun k hk => by
          have ha7 := (hex a ha).1
          have hb7 := (hex b hb).1
          have q : ∀ j, j < 7 → nth (swE a.1 i) j = nth (swE b.1 i) j := fun j _ => by rw [e2]
          unfold swE at q
          by_cases h1 : k = i
          · have := q (i + 1) (by omega)
            rw [putE_nth (by omega) _ _ (by omega), putE_nth (by omega) _ _ (by omega), if_pos rfl, if_pos rfl] at this
            rw [h1]; exact this
          · by_cases h2 : k = i + 1
            · have := q i (by omega)
              rw [putE_nth (by omega) _ _ (by omega), putE_nth (by omega) _ _ (by omega), if_neg (show ¬ i = i + 1 by omega), if_pos rfl, if_neg (show ¬ i = i + 1 by omega), if_pos rfl] at this
              rw [h2]; exact this
            · have := q k hk
              rw [putE_nth (by omega) _ _ (by omega), putE_nth (by omega) _ _ (by omega), if_neg h2, if_neg h1, if_neg h2, if_neg h1] at this
              exact this
        have e4 : a.1 = b.1 := by
          apply List.ext_getElem (by rw [(hex a ha).1, (hex b hb).1])
          intro k h1 h2
          rw [← nth_get, ← nth_get]
          exact e3 k (by rw [(hex a ha).1] at h1; exact h1)
        rw [e4] at hlt; omega
      have e : (ts.map ((fun t : Tm => key7 t.1) ∘ fun t => (swE t.1 i, t.2))) = ts.map fun t => swK (key7 t.1) i := by
        apply List.map_congr_left
        intro t ht
        show key7 (swE t.1 i) = swK (key7 t.1) i
        rw [swK_key (hex t ht) (by omega)]
      rw [e]; exact h2
    exact (hperm.map fun t => key7 t.1).nodup_iff.2 h1
  have hdesc : us.Pairwise fun a b => key7 b.1 < key7 a.1 := by
    unfold List.Nodup at hnd
    rw [List.pairwise_map] at hnd
    refine (hs.imp_of_mem (S := fun a b => key7 b.1 ≤ key7 a.1) (fun ha hb h => hkeys _ ha _ hb h)).imp₂ ?_ hnd
    intro a b h1 h2
    omega
  have hgood : ∀ u ∈ us, goodT u = true := fun u hu => by
    have := hperm.mem_iff.1 hu
    unfold swT at this
    obtain ⟨t, ht, rfl⟩ := List.mem_map.1 this
    have hg := (goodT_iff _).1 (polyB_good' hp t ht)
    refine (goodT_iff _).2 ⟨(swE_ex7 (hex t ht) (by omega)).1, smallE_all fun k hk => ?_, hg.2.2.1, hg.2.2.2.1, hg.2.2.2.2⟩
    have h7 := hg.1
    have hk7 : k < 7 := by rw [(swE_ex7 (hex t ht) (i := i) (by omega)).1] at hk; exact hk
    show 0 ≤ nth (swE t.1 i) k ∧ nth (swE t.1 i) k ≤ 24
    unfold swE
    rw [putE_nth (by omega) _ _ (by omega)]
    split
    · exact smallE_nth hg.2.1 (by omega)
    · split
      · exact smallE_nth hg.2.1 (by omega)
      · exact smallE_nth hg.2.1 (by omega)
  have hpU : polyB us = true := polyB_of (by rw [hperm.length_eq]; unfold swT; rw [List.length_map]; exact polyB_len hp) hgood hdesc
  rw [swapPoly_yes hp hi, open_swT hex (by omega), gather_open hdesc (fun u hu => good_in64 (hgood u hu)) (fun k => by
    rw [cfL_perm (show (openM us).Perm (openM (swT ts i)) from hperm.map _)]; exact eqm.refl _), shut_open hexU, if_pos hpU]

theorem hasPairAt_any (i : Int) (w : World) : Calls Try.prog 100 #[.int .i64 i] w fun e w' => e = .returned (.bool (decide (0 ≤ i ∧ i ≤ 5))) ∧ w = w' := by
  by_cases h0 : 0 ≤ i
  · by_cases h1 : i ≤ 5
    · rw [decide_eq_true ⟨h0, h1⟩]
      go_enter Try.func100, Try.ntmps100
      go_wp2
      go_ret
      exact ⟨rfl, rfl⟩
    · rw [decide_eq_false (fun h => h1 h.2)]
      go_enter Try.func100, Try.ntmps100
      go_wp2
      go_ret
      exact ⟨rfl, rfl⟩
  · rw [decide_eq_false (fun h => h0 h.1)]
    go_enter Try.func100, Try.ntmps100
    go_wp2
    go_ret
    exact ⟨rfl, rfl⟩
/-- The terms as they stand after k rounds. -/
def stT (ts : List Tm) (i k : Nat) : List Tm := swT (ts.take k) i ++ zeroT (ts.length - k)
theorem stT_zero (ts : List Tm) (i : Nat) : stT ts i 0 = zeroT ts.length := by simp [stT, swT]
theorem stT_all (ts : List Tm) (i : Nat) : stT ts i ts.length = swT ts i := by simp [stT, zeroT]
theorem stT_len {ts : List Tm} {i k : Nat} (h : k ≤ ts.length) : (stT ts i k).length = ts.length := by simp [stT, swT, zeroT]; omega
theorem stT_succ {ts : List Tm} {i k : Nat} (h : k < ts.length) (y : Tm) : ((stT ts i k).set k y).set k (swE (tm ts k).1 i, (tm ts k).2) = stT ts i (k + 1) := by
  rw [List.set_set]
  unfold stT zeroT
  have hl : (swT (ts.take k) i).length = k := by simp [swT]; omega
  rw [List.set_append_right _ _ (by omega), hl]
  have e : ts.length - k = (ts.length - (k + 1)) + 1 := by omega
  rw [e, List.replicate_succ, Nat.sub_self, List.set_cons_zero, take_tm h]
  unfold swT
  rw [List.map_append, List.append_assoc]
  rfl
set_option maxRecDepth 100000 in
set_option maxHeartbeats 2000000 in
theorem implSwap_any (A : Option Addr) (n c : Nat) (ts : List Tm) (i : Int) (w : World) (hs : TS w A n ts) (hn : n ≤ 1099511627776) (hne : ∀ k, k < n → (tm ts k).1.length ≤ 1099511627776) :
    Calls Try.prog 49 #[.slice A n c, .int .i64 i] w fun r w' => FreshT w w' r (swapPoly ts i) := by
  have hP := implPolyOk_any A n c ts w hs hn hne
  have hV := fun w => hasPairAt_any i w
  cases hu : polyB ts with
  | false =>
    rw [hu] at hP
    have HE := Lib.hid (swapPoly_no (ts := ts) (i := i) (fun h => by rw [hu] at h; cases h.1))
    have HP := Lib.hid hP
    clear hP hu hV
    go_enter Try.func49, Try.ntmps49
    go_wp2_with (go_at_call 69; refine HP.out.mono ?_; rintro e w7 ⟨rfl, hd7⟩; have HD7 := Lib.hid hd7; clear hd7)
    go_ret
    rw [HE.out]
    exact FreshT.nil_ret HD7.out
  | true =>
    rw [hu] at hP
    by_cases hi : 0 ≤ i ∧ i ≤ 5
    · obtain ⟨m, rfl⟩ : ∃ m : Nat, i = m := ⟨i.toNat, by omega⟩
      have hm5 : m ≤ 5 := by omega
      have HU := Lib.hid hu
      have hnl : n ≤ 600 := by have := polyB_len hu; have := hs.1; omega
      have HL := Lib.hid hs.1
      rw [decide_eq_true hi] at hV
      have HP := Lib.hid hP
      have HV := Lib.hid hV
      clear hP hu hV hi hne
      go_enter Try.func49, Try.ntmps49
      go_wp2_with (first
        | (go_at_call 69; refine HP.out.mono ?_; rintro e w7 ⟨rfl, hd7⟩; have HD7 := Lib.hid hd7; clear hd7)
        | (go_at_call 100; refine (HV.out _).mono ?_; rintro e w8 ⟨rfl, rfl⟩)
        | (at_make; refine wpList_make_terms rfl (.tmp 17) (.tmp 17) rfl n rfl rfl hn ?_; intro w1 hown hbel1; have HO := Lib.hid hown; have HB := Lib.hid hbel1; clear hown hbel1))
      obtain ⟨B, hB⟩ : ∃ B, B = w7.heap.size := ⟨_, rfl⟩
      have hB0 : w.heap.size ≤ B := by rw [hB]; exact HD7.out.size
      rw [← hB] at HO HB ⊢
      have HBW : Hid (Below w.heap.size w w1) := Lib.hid (HD7.out.trans (HB.out.mono hB0))
      have HOO : Hid (OwnT w1 B w1.heap.size (some ⟨B, 0, none⟩) n n (stT ts m 0)) := Lib.hid (by rw [stT_zero, HL.out]; exact HO.out)
      have HZB : Hid (B ≤ w1.heap.size) := Lib.hid (by have := HB.out.size; rw [← hB] at this; exact this)
      clear hB HO HB
      go_loopw [21] (fun iv wr => ∃ k : Nat, k ≤ n ∧ iv = .int .i64 k ∧ OwnT wr B wr.heap.size (some ⟨B, 0, none⟩) n n (stT ts m k) ∧ Below w.heap.size w wr ∧ B ≤ wr.heap.size)
        (fun iv _ => n - (intOf iv).toNat)
      case atStart => exact ⟨0, Nat.zero_le _, rfl, HOO.out, HBW.out, HZB.out⟩
      case round =>
        obtain ⟨k, hk, rfl, ho, hb, hz⟩ := hrel
        clear HOO HBW HZB
        have HO := Lib.hid ho
        have HB := Lib.hid hb
        have HZ := Lib.hid hz
        have hwr := hb.size
        by_cases hlt : k < n
        · have hltI : (k : Int) < (n : Int) := by omega
          obtain ⟨b, o, A2, n2, c2, rfl, hbw, hc0', hc1', hsi', hnc, hnil⟩ := hs.at_ hlt
          have hc0 := (hb.cell (p := ⟨b, o + k * 2, none⟩) hbw).trans hc0'
          have hc1 := (hb.cell (p := ⟨b, o + k * 2 + 1, none⟩) hbw).trans hc1'
          have hb2w : ∃ b2 o2, A2 = some ⟨b2, o2, none⟩ ∧ b2 < w.heap.size := by
            obtain ⟨b2, o2, e, h, _⟩ := hsi'.at_ (by
              have hg := (goodT_iff _).1 (polyB_good HU.out (k := k) (by rw [HL.out]; exact hlt))
              have := hsi'.1; omega)
            exact ⟨b2, o2, e, h⟩
          have hsi := hsi'.below hb (Nat.le_refl _)
          clear ho hb hz hc0' hc1' hsi'
          have hg := (goodT_iff _).1 (polyB_good HU.out (k := k) (by rw [HL.out]; exact hlt))
          obtain rfl : n2 = 7 := by rw [← hsi.1]; exact hg.1
          obtain ⟨b2, o2, rfl, hb2w⟩ := hb2w
          have hcx : ∀ j, j < 7 → wr.cell? ⟨b2, o2 + j, none⟩ = some (.int .i64 (nth (tm ts k).1 j)) := by
            obtain ⟨b3, o3, e3, _, hc3⟩ := hsi.at_ (by omega)
            simp only [Option.some.injEq, Addr.mk.injEq, and_true] at e3
            obtain ⟨rfl, rfl⟩ := e3
            exact hc3
          obtain ⟨z, hz⟩ : ∃ z, z = (tm ts k).2 := ⟨_, rfl⟩
          rw [← hz] at hc1
          obtain ⟨w2, hw2⟩ : ∃ w2, w2 = wr.alloc (.cells #[.slice (some ⟨b2, o2, none⟩) 7 c2, .int .i64 z] 60) := ⟨_, rfl⟩
          obtain ⟨G, hG⟩ : ∃ G, G = wr.heap.size := ⟨_, rfl⟩
          have hK2 : Blk w2 G 60 #[.slice (some ⟨b2, o2, none⟩) 7 c2, .int .i64 z] := by rw [hw2, hG]; exact Blk.new _ _ _
          have hbel2 : Below wr.heap.size wr w2 := by rw [hw2]; exact (Below.refl _ _).alloc (Nat.le_refl _) _
          have CL := (termClone_any (some ⟨b2, o2, none⟩) 7 c2 (tm ts k).1 z w2 (hsi.below hbel2 (Nat.le_refl _)) (fun h => by cases h) (by omega))
          have HW2 := Lib.hid hw2
          have HG := Lib.hid hG
          have HCL := Lib.hid CL
          have HK2 := Lib.hid hK2
          have HB2 := Lib.hid hbel2
          have HZ2 := Lib.hid hz
          have HCX := Lib.hid hcx
          have HG7 := Lib.hid hg
          clear hsi hcx hg CL hK2 hbel2 hnil hz hw2 hG
          go_wp2_with fail
          rw [← HW2.out]
          refine HCL.out.mono ?_
          rintro e w3 ⟨A3, c3, rfl, ho3, hb3⟩
          obtain ⟨g3, rfl, hg3l, hg3h⟩ := ho3.place (by omega)
          have hz2 : wr.heap.size ≤ w2.heap.size := HB2.out.size
          have hO3 := (HO.out.below HB2.out (Nat.le_refl _)).below hb3 hz2
          have hput := hO3.put hlt ho3 hz2 (by have := HZ.out; omega) (by have := hb3.size; omega) z
          obtain ⟨A4, n4, c4, hd0, hd1, hfz, _⟩ := hO3.exp hlt
          have hf0 := hfz (k * 2)
          have hf1 := hfz (k * 2 + 1)
          have HPUT := Lib.hid hput
          have HO3 := Lib.hid ho3
          have HB3 := Lib.hid hb3
          clear hput hO3 ho3 hb3 hfz hc0 hc1
          go_wp2_with fail
          obtain ⟨w4, hw4⟩ : ∃ w4, w4 = (w3.setCell ⟨B, k * 2, none⟩ (.slice (some ⟨g3, 0, none⟩) 7 c3)).setCell ⟨B, k * 2 + 1, none⟩ (.int .i64 z) := ⟨_, rfl⟩
          rw [← hw4, ← HG.out]
          have hGB : B < G := by
            obtain ⟨g, e, _, h⟩ := HO.out.place (by omega)
            simp only [Option.some.injEq, Addr.mk.injEq, and_true] at e
            rw [HG.out, e]; exact h
          have hG2 : G < w2.heap.size := HK2.out.lt
          have hwrG : w.heap.size ≤ G := by rw [HG.out]; exact hwr
          have oth : ∀ x j, x ≠ B → w4.cell? ⟨x, j, none⟩ = w3.cell? ⟨x, j, none⟩ := fun x j hx => by
            rw [hw4, World.cell?_setCell_other _ _ _ _ (by intro e; injection e with e; exact hx e.symm), World.cell?_setCell_other _ _ _ _ (by intro e; injection e with e; exact hx e.symm)]
          have ofz : ∀ x j, x ≠ B → w4.frozen? ⟨x, j, none⟩ = w3.frozen? ⟨x, j, none⟩ := fun x j _ => by rw [hw4]; simp
          have q0 : w4.cell? ⟨B, k * 2, none⟩ = some (.slice (some ⟨g3, 0, none⟩) 7 c3) := by
            rw [hw4, World.cell?_setCell_other _ _ _ _ (by intro e; injection e with _ e; omega), World.cell?_setCell_same _ _ _ hd0]
          have q1 : w4.cell? ⟨G, 0, none⟩ = some (.slice (some ⟨b2, o2, none⟩) 7 c2) := by
            rw [oth G 0 (by omega)]; exact (Below.cell HB3.out (p := ⟨G, 0, none⟩) hG2).trans (HK2.out.cell 0)
          have hg3B : g3 ≠ B := by have := hg3l; omega
          obtain ⟨x0, hx0⟩ : ∃ x0, x0 = nth (tm ts k).1 m := ⟨_, rfl⟩
          obtain ⟨x1, hx1⟩ : ∃ x1, x1 = nth (tm ts k).1 (m + 1) := ⟨_, rfl⟩
          have pre : ∀ j, j < 7 → w4.cell? ⟨b2, o2 + j, none⟩ = some (.int .i64 (nth (tm ts k).1 j)) := fun j hj => by
            rw [oth b2 (o2 + j) (by omega)]
            exact ((HB3.out.cell (p := ⟨b2, o2 + j, none⟩) (by show b2 < w2.heap.size; omega)).trans (HB2.out.cell (p := ⟨b2, o2 + j, none⟩) (by show b2 < wr.heap.size; omega))).trans (HCX.out j hj)
          have q2 := pre m (by omega)
          have q3 := pre (m + 1) (by omega)
          have r0 : w4.cell? ⟨g3, m, none⟩ = some (.int .i64 (nth (tm ts k).1 m)) := by rw [oth g3 m hg3B]; exact HO3.out.cellAt (k := m) (by omega)
          have r1 : w4.cell? ⟨g3, m + 1, none⟩ = some (.int .i64 (nth (tm ts k).1 (m + 1))) := by rw [oth g3 (m + 1) hg3B]; exact HO3.out.cellAt (k := m + 1) (by omega)
          have f0 : w4.frozen? ⟨g3, m, none⟩ = false := by rw [ofz g3 m hg3B]; exact HO3.out.frozenAt m
          have f1 : w4.frozen? ⟨g3, m + 1, none⟩ = false := by rw [ofz g3 (m + 1) hg3B]; exact HO3.out.frozenAt (m + 1)
          rw [← hx0] at q2 r0
          rw [← hx1] at q3 r1
          have r2 : (w4.setCell ⟨g3, m, none⟩ (.int .i64 x1)).cell? ⟨g3, m + 1, none⟩ = some (.int .i64 x1) := (World.cell?_setCell_other w4 _ _ _ (by intro e; injection e with _ e; omega)).trans r1
          have f2 : (w4.setCell ⟨g3, m, none⟩ (.int .i64 x1)).frozen? ⟨g3, m + 1, none⟩ = false := by simpa using f1
          have hm1 : IntKind.i64.wrap ((m : Int) + 1) = (m : Int) + 1 := IntWalk.i64_in _ (by omega)
          have hmI : (m : Int) < 7 := by omega
          have hmI1 : (m : Int) + 1 < 7 := by omega
          have hnz : ¬ (m : Int) + 1 < 0 := by omega
          have HW4 := Lib.hid hw4
          have HX0 := Lib.hid hx0
          have HX1 := Lib.hid hx1
          have HG3 := Lib.hid (And.intro hg3B (And.intro hg3l hg3h))
          have HGB := Lib.hid (And.intro hGB (And.intro hG2 hwrG))
          clear hw4 hx0 hx1 hg3B hg3l hg3h hGB hG2 hwrG oth ofz pre hd0 hd1 hf0 hf1
          go_region
          go_wp2
          go_roundw
          case rel =>
            obtain ⟨hg3B, hg3l, hg3h⟩ := HG3.out
            obtain ⟨hGB, hG2, hwrG⟩ := HGB.out
            have hGe := HG.out
            have h4 : OwnT w4 B w3.heap.size (some ⟨B, 0, none⟩) n n ((stT ts m k).set k ((tm ts k).1, z)) := by rw [HW4.out]; exact HPUT.out.1
            have hl4 : (stT ts m k).length = n := by rw [stT_len (by rw [HL.out]; omega), HL.out]
            obtain ⟨A', n', c', e0, _, _, ho, back⟩ := h4.exp hlt
            rw [q0] at e0
            simp only [Option.some.injEq, Value.slice.injEq] at e0
            obtain ⟨rfl, rfl, rfl⟩ := e0
            rw [tm_set (by omega), if_pos rfl] at ho back
            have s1 := ho.set_ (k := m) x1
            have s2 := s1.1.set_ (k := m + 1) x0
            have gg := (s1.2.trans s2.2)
            have hb := back _ _ s2.1 gg
            have e5 : ((tm ts k).1.set m x1).set (m + 1) x0 = swE (tm ts k).1 m := by rw [HX0.out, HX1.out]; rfl
            rw [e5, HZ2.out, stT_succ (by rw [HL.out]; exact hlt)] at hb
            have hsz : w3.heap.size ≤ (((w4.setCell ⟨g3, m, none⟩ (.int .i64 x1)).setCell ⟨g3, m + 1, none⟩ (.int .i64 x0)).drew).heap.size := by
              have : w4.heap.size = w3.heap.size := by rw [HW4.out]; simp
              show w3.heap.size ≤ ((w4.setCell ⟨g3, m, none⟩ (.int .i64 x1)).setCell ⟨g3, m + 1, none⟩ (.int .i64 x0)).heap.size
              simp [this]
            have hbw4 : Below w.heap.size w w4 := by
              rw [HW4.out]
              exact ((((HB.out.trans (HB2.out.mono hwr)).trans (HB3.out.mono (by omega))).setCell (p := ⟨B, k * 2, none⟩) hB0 _)).setCell (p := ⟨B, k * 2 + 1, none⟩) hB0 _
            refine ⟨k + 1, by omega, by go_num, (hb.drawn ⟨1, rfl⟩).wide (Nat.le_refl _) hsz, ?_, ?_⟩
            · exact ((hbw4.setCell (p := ⟨g3, m, none⟩) (by show w.heap.size ≤ g3; omega) _).setCell (p := ⟨g3, m + 1, none⟩) (by show w.heap.size ≤ g3; omega) _).drew
            · have := HB3.out.size
              omega
          case measure => simp [intOf]; omega
        · have hkn : k = n := by omega
          subst hkn
          have HOL : Hid (OwnT wr B wr.heap.size (some ⟨B, 0, none⟩) k k (swT ts m)) := Lib.hid (by have := HO.out; rwa [← HL.out, stT_all, HL.out] at this)
          have HST := Lib.hid (sortTerms_any (some ⟨B, 0, none⟩) k k B wr.heap.size (swT ts m) wr HOL.out hn (fun j hj => (swT_ex7 (polyB_ex7 HU.out) (by omega) _ (tm_mem (by rw [HOL.out.len]; exact hj))).1))
          clear hb ho hz
          go_wp2_with (go_at_call 102
                       refine HST.out.mono ?_
                       rintro e w5 ⟨rfl, us, hp, hsort, ho5, hg5⟩
                       have HPS := Lib.hid (And.intro hp hsort)
                       have HO5 := Lib.hid ho5
                       have HG5 := Lib.hid hg5
                       clear hp hsort ho5 hg5)
          go_ret
          have hus := swap_sorted HU.out hm5 HPS.out.1 HPS.out.2
          rw [← hus]
          refine ⟨_, k, k, rfl, HO5.out.wide hB0 HG5.out.size, ?_⟩
          exact HB.out.grown HG5.out HB.out.size (by rintro q ⟨⟩; exact hB0)
    · have HE := Lib.hid (swapPoly_no (ts := ts) (i := i) (fun h => hi h.2))
      rw [decide_eq_false hi] at hV
      have HP := Lib.hid hP
      have HV := Lib.hid hV
      clear hP hu hV hi
      go_enter Try.func49, Try.ntmps49
      go_wp2_with (first
        | (go_at_call 69; refine HP.out.mono ?_; rintro e w7 ⟨rfl, hd7⟩; have HD7 := Lib.hid hd7; clear hd7)
        | (go_at_call 100; refine (HV.out _).mono ?_; rintro e w8 ⟨rfl, rfl⟩))
      go_ret
      rw [HE.out]
      exact FreshT.nil_ret HD7.out
theorem shutL_small (l : List Mn) : smallT (shutL l) := by
  unfold shutL
  split
  · rename_i h
    exact ⟨polyB_len h, fun t ht => by have := ((goodT_iff _).1 (polyB_good' h t ht)).1; omega⟩
  · exact ⟨by simp, fun t ht => by simp at ht⟩
theorem swapPoly_small (ts : List Tm) (i : Int) : smallT (swapPoly ts i) := by
  unfold swapPoly
  split
  · exact shutL_small _
  · exact ⟨by simp, fun t ht => by simp at ht⟩
end Go.Proofs.Ytmndchhbafkbeaa

/-
  The program's polynomials under construction: their terms in order. Conditions: exponents from 0 to 127.
-/



namespace Go.Proofs.Ytmndchhbafkbeaa
open Go.RowKit

/-- The terms that are not 0. -/
def nzT (M : List Tm) : List Tm := M.filter fun t => t.2 != 0
theorem nzT_app (M : List Tm) (t : Tm) : nzT (M ++ [t]) = if t.2 = 0 then nzT M else nzT M ++ [t] := by
  unfold nzT
  rw [List.filter_append]
  by_cases h : t.2 = 0
  · rw [if_pos h]; simp [h]
  · rw [if_neg h]; simp [h]
theorem nzT_perm {a b : List Tm} (h : a.Perm b) : (nzT a).Perm (nzT b) := h.filter _
theorem nzT_cf (k : Int) : ∀ M : List Tm, cfL (openM (nzT M)) k = cfL (openM M) k
  | [] => rfl
  | t :: M => by
    have ih := nzT_cf k M
    unfold nzT at ih ⊢
    show _ = (if key7 t.1 = k then t.2 else 0) + cfL (openM M) k
    by_cases h : t.2 = 0
    · rw [List.filter_cons_of_neg (by simpa using h), ih, h]; split <;> omega
    · rw [List.filter_cons_of_pos (by simpa using h)]
      show (if key7 t.1 = k then t.2 else 0) + cfL (openM (List.filter _ M)) k = _
      rw [ih]
/-- The terms in order give what the document gathers. -/
theorem nz_sorted {M us : List Tm} {L : List Mn} (hg : goodM M) (hn : (M.map (·.1)).Nodup) (hL : sameC (openM M) L) (hperm : us.Perm (nzT M)) (hs : us.Pairwise (fun a b => 0 ≤ cmpX b.1 a.1 7)) :
    gatherL L = openM us ∧ (∀ u ∈ us, ex7 u.1) := by
  have hmem : ∀ u ∈ us, u ∈ M ∧ u.2 ≠ 0 := fun u hu => by
    have := hperm.mem_iff.1 hu
    unfold nzT at this
    have := List.mem_filter.1 this
    exact ⟨this.1, by simpa using this.2⟩
  have hexU : ∀ u ∈ us, ex7 u.1 := fun u hu => (hg u (hmem u hu).1).1
  have hkeys : ∀ a ∈ us, ∀ b ∈ us, 0 ≤ cmpX b.1 a.1 7 → key7 b.1 ≤ key7 a.1 := fun a ha b hb h => by
    have ea := hexU a ha
    have eb := hexU b hb
    rw [cmpX_key eb.1 ea.1 eb.2 ea.2 7 (Nat.le_refl _) (fun j h1 h2 => absurd h1 (by omega))] at h
    unfold cmpK at h
    split at h
    · omega
    · omega
  have hnd : (us.map fun t => key7 t.1).Nodup := by
    have h1 : ((nzT M).map (·.1)).Nodup := (List.filter_sublist.map _).nodup hn
    have h2 : (us.map (·.1)).Nodup := (hperm.map _).nodup_iff.2 h1
    unfold List.Nodup at h2 ⊢
    rw [List.pairwise_map] at h2 ⊢
    exact h2.imp_of_mem fun ha hb hne e => hne (key7_inj (hexU _ ha) (hexU _ hb) e)
  have hdesc : us.Pairwise fun a b => key7 b.1 < key7 a.1 := by
    unfold List.Nodup at hnd
    rw [List.pairwise_map] at hnd
    refine (hs.imp_of_mem (S := fun a b => key7 b.1 ≤ key7 a.1) (fun ha hb h => hkeys _ ha _ hb h)).imp₂ ?_ hnd
    intro a b h1 h2
    omega
  refine ⟨gather_open hdesc (fun u hu => ⟨(hmem u hu).2, (hg u (hmem u hu).1).2⟩) (fun k => ?_), hexU⟩
  rw [cfL_perm (show (openM us).Perm (openM (nzT M)) from hperm.map _), nzT_cf]
  exact hL k
def kleT (a b : Tm) : Bool := decide (key7 b.1 ≤ key7 a.1)
theorem nz_len {M : List Tm} {L : List Mn} (hg : goodM M) (hn : (M.map (·.1)).Nodup) (hL : sameC (openM M) L) : (gatherL L).length = (nzT M).length := by
  have hperm := List.mergeSort_perm (nzT M) kleT
  have hs := List.pairwise_mergeSort (le := kleT) (fun a b c h1 h2 => by unfold kleT at *; simp only [decide_eq_true_eq] at *; omega) (fun a b => by unfold kleT; rcases Int.le_total (key7 b.1) (key7 a.1) with h | h <;> simp [h]) (nzT M)
  have hmem : ∀ u ∈ (nzT M).mergeSort kleT, ex7 u.1 := fun u hu => (hg u (List.mem_filter.1 (hperm.mem_iff.1 hu)).1).1
  have hs' : ((nzT M).mergeSort kleT).Pairwise (fun a b => 0 ≤ cmpX b.1 a.1 7) := by
    refine hs.imp_of_mem ?_
    intro a b ha hb h
    have ea := hmem a ha
    have eb := hmem b hb
    rw [cmpX_key eb.1 ea.1 eb.2 ea.2 7 (Nat.le_refl _) (fun j h1 h2 => absurd h1 (by omega))]
    unfold kleT at h
    simp only [decide_eq_true_eq] at h
    unfold cmpK
    split
    · omega
    · split <;> omega
  rw [(nz_sorted hg hn hL hperm hs').1]
  unfold openM
  rw [List.length_map, hperm.length_eq]
theorem nz_none {M : List Tm} {L : List Mn} (hg : goodM M) (hn : (M.map (·.1)).Nodup) (hL : sameC (openM M) L) (h : 600 < (nzT M).length) : polyB (termsK (gatherL L)) = false ∧ shutL (gatherL L) = [] := by
  have h1 : polyB (termsK (gatherL L)) = false := polyB_big (by unfold termsK; rw [List.length_map, nz_len hg hn hL]; exact h)
  exact ⟨h1, by unfold shutL; rw [h1]; rfl⟩

theorem RangeE.nz_le {w : World} {b r : Nat} {M done : List Tm} (h : RangeE w b r M done) : (nzT done).length ≤ (nzT M).length := by
  obtain ⟨es, clock, since, seen, c0, _, _, _, _, _, _, _, _, todo, _, hp⟩ := h
  have := (nzT_perm hp).length_eq
  unfold nzT at *
  rw [List.filter_append, List.length_append] at this
  omega
theorem OwnT.place0 {w : World} {lo hi n c : Nat} {A : Option Addr} {ts : List Tm} (h : OwnT w lo hi A n c ts) : ∀ g, (Value.slice A n c).ownBlock = some g → lo ≤ g := fun g hg => by
  obtain ⟨E, _, ho, _⟩ := h
  exact (ho.lt g hg).1
/-- 'f = append(f, Term{..})'. -/
theorem wpList_appendT (w : World) {ops : Array Oper} {rest : List Oper} {o : Oper} {a : Act} {Q : Exit → Act → World → Prop} (hgd : o.guard = none) (s x : Operand)
    (ho : o.op = .call { callee := .builtin .append, args := #[s, x], argTypes := #[24, 24] })
    (lo hi : Nat) (A : Option Addr) (n c : Nat) (ts : List Tm) (lo2 hi2 : Nat) (A3 : Option Addr) (n3 c3 : Nat) (xs : List Int) (z : Int) (nb : Nat) (hs : a.eval s = .slice A n c) (hx : a.eval x = .slice (some ⟨nb, 0, none⟩) 1 1) (hblk : Blk w nb 60 #[.slice A3 n3 c3, .int .i64 z])
    (hown : OwnT w lo hi A n c ts) (hxs : Own w lo2 hi2 A3 n3 c3 xs) (hlo : lo ≤ lo2) (hd : hi ≤ lo2) (h1 : hi2 ≤ w.heap.size) (h2 : hi ≤ w.heap.size) (h3 : lo ≤ w.heap.size) (hn : n ≤ 1099511627776)
    (h : ∀ A' c' w', OwnT w' lo w'.heap.size A' (n + 1) c' (ts ++ [(xs, z)]) → Below lo w w' → wpList Try.prog ops Q rest (a.put o.dst (.slice A' (n + 1) c')) w') :
    wpList Try.prog ops Q (o :: rest) a w :=
  wpList_step fun _ hK => step_appendT w hgd s x ho lo hi A n c ts lo2 hi2 A3 n3 c3 xs z nb hs hx hblk hown hxs hlo hd h1 h2 h3 hn fun A' c' w' k1 k2 => hK _ _ (h A' c' w' k1 k2)
set_option maxRecDepth 100000 in
set_option maxHeartbeats 2000000 in
theorem terms_any (gp bp : Nat) (M : List Tm) (L : List Mn) (w : World) (hp : SumP w gp bp M) (hL : sameC (openM M) L) :
    Calls Try.prog 72 #[.pointer (some ⟨gp, 0, none⟩)] w fun e w' => ∃ A n c, e = .returned (.tuple #[.slice A n c, .bool (polyB (termsK (gatherL L)))]) ∧ OwnT w' w.heap.size w'.heap.size A n c (shutL (gatherL L)) ∧ Below w.heap.size w w' := by
  have HP := Lib.hid hp
  have HLP := Lib.hid hp.2.lt
  have HGD := Lib.hid hp.2.good
  have HND := Lib.hid hp.2.nodup
  have HL := Lib.hid hL
  have hf := hp.field
  clear hp hL
  go_enter Try.func72, Try.ntmps72
  go_wp2_with (first
    | (at_range; refine wpList_rangeE _ rfl _ rfl rfl HP.out.2 ?_; intro w0 hrg0 hg0 hs0)
    | go_in)
  go_frame
  obtain ⟨R, hR⟩ : ∃ R, R = w.heap.size := ⟨_, rfl⟩
  have HRW := Lib.hid hR
  rw [← hR] at hrg0 ⊢
  have HR0 := Lib.hid hrg0
  have HB0 : Hid (Below R w w0) := Lib.hid (grown_belowM hg0 (by omega) (by simp))
  have HS0 : Hid (R + 1 ≤ w0.heap.size) := Lib.hid (by omega)
  clear hrg0 hg0 hs0 hf hR
  go_loopw [4, 12] (fun fv _ wr => ∃ A5 n5 c5 done, fv = .slice A5 n5 c5 ∧ OwnT wr (R + 1) wr.heap.size A5 n5 c5 (nzT done) ∧ n5 ≤ 600 ∧ RangeE wr bp R M done ∧ Below R w wr ∧ R + 1 ≤ wr.heap.size)
    (fun _ _ wr => wr.rangeLeft bp R)
  case atStart => exact ⟨none, 0, 0, [], rfl, OwnT.nil _ _ _, by omega, HR0.out, HB0.out, HS0.out⟩
  case round =>
    obtain ⟨A5, n5, c5, done, rfl, ho, hn5, hrg, hb, hz⟩ := hrel
    clear HR0 HB0 HS0
    have HO := Lib.hid ho
    have HRG := Lib.hid hrg
    have HB := Lib.hid hb
    have HZ := Lib.hid hz
    clear ho hrg hb hz
    go_wp2_with (first
      | (at_next; refine wpList_nextE _ rfl _ rfl rfl HRG.out ?_ ?_)
      | go_in)
    · intro hdone
      have HD := Lib.hid hdone
      have hn40 : n5 ≤ 1099511627776 := by omega
      have HST := Lib.hid (sortTerms_any A5 n5 c5 (R + 1) wr.heap.size (nzT done) wr HO.out hn40 (fun j hj => by have h := tm_mem (ts := nzT done) (k := j) (by rw [HO.out.len]; exact hj); exact (HGD.out _ (hdone.mem_iff.1 (List.mem_filter.1 h).1)).1.1))
      clear hdone
      go_wp2_with (first
        | (go_at_call 102
           refine HST.out.mono ?_
           rintro r w5 ⟨rfl, us, hperm, hsort, ho5, hg5⟩
           have HN := Lib.hid (nz_sorted HGD.out HND.out HL.out (hperm.trans (nzT_perm HD.out)) hsort)
           have HLE : Hid (wr.heap.size ≤ w5.heap.size) := Lib.hid hg5.size
           have HB5 : Hid (Below R w w5) := Lib.hid (HB.out.trans (grown_belowM hg5 (by have := HZ.out; omega) (fun g hg => by
             have := HO.out.place0 g hg; omega)))
           have HO5 := Lib.hid ho5
           clear hperm hsort hg5 ho5)
        | (go_at_call 69
           refine (implPolyOk_any A5 n5 c5 us _ HO5.out.si hn40 (fun j hj => by have := (HN.out.2 _ (tm_mem (by rw [HO5.out.len]; exact hj))).1; omega)).mono ?_
           rintro r w6 ⟨rfl, hb6⟩
           have HB6 := Lib.hid hb6
           clear hb6))
      · rename_i hq
        have hq' : polyB us = false := by revert hq; cases polyB us <;> simp
        go_ret2
        rw [HN.out.1, termsK_open HN.out.2, shut_open HN.out.2, hq', if_neg (by simp)]
        exact ⟨none, 0, 0, rfl, OwnT.nil _ _ _, by rw [← HRW.out]; exact HB5.out.trans (HB6.out.mono (by have := HB5.out.size; have := HLE.out; have := HZ.out; omega))⟩
      · rename_i hq
        have hq' : polyB us = true := by revert hq; cases polyB us <;> simp
        go_ret2
        rw [HN.out.1, termsK_open HN.out.2, shut_open HN.out.2, hq', if_pos rfl]
        exact ⟨A5, n5, c5, rfl, (HO5.out.below HB6.out HLE.out).wide (by rw [← HRW.out]; omega) (Nat.le_trans HLE.out HB6.out.size), by rw [← HRW.out]; exact HB5.out.trans (HB6.out.mono (by have := HB5.out.size; have := HLE.out; have := HZ.out; omega))⟩
    · intro e c w2 htM hrg1 hlt hg1 hs1 hen
      have hex : ex7 e := (HGD.out _ htM).1
      have HEX := Lib.hid hex
      have HLT := Lib.hid hlt
      have HLW : Hid (w2.heap.size = wr.heap.size) := Lib.hid hs1
      have HNZ := Lib.hid (hrg1.nz_le)
      have hZ := HZ.out
      have hRR := HRW.out
      have ho2 : OwnT w2 (R + 1) w2.heap.size A5 n5 c5 (nzT done) := (HO.out.within (Within.of_grown hg1 (lo := R) (hi := R + 1) (fun g hg => by injection hg with hg; omega)) (.inr (Nat.le_refl _))).wide (Nat.le_refl _) (by omega)
      have hb2 : Below R w w2 := HB.out.trans (grown_belowM hg1 (by omega) (fun j hj => by injection hj with hj; omega))
      have hb3 : Below R w (w2.alloc (.cells (arrC e) 79)) := hb2.alloc (by omega) _
      have hr3 : RangeE (w2.alloc (.cells (arrC e) 79)) bp R M (done ++ [(e, c)]) := hrg1.kept (World.grownBy_alloc _ (.cells (arrC e) 79) none) (by simp) (by simp)
      have ho3 : OwnT (w2.alloc (.cells (arrC e) 79)) (R + 1) w2.heap.size A5 n5 c5 (nzT done) := ho2.below ((Below.refl w2.heap.size w2).alloc (Nat.le_refl _) _) (Nat.le_refl _)
      have hA : Blk (w2.alloc (.cells (arrC e) 79)) w2.heap.size 79 (arrC e) := Blk.new _ _ _
      have h3s : (w2.alloc (.cells (arrC e) 79)).heap.size = w2.heap.size + 1 := by simp
      have hmeas : ∀ w9, RangeE w9 bp R M (done ++ [(e, c)]) → w9.rangeLeft bp R < wr.rangeLeft bp R := fun w9 h9 => by
        have h1 := h9.left_eq
        have h2 := HRG.out.left_eq
        have h3 := HLT.out
        rw [List.length_append] at h1
        simp at h1
        omega
      have HM := Lib.hid hmeas
      have HB3 := Lib.hid hb3
      have HR3 := Lib.hid hr3
      have HO3 := Lib.hid ho3
      obtain ⟨nb, hnb⟩ : ∃ nb, nb = w2.heap.size := ⟨_, rfl⟩
      clear ho2 hb2 hb3 hr3 ho3 hrg1 hlt hg1 hs1 hex htM hZ hRR hmeas
      go_upto_region 5 with fail
      rw [← hnb] at hA ⊢
      have HA := Lib.hid hA
      have HNB := Lib.hid hnb
      clear hA hnb hen
      generalize (w2.alloc (.cells (arrC e) 79)) = w3 at *
      have HW3 : Hid (w3.heap.size = w2.heap.size + 1) := Lib.hid h3s
      clear h3s
      by_cases hc : c = 0
      · have HE : Hid (nzT (done ++ [(e, c)]) = nzT done) := Lib.hid (by rw [nzT_app]; exact if_pos hc)
        have hcb : (c == 0) = true := by simpa using hc
        go_wp2_with fail
        go_roundw
        case rel => exact ⟨A5, n5, c5, _, rfl, by rw [HE.out]; exact HO3.out.wide (Nat.le_refl _) (by have := HW3.out; omega), hn5, HR3.out, HB3.out, by have := HW3.out; have := HLW.out; have := HZ.out; omega⟩
        case measure => exact HM.out _ HR3.out
      · have HE : Hid (nzT (done ++ [(e, c)]) = nzT done ++ [(e, c)]) := Lib.hid (by rw [nzT_app]; exact if_neg hc)
        have hcb : (c == 0) = false := by simpa using hc
        by_cases hfull : n5 = 600
        · have hfI : (n5 : Int) = 600 := by omega
          have HNO := Lib.hid (nz_none HGD.out HND.out HL.out (by have h1 := HNZ.out; rw [HE.out, List.length_append, HO.out.len] at h1; simp at h1; omega))
          subst hfull
          clear hfI
          go_wp2_with fail
          go_ret2
          rw [HNO.out.1, HNO.out.2]
          exact ⟨none, 0, 0, rfl, OwnT.nil _ _ _, by rw [← HRW.out]; exact HB3.out⟩
        · have hfI : ¬ (n5 : Int) = 600 := by omega
          have hsi : SI w3 (some ⟨nb, 0, none⟩) 7 e := ⟨HEX.out.1, fun _ => ⟨nb, 0, rfl, HA.out.lt, fun k hk => by rw [Nat.zero_add, HA.out.cell k]; exact arrC_get e k hk⟩⟩
          have HCL := Lib.hid (clone_any (some ⟨nb, 0, none⟩) 7 7 e w3 hsi (fun h => by cases h) (by omega))
          clear hsi
          go_wp2_with (first
            | (go_at_call 115
               refine HCL.out.mono ?_
               rintro r w4 ⟨A4, n4, c4, rfl, ho4, hb4⟩
               obtain rfl : 7 = n4 := by have := ho4.len; rw [HEX.out.1] at this; exact this
               have HO4 := Lib.hid ho4
               have HB4 := Lib.hid hb4
               clear ho4 hb4)
            | (at_builtin
               refine wpList_appendT _ rfl (.tmp 22) (.tmp 27) rfl (R + 1) w2.heap.size A5 n5 c5 (nzT done) w3.heap.size w4.heap.size A4 7 c4 e c w4.heap.size rfl rfl (Blk.new w4 _ _)
                 ((HO3.out.below HB4.out (by have := HW3.out; omega)).below ((Below.refl w4.heap.size w4).alloc (Nat.le_refl _) _) (by have := HB4.out.size; have := HW3.out; omega)) (HO4.out.below ((Below.refl w4.heap.size w4).alloc (Nat.le_refl _) _) (Nat.le_refl _))
                 (by have := HW3.out; have := HLW.out; have := HZ.out; omega) (by have := HW3.out; omega) (by simp) (by have := HB4.out.size; have := HW3.out; simp; omega) (by have := HB4.out.size; have := HW3.out; have := HLW.out; have := HZ.out; simp; omega) (by omega) ?_
               intro A6 c6 w6 ho6 hb6
               have HO6 := Lib.hid ho6
               have HB6 : Hid (Below (R + 1) w3 w6) := Lib.hid (((HB4.out.mono (by have := HW3.out; have := HLW.out; have := HZ.out; omega)).alloc (by have := HB4.out.size; have := HW3.out; have := HLW.out; have := HZ.out; omega) _).trans hb6)
               clear ho6 hb6)
            | go_in)
          have HR6 := Lib.hid (HR3.out.below HB6.out (by have := HLP.out; have := HRW.out; omega) (by omega))
          go_roundw
          case rel => exact ⟨A6, n5 + 1, c6, _, rfl, by rw [HE.out]; exact HO6.out, by omega, HR6.out, HB3.out.trans (HB6.out.mono (by omega)), by have := HB6.out.size; have := HW3.out; have := HLW.out; have := HZ.out; omega⟩
          case measure => exact HM.out _ HR6.out
end Go.Proofs.Ytmndchhbafkbeaa

/-
  The program's operations on polynomials. Conditions: lengths below 2^40.
-/



namespace Go.Proofs.Ytmndchhbafkbeaa
open Go.RowKit

theorem scale_scale (c z : Int) (F : List Mn) : sameC (scaleM (w64 (c * z)) F) (scaleM c (scaleM z F)) := by
  unfold scaleM
  rw [List.map_map]
  refine sameC_map (fun u : Mn => u.1) (fun u => w64 (w64 (c * z) * u.2)) (fun u => w64 (c * w64 (z * u.2))) F fun u _ => ?_
  refine (w64_eqm _).trans (((w64_eqm _).mul_right u.2).trans ?_)
  rw [Int.mul_assoc]
  exact (((w64_eqm (z * u.2)).mul_left c).symm).trans (w64_eqm _).symm
theorem lin_scale (f : Int → List Mn) (c : Int) : ∀ l : List Mn, sameC (linL f (scaleM c l)) (scaleM c (linL f l))
  | [] => sameC.refl _
  | t :: l => by
    have e1 : linL f (scaleM c (t :: l)) = scaleM (w64 (c * t.2)) (f t.1) ++ linL f (scaleM c l) := rfl
    have e2 : scaleM c (linL f (t :: l)) = scaleM c (scaleM t.2 (f t.1)) ++ scaleM c (linL f l) := by
      rw [show linL f (t :: l) = scaleM t.2 (f t.1) ++ linL f l from rfl, scaleM_app]
    rw [e1, e2]
    exact (scale_scale c t.2 _).app (lin_scale f c l)
theorem iso_same (i : Nat) (l : List Mn) : sameC (isoL i l) (divL i (l ++ scaleM (-1) (shiftL (i + 1) l))) := by
  unfold isoL
  have e : divL i (l ++ scaleM (-1) (shiftL (i + 1) l)) = divL i l ++ divL i (scaleM (-1) (shiftL (i + 1) l)) := linL_app _ _ _
  rw [e]
  exact (sameC.refl _).app (lin_scale _ _ _).symm
theorem polyB_all' {ts : List Tm} (h : polyB ts = true) {n : Nat} (hl : ts.length = n) : (∀ k, k < n → ex7 (tm ts k).1 ∧ in64 (tm ts k).2) ∧ ∀ k, k < n → ∀ j, j < 7 → nth (tm ts k).1 j ≤ 24 :=
  ⟨fun _ hk => ⟨polyB_ex7 h _ (tm_mem (by rw [hl]; exact hk)), (good_in64 (polyB_good' h _ (tm_mem (by rw [hl]; exact hk)))).2⟩, fun _ hk => polyB_cap h _ (tm_mem (by rw [hl]; exact hk))⟩
set_option maxRecDepth 100000 in
set_option maxHeartbeats 1000000 in
theorem applyDividedDifference_any (A : Option Addr) (n c : Nat) (ts : List Tm) (i : Int) (w : World) (hs : TS w A n ts) (hn : n ≤ 1099511627776) (hne : ∀ k, k < n → (tm ts k).1.length ≤ 1099511627776) :
    Calls Try.prog 58 #[.slice A n c, .int .i64 i, .func (.func 59) #[] #[]] w fun r w' => FreshTB w w' r (outB (opOk ts i) (ddP ts i)) (outL (opOk ts i) (ddP ts i)) := by
  have hP := implPolyOk_any A n c ts w hs hn hne
  have hV := fun w => hasPairAt_any i w
  cases hu : polyB ts with
  | false =>
    rw [hu] at hP
    have HE := Lib.hid (outB_no (ok := opOk ts i) (L := ddP ts i) (by unfold opOk; rw [hu]; rfl))
    have HP := Lib.hid hP
    clear hP hu hV
    go_enter Try.func58, Try.ntmps58
    go_wp2_with (go_at_call 69; refine HP.out.mono ?_; rintro e w7 ⟨rfl, hd7⟩; have HD7 := Lib.hid hd7; clear hd7)
    go_ret2
    rw [HE.out.1, HE.out.2]
    exact FreshTB.nil_ret HD7.out
  | true =>
    rw [hu] at hP
    by_cases hi : 0 ≤ i ∧ i ≤ 5
    · have HE := Lib.hid (outB_yes (ok := opOk ts i) (L := ddP ts i) (by unfold opOk; rw [hu, decide_eq_true hi]; rfl))
      obtain ⟨m, rfl⟩ : ∃ m : Nat, i = m := ⟨i.toNat, by omega⟩
      have hm5 : m < 6 := by omega
      have HALL := Lib.hid (polyB_all' hu hs.1)
      rw [decide_eq_true hi] at hV
      have HP := Lib.hid hP
      have HV := Lib.hid hV
      have HSU := Lib.hid (fun w' (hd : Below w.heap.size w w') => sumOf_any A n c ts 24 w' (hs.below hd (Nat.le_refl _)) hn HALL.out.1 HALL.out.2)
      clear hP hu hV hi hs
      go_enter Try.func58, Try.ntmps58
      go_wp2_with (first
        | (go_at_call 69; refine HP.out.mono ?_; rintro e w7 ⟨rfl, hd7⟩; have HD7 := Lib.hid hd7; clear hd7)
        | (go_at_call 100; refine (HV.out _).mono ?_; rintro e w8 ⟨rfl, rfl⟩)
        | (go_at_call 70; refine (HSU.out _ HD7.out).mono ?_; rintro e w1 ⟨g1, b1, M1, rfl, hs1, _, _, hm1, hc1, hb1⟩
           have HS1 := Lib.hid hs1; have HM1 := Lib.hid hm1; have HC1 := Lib.hid hc1
           have HB1 : Hid (Below w.heap.size w w1) := Lib.hid (HD7.out.trans (hb1.mono HD7.out.size))
           clear hs1 hm1 hc1 hb1)
        | (go_at_call 59; refine (divided_any g1 b1 M1 m 24 _ HS1.out HC1.out hm5).mono ?_; rintro e w2 ⟨g2, b2, M2, rfl, hs2, _, _, hm2, hc2, hb2⟩
           have HS2 := Lib.hid hs2
           have HM2 : Hid (sameC (openM M2) (ddP ts (m : Int))) := Lib.hid (hm2.trans (by unfold ddP; rw [Int.toNat_natCast]; exact HM1.out.lin _))
           have HB2 : Hid (Below w.heap.size w w2) := Lib.hid (HB1.out.trans (hb2.mono HB1.out.size))
           clear hs2 hm2 hc2 hb2)
        | (go_at_call 72; refine (terms_any g2 b2 M2 (ddP ts (m : Int)) _ HS2.out HM2.out).mono ?_; rintro e w3 ⟨A3, n3, c3, rfl, ho, hb⟩
           have HB3 : Hid (Below w.heap.size w w3) := Lib.hid (HB2.out.trans (hb.mono HB2.out.size))
           have HO3 := Lib.hid ho
           have HZ3 := Lib.hid HB2.out.size
           clear ho hb))
      go_ret2
      rw [HE.out.1, HE.out.2]
      exact ⟨A3, n3, c3, rfl, HO3.out.wide HZ3.out (Nat.le_refl _), HB3.out⟩
    · have HE := Lib.hid (outB_no (ok := opOk ts i) (L := ddP ts i) (by unfold opOk; rw [decide_eq_false hi, Bool.and_false]))
      rw [decide_eq_false hi] at hV
      have HP := Lib.hid hP
      have HV := Lib.hid hV
      clear hP hu hV hi
      go_enter Try.func58, Try.ntmps58
      go_wp2_with (first
        | (go_at_call 69; refine HP.out.mono ?_; rintro e w7 ⟨rfl, hd7⟩; have HD7 := Lib.hid hd7; clear hd7)
        | (go_at_call 100; refine (HV.out _).mono ?_; rintro e w8 ⟨rfl, rfl⟩))
      go_ret2
      rw [HE.out.1, HE.out.2]
      exact FreshTB.nil_ret HD7.out
set_option maxHeartbeats 400000 in
theorem implDividedDifference_any (A : Option Addr) (n c : Nat) (ts : List Tm) (i : Int) (w : World) (hs : TS w A n ts) (hn : n ≤ 1099511627776) (hne : ∀ k, k < n → (tm ts k).1.length ≤ 1099511627776) :
    Calls Try.prog 18 #[.slice A n c, .int .i64 i] w fun r w' => FreshTB w w' r (outB (opOk ts i) (ddP ts i)) (outL (opOk ts i) (ddP ts i)) := by
  have HC := Lib.hid (applyDividedDifference_any A n c ts i w hs hn hne)
  obtain ⟨bb, hbb⟩ : ∃ bb, bb = outB (opOk ts i) (ddP ts i) := ⟨_, rfl⟩
  rw [← hbb] at HC ⊢
  clear hs hn hne hbb
  go_enter Try.func18, Try.ntmps18
  go_wp2_with (go_at_call 58; refine HC.out.mono ?_; rintro e w3 ⟨A3, n3, c3, rfl, ho, hb⟩; have HO3 := Lib.hid ho; have HB3 := Lib.hid hb; clear ho hb)
  go_ret2
  exact ⟨A3, n3, c3, rfl, HO3.out, HB3.out⟩
set_option maxRecDepth 100000 in
set_option maxHeartbeats 1000000 in
theorem applyDemazureOf_any (A : Option Addr) (n c : Nat) (ts : List Tm) (i : Int) (w : World) (hs : TS w A n ts) (hn : n ≤ 1099511627776) (hne : ∀ k, k < n → (tm ts k).1.length ≤ 1099511627776) :
    Calls Try.prog 58 #[.slice A n c, .int .i64 i, .func (.func 63) #[] #[]] w fun r w' => FreshTB w w' r (outB (opOk ts i) (deP ts i)) (outL (opOk ts i) (deP ts i)) := by
  have hP := implPolyOk_any A n c ts w hs hn hne
  have hV := fun w => hasPairAt_any i w
  cases hu : polyB ts with
  | false =>
    rw [hu] at hP
    have HE := Lib.hid (outB_no (ok := opOk ts i) (L := deP ts i) (by unfold opOk; rw [hu]; rfl))
    have HP := Lib.hid hP
    clear hP hu hV
    go_enter Try.func58, Try.ntmps58
    go_wp2_with (go_at_call 69; refine HP.out.mono ?_; rintro e w7 ⟨rfl, hd7⟩; have HD7 := Lib.hid hd7; clear hd7)
    go_ret2
    rw [HE.out.1, HE.out.2]
    exact FreshTB.nil_ret HD7.out
  | true =>
    rw [hu] at hP
    by_cases hi : 0 ≤ i ∧ i ≤ 5
    · have HE := Lib.hid (outB_yes (ok := opOk ts i) (L := deP ts i) (by unfold opOk; rw [hu, decide_eq_true hi]; rfl))
      obtain ⟨m, rfl⟩ : ∃ m : Nat, i = m := ⟨i.toNat, by omega⟩
      have hm5 : m < 6 := by omega
      have HALL := Lib.hid (polyB_all' hu hs.1)
      rw [decide_eq_true hi] at hV
      have HP := Lib.hid hP
      have HV := Lib.hid hV
      have HSU := Lib.hid (fun w' (hd : Below w.heap.size w w') => sumOf_any A n c ts 24 w' (hs.below hd (Nat.le_refl _)) hn HALL.out.1 HALL.out.2)
      clear hP hu hV hi hs
      go_enter Try.func58, Try.ntmps58
      go_wp2_with (first
        | (go_at_call 69; refine HP.out.mono ?_; rintro e w7 ⟨rfl, hd7⟩; have HD7 := Lib.hid hd7; clear hd7)
        | (go_at_call 100; refine (HV.out _).mono ?_; rintro e w8 ⟨rfl, rfl⟩)
        | (go_at_call 70; refine (HSU.out _ HD7.out).mono ?_; rintro e w1 ⟨g1, b1, M1, rfl, hs1, _, _, hm1, hc1, hb1⟩
           have HS1 := Lib.hid hs1; have HM1 := Lib.hid hm1; have HC1 := Lib.hid hc1
           have HB1 : Hid (Below w.heap.size w w1) := Lib.hid (HD7.out.trans (hb1.mono HD7.out.size))
           clear hs1 hm1 hc1 hb1)
        | (go_at_call 63; refine (demazure_any g1 b1 M1 m 24 _ HS1.out HC1.out (by omega) hm5).mono ?_; rintro e w2 ⟨g2, b2, M2, rfl, hs2, _, _, hm2, hc2, hb2⟩
           have HS2 := Lib.hid hs2
           have HM2 : Hid (sameC (openM M2) (deP ts (m : Int))) := Lib.hid (hm2.trans (by unfold deP; rw [Int.toNat_natCast]; exact HM1.out.dem m))
           have HB2 : Hid (Below w.heap.size w w2) := Lib.hid (HB1.out.trans (hb2.mono HB1.out.size))
           clear hs2 hm2 hc2 hb2)
        | (go_at_call 72; refine (terms_any g2 b2 M2 (deP ts (m : Int)) _ HS2.out HM2.out).mono ?_; rintro e w3 ⟨A3, n3, c3, rfl, ho, hb⟩
           have HB3 : Hid (Below w.heap.size w w3) := Lib.hid (HB2.out.trans (hb.mono HB2.out.size))
           have HO3 := Lib.hid ho
           have HZ3 := Lib.hid HB2.out.size
           clear ho hb))
      go_ret2
      rw [HE.out.1, HE.out.2]
      exact ⟨A3, n3, c3, rfl, HO3.out.wide HZ3.out (Nat.le_refl _), HB3.out⟩
    · have HE := Lib.hid (outB_no (ok := opOk ts i) (L := deP ts i) (by unfold opOk; rw [decide_eq_false hi, Bool.and_false]))
      rw [decide_eq_false hi] at hV
      have HP := Lib.hid hP
      have HV := Lib.hid hV
      clear hP hu hV hi
      go_enter Try.func58, Try.ntmps58
      go_wp2_with (first
        | (go_at_call 69; refine HP.out.mono ?_; rintro e w7 ⟨rfl, hd7⟩; have HD7 := Lib.hid hd7; clear hd7)
        | (go_at_call 100; refine (HV.out _).mono ?_; rintro e w8 ⟨rfl, rfl⟩))
      go_ret2
      rw [HE.out.1, HE.out.2]
      exact FreshTB.nil_ret HD7.out
set_option maxHeartbeats 400000 in
theorem implDemazureOf_any (A : Option Addr) (n c : Nat) (ts : List Tm) (i : Int) (w : World) (hs : TS w A n ts) (hn : n ≤ 1099511627776) (hne : ∀ k, k < n → (tm ts k).1.length ≤ 1099511627776) :
    Calls Try.prog 23 #[.slice A n c, .int .i64 i] w fun r w' => FreshTB w w' r (outB (opOk ts i) (deP ts i)) (outL (opOk ts i) (deP ts i)) := by
  have HC := Lib.hid (applyDemazureOf_any A n c ts i w hs hn hne)
  obtain ⟨bb, hbb⟩ : ∃ bb, bb = outB (opOk ts i) (deP ts i) := ⟨_, rfl⟩
  rw [← hbb] at HC ⊢
  clear hs hn hne hbb
  go_enter Try.func23, Try.ntmps23
  go_wp2_with (go_at_call 58; refine HC.out.mono ?_; rintro e w3 ⟨A3, n3, c3, rfl, ho, hb⟩; have HO3 := Lib.hid ho; have HB3 := Lib.hid hb; clear ho hb)
  go_ret2
  exact ⟨A3, n3, c3, rfl, HO3.out, HB3.out⟩
set_option maxRecDepth 100000 in
set_option maxHeartbeats 1000000 in
theorem applyAtomOf_any (A : Option Addr) (n c : Nat) (ts : List Tm) (i : Int) (w : World) (hs : TS w A n ts) (hn : n ≤ 1099511627776) (hne : ∀ k, k < n → (tm ts k).1.length ≤ 1099511627776) :
    Calls Try.prog 58 #[.slice A n c, .int .i64 i, .func (.func 65) #[] #[]] w fun r w' => FreshTB w w' r (outB (opOk ts i) (atP ts i)) (outL (opOk ts i) (atP ts i)) := by
  have hP := implPolyOk_any A n c ts w hs hn hne
  have hV := fun w => hasPairAt_any i w
  cases hu : polyB ts with
  | false =>
    rw [hu] at hP
    have HE := Lib.hid (outB_no (ok := opOk ts i) (L := atP ts i) (by unfold opOk; rw [hu]; rfl))
    have HP := Lib.hid hP
    clear hP hu hV
    go_enter Try.func58, Try.ntmps58
    go_wp2_with (go_at_call 69; refine HP.out.mono ?_; rintro e w7 ⟨rfl, hd7⟩; have HD7 := Lib.hid hd7; clear hd7)
    go_ret2
    rw [HE.out.1, HE.out.2]
    exact FreshTB.nil_ret HD7.out
  | true =>
    rw [hu] at hP
    by_cases hi : 0 ≤ i ∧ i ≤ 5
    · have HE := Lib.hid (outB_yes (ok := opOk ts i) (L := atP ts i) (by unfold opOk; rw [hu, decide_eq_true hi]; rfl))
      obtain ⟨m, rfl⟩ : ∃ m : Nat, i = m := ⟨i.toNat, by omega⟩
      have hm5 : m < 6 := by omega
      have HALL := Lib.hid (polyB_all' hu hs.1)
      rw [decide_eq_true hi] at hV
      have HP := Lib.hid hP
      have HV := Lib.hid hV
      have HSU := Lib.hid (fun w' (hd : Below w.heap.size w w') => sumOf_any A n c ts 24 w' (hs.below hd (Nat.le_refl _)) hn HALL.out.1 HALL.out.2)
      clear hP hu hV hi hs
      go_enter Try.func58, Try.ntmps58
      go_wp2_with (first
        | (go_at_call 69; refine HP.out.mono ?_; rintro e w7 ⟨rfl, hd7⟩; have HD7 := Lib.hid hd7; clear hd7)
        | (go_at_call 100; refine (HV.out _).mono ?_; rintro e w8 ⟨rfl, rfl⟩)
        | (go_at_call 70; refine (HSU.out _ HD7.out).mono ?_; rintro e w1 ⟨g1, b1, M1, rfl, hs1, _, _, hm1, hc1, hb1⟩
           have HS1 := Lib.hid hs1; have HM1 := Lib.hid hm1; have HC1 := Lib.hid hc1
           have HB1 : Hid (Below w.heap.size w w1) := Lib.hid (HD7.out.trans (hb1.mono HD7.out.size))
           clear hs1 hm1 hc1 hb1)
        | (go_at_call 65; refine (atom_any g1 b1 M1 m 24 _ HS1.out HC1.out (by omega) hm5).mono ?_; rintro e w2 ⟨g2, b2, M2, rfl, hs2, _, _, hm2, hc2, hb2⟩
           have HS2 := Lib.hid hs2
           have HM2 : Hid (sameC (openM M2) (atP ts (m : Int))) := Lib.hid (hm2.trans (by unfold atP; rw [Int.toNat_natCast]; exact (HM1.out.dem m).app (HM1.out.scale (-1))))
           have HB2 : Hid (Below w.heap.size w w2) := Lib.hid (HB1.out.trans (hb2.mono HB1.out.size))
           clear hs2 hm2 hc2 hb2)
        | (go_at_call 72; refine (terms_any g2 b2 M2 (atP ts (m : Int)) _ HS2.out HM2.out).mono ?_; rintro e w3 ⟨A3, n3, c3, rfl, ho, hb⟩
           have HB3 : Hid (Below w.heap.size w w3) := Lib.hid (HB2.out.trans (hb.mono HB2.out.size))
           have HO3 := Lib.hid ho
           have HZ3 := Lib.hid HB2.out.size
           clear ho hb))
      go_ret2
      rw [HE.out.1, HE.out.2]
      exact ⟨A3, n3, c3, rfl, HO3.out.wide HZ3.out (Nat.le_refl _), HB3.out⟩
    · have HE := Lib.hid (outB_no (ok := opOk ts i) (L := atP ts i) (by unfold opOk; rw [decide_eq_false hi, Bool.and_false]))
      rw [decide_eq_false hi] at hV
      have HP := Lib.hid hP
      have HV := Lib.hid hV
      clear hP hu hV hi
      go_enter Try.func58, Try.ntmps58
      go_wp2_with (first
        | (go_at_call 69; refine HP.out.mono ?_; rintro e w7 ⟨rfl, hd7⟩; have HD7 := Lib.hid hd7; clear hd7)
        | (go_at_call 100; refine (HV.out _).mono ?_; rintro e w8 ⟨rfl, rfl⟩))
      go_ret2
      rw [HE.out.1, HE.out.2]
      exact FreshTB.nil_ret HD7.out
set_option maxHeartbeats 400000 in
theorem implAtomOf_any (A : Option Addr) (n c : Nat) (ts : List Tm) (i : Int) (w : World) (hs : TS w A n ts) (hn : n ≤ 1099511627776) (hne : ∀ k, k < n → (tm ts k).1.length ≤ 1099511627776) :
    Calls Try.prog 25 #[.slice A n c, .int .i64 i] w fun r w' => FreshTB w w' r (outB (opOk ts i) (atP ts i)) (outL (opOk ts i) (atP ts i)) := by
  have HC := Lib.hid (applyAtomOf_any A n c ts i w hs hn hne)
  obtain ⟨bb, hbb⟩ : ∃ bb, bb = outB (opOk ts i) (atP ts i) := ⟨_, rfl⟩
  rw [← hbb] at HC ⊢
  clear hs hn hne hbb
  go_enter Try.func25, Try.ntmps25
  go_wp2_with (go_at_call 58; refine HC.out.mono ?_; rintro e w3 ⟨A3, n3, c3, rfl, ho, hb⟩; have HO3 := Lib.hid ho; have HB3 := Lib.hid hb; clear ho hb)
  go_ret2
  exact ⟨A3, n3, c3, rfl, HO3.out, HB3.out⟩
set_option maxRecDepth 100000 in
set_option maxHeartbeats 1000000 in
theorem applyIsobaricOf_any (A : Option Addr) (n c : Nat) (ts : List Tm) (i : Int) (w : World) (hs : TS w A n ts) (hn : n ≤ 1099511627776) (hne : ∀ k, k < n → (tm ts k).1.length ≤ 1099511627776) :
    Calls Try.prog 58 #[.slice A n c, .int .i64 i, .func (.func 67) #[] #[]] w fun r w' => FreshTB w w' r (outB (opOk ts i) (isP ts i)) (outL (opOk ts i) (isP ts i)) := by
  have hP := implPolyOk_any A n c ts w hs hn hne
  have hV := fun w => hasPairAt_any i w
  cases hu : polyB ts with
  | false =>
    rw [hu] at hP
    have HE := Lib.hid (outB_no (ok := opOk ts i) (L := isP ts i) (by unfold opOk; rw [hu]; rfl))
    have HP := Lib.hid hP
    clear hP hu hV
    go_enter Try.func58, Try.ntmps58
    go_wp2_with (go_at_call 69; refine HP.out.mono ?_; rintro e w7 ⟨rfl, hd7⟩; have HD7 := Lib.hid hd7; clear hd7)
    go_ret2
    rw [HE.out.1, HE.out.2]
    exact FreshTB.nil_ret HD7.out
  | true =>
    rw [hu] at hP
    by_cases hi : 0 ≤ i ∧ i ≤ 5
    · have HE := Lib.hid (outB_yes (ok := opOk ts i) (L := isP ts i) (by unfold opOk; rw [hu, decide_eq_true hi]; rfl))
      obtain ⟨m, rfl⟩ : ∃ m : Nat, i = m := ⟨i.toNat, by omega⟩
      have hm5 : m < 6 := by omega
      have HALL := Lib.hid (polyB_all' hu hs.1)
      rw [decide_eq_true hi] at hV
      have HP := Lib.hid hP
      have HV := Lib.hid hV
      have HSU := Lib.hid (fun w' (hd : Below w.heap.size w w') => sumOf_any A n c ts 24 w' (hs.below hd (Nat.le_refl _)) hn HALL.out.1 HALL.out.2)
      clear hP hu hV hi hs
      go_enter Try.func58, Try.ntmps58
      go_wp2_with (first
        | (go_at_call 69; refine HP.out.mono ?_; rintro e w7 ⟨rfl, hd7⟩; have HD7 := Lib.hid hd7; clear hd7)
        | (go_at_call 100; refine (HV.out _).mono ?_; rintro e w8 ⟨rfl, rfl⟩)
        | (go_at_call 70; refine (HSU.out _ HD7.out).mono ?_; rintro e w1 ⟨g1, b1, M1, rfl, hs1, _, _, hm1, hc1, hb1⟩
           have HS1 := Lib.hid hs1; have HM1 := Lib.hid hm1; have HC1 := Lib.hid hc1
           have HB1 : Hid (Below w.heap.size w w1) := Lib.hid (HD7.out.trans (hb1.mono HD7.out.size))
           clear hs1 hm1 hc1 hb1)
        | (go_at_call 67; refine (isobaric_any g1 b1 M1 m 24 _ HS1.out HC1.out (by omega) hm5).mono ?_; rintro e w2 ⟨g2, b2, M2, rfl, hs2, _, _, hm2, hc2, hb2⟩
           have HS2 := Lib.hid hs2
           have HM2 : Hid (sameC (openM M2) (isP ts (m : Int))) := Lib.hid (hm2.trans (by unfold isP; rw [Int.toNat_natCast]; exact (iso_same m _).trans (((HM1.out).app ((HM1.out.lin _).scale (-1))).lin _)))
           have HB2 : Hid (Below w.heap.size w w2) := Lib.hid (HB1.out.trans (hb2.mono HB1.out.size))
           clear hs2 hm2 hc2 hb2)
        | (go_at_call 72; refine (terms_any g2 b2 M2 (isP ts (m : Int)) _ HS2.out HM2.out).mono ?_; rintro e w3 ⟨A3, n3, c3, rfl, ho, hb⟩
           have HB3 : Hid (Below w.heap.size w w3) := Lib.hid (HB2.out.trans (hb.mono HB2.out.size))
           have HO3 := Lib.hid ho
           have HZ3 := Lib.hid HB2.out.size
           clear ho hb))
      go_ret2
      rw [HE.out.1, HE.out.2]
      exact ⟨A3, n3, c3, rfl, HO3.out.wide HZ3.out (Nat.le_refl _), HB3.out⟩
    · have HE := Lib.hid (outB_no (ok := opOk ts i) (L := isP ts i) (by unfold opOk; rw [decide_eq_false hi, Bool.and_false]))
      rw [decide_eq_false hi] at hV
      have HP := Lib.hid hP
      have HV := Lib.hid hV
      clear hP hu hV hi
      go_enter Try.func58, Try.ntmps58
      go_wp2_with (first
        | (go_at_call 69; refine HP.out.mono ?_; rintro e w7 ⟨rfl, hd7⟩; have HD7 := Lib.hid hd7; clear hd7)
        | (go_at_call 100; refine (HV.out _).mono ?_; rintro e w8 ⟨rfl, rfl⟩))
      go_ret2
      rw [HE.out.1, HE.out.2]
      exact FreshTB.nil_ret HD7.out
set_option maxHeartbeats 400000 in
theorem implIsobaricOf_any (A : Option Addr) (n c : Nat) (ts : List Tm) (i : Int) (w : World) (hs : TS w A n ts) (hn : n ≤ 1099511627776) (hne : ∀ k, k < n → (tm ts k).1.length ≤ 1099511627776) :
    Calls Try.prog 27 #[.slice A n c, .int .i64 i] w fun r w' => FreshTB w w' r (outB (opOk ts i) (isP ts i)) (outL (opOk ts i) (isP ts i)) := by
  have HC := Lib.hid (applyIsobaricOf_any A n c ts i w hs hn hne)
  obtain ⟨bb, hbb⟩ : ∃ bb, bb = outB (opOk ts i) (isP ts i) := ⟨_, rfl⟩
  rw [← hbb] at HC ⊢
  clear hs hn hne hbb
  go_enter Try.func27, Try.ntmps27
  go_wp2_with (go_at_call 58; refine HC.out.mono ?_; rintro e w3 ⟨A3, n3, c3, rfl, ho, hb⟩; have HO3 := Lib.hid ho; have HB3 := Lib.hid hb; clear ho hb)
  go_ret2
  exact ⟨A3, n3, c3, rfl, HO3.out, HB3.out⟩
end Go.Proofs.Ytmndchhbafkbeaa

/-
  Schubert and Grothendieck polynomials on both sides. Conditions: lengths below 2^40.
-/




namespace Go.Proofs.Ytmndchhbafkbeaa
open Go.RowKit

set_option maxRecDepth 100000 in
set_option maxHeartbeats 1000000 in
theorem specSchubert_any (A : Option Addr) (n c : Nat) (xs : List Int) (w : World) (hs : SI w A n xs) (hnc : n ≤ c) (hn : n ≤ 1099511627776) :
    Calls Try.prog 32 #[.slice A n c] w fun r w' => FreshTB w w' r (outB (isPermB xs) (dscL divL (schE xs))) (outL (isPermB xs) (dscL divL (schE xs))) := by
  have hP := specIsPerm_any A n c xs w hs hnc hn
  cases hu : isPermB xs with
  | false =>
    rw [hu] at hP
    have HE := Lib.hid (outB_no (ok := false) (L := dscL divL (schE xs)) rfl)
    have HP := Lib.hid hP
    clear hP hu
    go_enter Try.func32, Try.ntmps32
    go_wp2_with (go_at_call 75; refine HP.out.mono ?_; rintro e w7 ⟨rfl, hd7⟩; have HD7 := Lib.hid hd7; clear hd7)
    go_ret2
    rw [HE.out.1, HE.out.2]
    exact FreshTB.nil_ret (HD7.out.below _)
  | true =>
    rw [hu] at hP
    have HE := Lib.hid (outB_yes (ok := true) (L := dscL divL (schE xs)) rfl)
    have HP := Lib.hid hP
    have hx := trim_pad (isPermB_P hu)
    have HF := Lib.hid (FoldS.facts (opK_div 6) (Int.le_refl _) (upL_small hx.1) (capK.one (endL_ex7 hx.1) (endL_cap hx.1 hx.2) 1) 0)
    have HS := Lib.hid (fun w' (hd : Drawn w w') => l3Schubert_any A n c xs w' (hs.below (hd.below _) (Nat.le_refl _)) hnc hu)
    clear hP hu hx
    go_enter Try.func32, Try.ntmps32
    go_wp2_with (first
      | (go_at_call 75; refine HP.out.mono ?_; rintro e w7 ⟨rfl, hd7⟩; have HD7 := Lib.hid hd7; clear hd7)
      | (go_at_call 76; refine (HS.out _ HD7.out).mono ?_; rintro e w3 ⟨A3, n3, c3, rfl, ho, hb⟩
         have HN3 : Hid (n3 ≤ 823543) := Lib.hid (by rw [← ho.len]; exact HF.out.2.1)
         have HB3 : Hid (Below w.heap.size w w3) := Lib.hid ((HD7.out.below _).trans (hb.mono (HD7.out.below w.heap.size).size))
         have HO3 := Lib.hid ho
         clear ho hb)
      | (go_at_call 54; refine (l2Shut_any A3 n3 c3 _ _ HO3.out.si (by have := HN3.out; omega) HF.out.1.in49).mono ?_; rintro e w5 ⟨A5, n5, c5, rfl, ho, hb⟩
         have HB5 : Hid (Below w.heap.size w w5) := Lib.hid (HB3.out.trans (hb.mono HB3.out.size))
         have HO5 := Lib.hid ho
         have HZ5 := Lib.hid HB3.out.size
         clear ho hb))
    go_ret2
    rw [HE.out.1, HE.out.2]
    exact ⟨A5, n5, c5, rfl, HO5.out.wide HZ5.out (Nat.le_refl _), HB5.out⟩
set_option maxRecDepth 100000 in
set_option maxHeartbeats 1000000 in
theorem schubertSum_any (A : Option Addr) (n c : Nat) (xs : List Int) (w : World) (hs : SI w A n xs) (hn : n ≤ 1099511627776) (hp : isPermB xs = true) :
    Calls Try.prog 78 #[.slice A n c] w fun r w' => FreshS w w' r 6 (dscL divL (schE xs)) := by
  have hx := trim_pad (isPermB_P hp)
  have HTR := Lib.hid (implTrim_any A n c xs w hs hn)
  have HST := Lib.hid (schE_trim hp)
  have HX := Lib.hid hx
  have HXL : Hid ((trimPerm xs).length ≤ 7) := Lib.hid (by rw [trimPerm_yes hp, List.length_take]; have := (isPermB_P hp).2.1; omega)
  clear hx hp hs
  go_enter Try.func78, Try.ntmps78
  go_wp2_with (first
    | (go_at_call 119
       refine HTR.out.mono ?_
       rintro e w1 ⟨A1, n1, c1, rfl, ho1, hb1⟩
       have HO1 := Lib.hid ho1
       have HB1 := Lib.hid hb1
       have HN1 : Hid (n1 ≤ 7) := Lib.hid (by rw [← ho1.len]; exact HXL.out)
       clear ho1 hb1)
    | (go_at_call 82
       refine (withZeros_any A1 n1 c1 (trimPerm xs) _ HO1.out.si HN1.out).mono ?_
       rintro e w2 ⟨rfl, hb2⟩
       rw [HST.out]
       have HB2 : Hid (Below w.heap.size w w2) := Lib.hid (HB1.out.trans (hb2.mono HB1.out.size))
       clear hb2)
    | (go_at_call 81
       refine (descend_div 6 2668 (schE xs) _ HX.out.1 HX.out.2 (by have := (swU_cases HX.out.1 (k := 0) (by omega)).2.2.2; show mu7 (padN 7 _) < _; omega) (by decide)).mono ?_
       rintro e w3 ⟨g3, b3, M3, rfl, hs3, hg3, hb3, hm3, hc3, hl3⟩
       have HS3 := Lib.hid hs3
       have HM3 := Lib.hid hm3
       have HC3 := Lib.hid hc3
       have HG3 : Hid (w.heap.size ≤ g3 ∧ w.heap.size ≤ b3) := Lib.hid ⟨Nat.le_trans HB2.out.size hg3, Nat.le_trans HB2.out.size hb3⟩
       have HB3 : Hid (Below w.heap.size w w3) := Lib.hid (HB2.out.trans (hl3.mono HB2.out.size))
       clear hs3 hg3 hb3 hm3 hc3 hl3)
    | go_in)
  go_ret
  exact ⟨g3, b3, M3, rfl, HS3.out, HG3.out.1, HG3.out.2, HM3.out, HC3.out, HB3.out⟩
set_option maxRecDepth 100000 in
set_option maxHeartbeats 1000000 in
theorem implSchubert_any (A : Option Addr) (n c : Nat) (xs : List Int) (w : World) (hs : SI w A n xs) (hn : n ≤ 1099511627776) :
    Calls Try.prog 34 #[.slice A n c] w fun r w' => FreshTB w w' r (outB (isPermB xs) (dscL divL (schE xs))) (outL (isPermB xs) (dscL divL (schE xs))) := by
  have hP := implIsPerm_any A n c xs w hs hn
  cases hu : isPermB xs with
  | false =>
    rw [hu] at hP
    have HE := Lib.hid (outB_no (ok := false) (L := dscL divL (schE xs)) rfl)
    have HP := Lib.hid hP
    clear hP hu
    go_enter Try.func34, Try.ntmps34
    go_wp2_with (go_at_call 77; refine HP.out.mono ?_; rintro e w7 ⟨rfl, hd7⟩; have HD7 := Lib.hid hd7; clear hd7)
    go_ret2
    rw [HE.out.1, HE.out.2]
    exact FreshTB.nil_ret HD7.out
  | true =>
    rw [hu] at hP
    have HE := Lib.hid (outB_yes (ok := true) (L := dscL divL (schE xs)) rfl)
    have HP := Lib.hid hP
    have HS := Lib.hid (fun w' (hd : Below w.heap.size w w') => schubertSum_any A n c xs w' (hs.below hd (Nat.le_refl _)) hn hu)
    clear hP hu
    go_enter Try.func34, Try.ntmps34
    go_wp2_with (first
      | (go_at_call 77; refine HP.out.mono ?_; rintro e w7 ⟨rfl, hd7⟩; have HD7 := Lib.hid hd7; clear hd7)
      | (go_at_call 78; refine (HS.out _ HD7.out).mono ?_; rintro e w2 ⟨g2, b2, M2, rfl, hs2, _, _, hm2, hc2, hb2⟩
         have HS2 := Lib.hid hs2
         have HM2 := Lib.hid hm2
         have HB2 : Hid (Below w.heap.size w w2) := Lib.hid (HD7.out.trans (hb2.mono HD7.out.size))
         clear hs2 hm2 hc2 hb2)
      | (go_at_call 72; refine (terms_any g2 b2 M2 _ _ HS2.out HM2.out).mono ?_; rintro e w3 ⟨A3, n3, c3, rfl, ho, hb⟩
         have HB3 : Hid (Below w.heap.size w w3) := Lib.hid (HB2.out.trans (hb.mono HB2.out.size))
         have HO3 := Lib.hid ho
         have HZ3 := Lib.hid HB2.out.size
         clear ho hb))
    go_ret2
    rw [HE.out.1, HE.out.2]
    exact ⟨A3, n3, c3, rfl, HO3.out.wide HZ3.out (Nat.le_refl _), HB3.out⟩
end Go.Proofs.Ytmndchhbafkbeaa

/-
  Opening a slice of integers that came in; closed facts of this dump. No conditions.
-/




namespace Go.Proofs.Ytmndchhbafkbeaa
open Go.ChangeShapes Go.WideShapes Go.ChangeAt Go.RowKit

theorem own : ownKnob Try.prog.godebug = none := by kernel_rfl
theorem laidOut : laidOutB Try.prog = true := by kernel_rfl

/-- What an opened slice of integers gives: it reads as its numbers. -/
theorem SI.of_cells {w : World} {a : Addr} {n : Nat} {zs : List Int} (hl : n ≤ zs.length) (hc : ∀ i, i < zs.length → w.cell? (a.add i) = some (.int .i64 (zs.getD i 0))) : SI w (some a) n (zs.take n) := by
  refine ⟨by simp; omega, fun hn => ?_⟩
  obtain ⟨b, o, s⟩ := a
  have h0 := hc 0 (by omega)
  have hs : s = none := by simpa [Addr.add] using World.cell?_spot h0
  subst hs
  refine ⟨b, o, rfl, block_lt_of_cell (a := ⟨b, o, none⟩) (by simpa [Addr.add] using h0), fun k hk => ?_⟩
  rw [nth_take hk, ← add_pt]
  exact hc k (by omega)

/-- Every number fits an int. -/
def Fits (xs : List Int) : Prop := ∀ x ∈ xs, -9223372036854775808 ≤ x ∧ x ≤ 9223372036854775807
theorem SI.of_trod {H : Type} {enc : TypeId × Value → H} {W : World} {q : Nat} {f : Nat → Bool} {a0 : Option Addr} {len0 cap0 : Nat} {d : DataW H} {p : List MemPlace}
    (h0 : DataW.Trod enc Try.prog W q f true 35 (.slice a0 len0 cap0) d p) : ∃ xs, SI W a0 len0 xs ∧ Fits xs := by
  obtain ⟨fuel, hf⟩ := h0
  rcases open_ints Try.underlying35 Try.underlying3 (by kernel_rfl) hf with ⟨hcs, _⟩ | ⟨x, l, c, zs, hcs, _, hl, hm, hz, _, hcell, hwz⟩
  · simp [Value.cells] at hcs
    obtain ⟨rfl, rfl, rfl⟩ := hcs
    exact ⟨[], SI.nil _ _, fun x hx => by cases hx⟩
  · simp [Value.cells] at hcs
    obtain ⟨rfl, rfl, rfl⟩ := hcs
    exact ⟨_, SI.of_cells (by rw [hz]; split <;> omega) hcell, fun n hn => bounds_i64 (hwz n (List.mem_of_mem_take hn))⟩
end Go.Proofs.Ytmndchhbafkbeaa

/-
  Opening a slice of terms that came in. No conditions.
-/



namespace Go.Proofs.Ytmndchhbafkbeaa
open Go.ChangeShapes Go.WideShapes Go.ChangeAt Go.RowKit

theorem TS.of_trod {H : Type} {enc : TypeId × Value → H} {W : World} {q : Nat} {f : Nat → Bool} {a0 : Option Addr} {len0 cap0 : Nat} {d : DataW H} {p : List MemPlace}
    (h0 : DataW.Trod enc Try.prog W q f true 22 (.slice a0 len0 cap0) d p) : ∃ ts, TS W a0 len0 ts ∧ len0 ≤ 9223372036854775807 ∧ (∀ k, k < len0 → (tm ts k).1.length ≤ 9223372036854775807) := by
  obtain ⟨fuel, hf⟩ := h0
  rcases Go.Deep.open_slice_pairs Try.underlying22 Try.underlying53 (by kernel_rfl) rfl rfl (by kernel_rfl) (by kernel_rfl) hf with ⟨hcs, _⟩ | ⟨a, len, cap, m, n, V0, V1, D0, D1, P0, P1, hcs, hb, hl, hm, hmm, _, hx⟩
  · simp [Value.cells] at hcs
    obtain ⟨rfl, rfl, rfl⟩ := hcs
    exact ⟨[], TS.nil _ _, by omega, fun k hk => absurd hk (by omega)⟩
  · simp [Value.cells] at hcs
    obtain ⟨rfl, rfl, rfl⟩ := hcs
    have hlm : len0 ≤ m := by rw [hmm]; split <;> omega
    have each : ∀ i, i < len0 → ∃ t : Tm, ∃ A' n' c', V0 i = .slice A' n' c' ∧ V1 i = .int .i64 t.2 ∧ SI W A' n' t.1 ∧ n' ≤ c' ∧ (A' = none → n' = 0 ∧ c' = 0) ∧ n' ≤ 9223372036854775807 := by
      intro i hi
      obtain ⟨h1, h2, h3, h4⟩ := hx i (by omega)
      obtain ⟨z, hz, _, _⟩ := DataW.trod_int Try.underlying3 h4
      rcases open_ints Try.underlying35 Try.underlying3 (by kernel_rfl) h3 with ⟨hcs, _⟩ | ⟨x, l, c, zs, hcs, _, hl, hm, hzs, _, hcell, _⟩
      · exact ⟨([], z), none, 0, 0, by simpa using hcs, by simpa using hz, SI.nil _ _, Nat.le_refl _, (fun _ => ⟨rfl, rfl⟩), by omega⟩
      · exact ⟨(zs.take l, z), some x, l, c, by simpa using hcs, by simpa using hz, SI.of_cells (by rw [hzs]; split <;> omega) hcell, hl, (fun h => by cases h), by unfold maxLen at hm; omega⟩
    obtain ⟨T, hT⟩ := Go.Deep.choose_lt each
    refine ⟨(List.range len0).map T, ⟨by simp, fun hn => ?_⟩, by unfold maxLen at hm; omega, fun k hk => ?_⟩
    · obtain ⟨b, o, s⟩ := a
      obtain ⟨h1, _⟩ := hx 0 (by omega)
      have hs : s = none := by simpa [Addr.add] using World.cell?_spot h1
      subst hs
      refine ⟨b, o, rfl, block_lt_of_cell (a := ⟨b, o, none⟩) (by simpa [Addr.add] using h1), fun k hk => ?_⟩
      obtain ⟨A', n', c', e0, e1, hsi, hnc, hnil, _⟩ := hT k hk
      obtain ⟨h1, h2, _, _⟩ := hx k (by omega)
      rw [add_pt] at h1 h2
      have et : tm ((List.range len0).map T) k = T k := by simp [tm, List.getD, hk]
      rw [et]
      exact ⟨A', n', c', by rw [h1, e0], by rw [← e1, ← h2]; rfl, hsi, hnc, hnil⟩
    · obtain ⟨A', n', c', _, _, hsi, _, _, hle⟩ := hT k hk
      have et : tm ((List.range len0).map T) k = T k := by simp [tm, List.getD, hk]
      rw [et, hsi.1]
      exact hle
end Go.Proofs.Ytmndchhbafkbeaa

/-
  Grothendieck polynomials on both sides. Conditions: lengths below 2^40.
-/

namespace Go.Proofs.Ytmndchhbafkbeaa
open Go.RowKit

/-- The document's and the program's way with these operators give the same. -/
theorem dsc_iso (e : List Int) : sameC (dscL isoL e) (dscL isoD e) := fold_same (fun i {_ _} h => (iso_same i _).trans ((opK_iso (d := 4) (by decide)).same i h)) (sameC.refl _)
def groOk (xs : List Int) : Bool := isPermB xs && decide (xs.length ≤ 5)
theorem gro_pad {xs : List Int} (h : isPermP xs) (h5 : xs.length ≤ 5) : ex7 (padN 7 xs) ∧ ∀ k, k < 7 → nth (padN 7 xs) k ≤ 4 := by
  refine ⟨(perm_pad h).1, fun k hk => ?_⟩
  rw [padN_nth]
  by_cases hkn : k < xs.length
  · have := h.range k hkn; omega
  · rw [nth_out (by omega)]; omega
set_option maxRecDepth 100000 in
set_option maxHeartbeats 2000000 in
theorem specGroth_any (A : Option Addr) (n c : Nat) (xs : List Int) (w : World) (hs : SI w A n xs) (hnc : n ≤ c) (hn : n ≤ 1099511627776) :
    Calls Try.prog 37 #[.slice A n c] w fun r w' => FreshTB w w' r (outB (groOk xs) (dscL isoD (padN 7 xs))) (outL (groOk xs) (dscL isoD (padN 7 xs))) := by
  have hP := specIsPerm_any A n c xs w hs hnc hn
  cases hu : isPermB xs with
  | false =>
    rw [hu] at hP
    have HE := Lib.hid (outB_no (ok := groOk xs) (L := dscL isoD (padN 7 xs)) (by unfold groOk; rw [hu]; rfl))
    have HP := Lib.hid hP
    clear hP hu
    go_enter Try.func37, Try.ntmps37
    go_wp2_with (go_at_call 75; refine HP.out.mono ?_; rintro e w7 ⟨rfl, hd7⟩; have HD7 := Lib.hid hd7; clear hd7)
    go_ret2
    rw [HE.out.1, HE.out.2]
    exact FreshTB.nil_ret (HD7.out.below _)
  | true =>
    rw [hu] at hP
    by_cases h5 : 5 < n
    · have HE := Lib.hid (outB_no (ok := groOk xs) (L := dscL isoD (padN 7 xs)) (by unfold groOk; rw [hs.1, decide_eq_false (by omega), Bool.and_false]))
      have HP := Lib.hid hP
      have h5I : (5 : Int) < (n : Int) := by omega
      clear hP hu
      go_enter Try.func37, Try.ntmps37
      go_wp2_with (go_at_call 75; refine HP.out.mono ?_; rintro e w7 ⟨rfl, hd7⟩; have HD7 := Lib.hid hd7; clear hd7)
      go_ret2
      rw [HE.out.1, HE.out.2]
      exact FreshTB.nil_ret (HD7.out.below _)
    · have h5I : ¬ (5 : Int) < (n : Int) := by omega
      have hPP := isPermB_P hu
      have hl := hs.1
      have h1 : 1 ≤ n := by have := hPP.1; omega
      have h7 : n ≤ 7 := by omega
      have HE := Lib.hid (outB_yes (ok := groOk xs) (L := dscL isoD (padN 7 xs)) (by unfold groOk; rw [hu, hl, decide_eq_true (by omega)]; rfl))
      have hpx := gro_pad hPP (by omega)
      have hpd := PDl.perm hPP
      rw [hl] at hpd
      have hend := hpd.end_ h7 _ hpx.1
      have HEND : Hid ((key7 (padN 7 (downL n n)), (1 : Int)) = (key7 (endL (padN 7 xs)), 1)) := Lib.hid (by rw [hend])
      have HEX := Lib.hid hpx.1
      have HCK : Hid (capK 4 [(key7 (endL (padN 7 xs)), (1 : Int))]) := Lib.hid (capK.one (endL_ex7 hpx.1) (endL_cap hpx.1 hpx.2) 1)
      obtain ⟨ks, hks⟩ : ∃ ks, ks = upL (padN 7 xs) := ⟨_, rfl⟩
      have HK6 : Hid (∀ k ∈ ks, k < 6) := Lib.hid (by rw [hks]; exact upL_small hpx.1)
      have HKL : Hid ((ks.length : Int) ≤ 2667) := Lib.hid (by rw [hks]; have := upL_len hpx.1; have := (swU_cases hpx.1 (k := 0) (by omega)).2.2.2; omega)
      have HKS := Lib.hid hks
      have HP := Lib.hid hP
      have HSI := Lib.hid hs
      clear hend hpx hpd hPP hP hs hnc hl hks hu
      go_enter Try.func37, Try.ntmps37
      go_wp2_with (first
        | (go_at_call 75; refine HP.out.mono ?_; rintro e w7 ⟨rfl, hd7⟩; have HD7 := Lib.hid hd7; clear hd7)
        | (go_at_call 79
           refine (l3Stair_any n _ h7).mono ?_
           rintro e w2 ⟨A2, n2, c2, rfl, ho2, hb2⟩
           rw [HEND.out] at ho2
           have HO2 := Lib.hid ho2
           have HB2 : Hid (Below w.heap.size w w2) := Lib.hid ((HD7.out.below _).trans (hb2.mono (HD7.out.below w.heap.size).size))
           have HZ2 : Hid (w.heap.size ≤ w7.heap.size) := Lib.hid (HD7.out.below w.heap.size).size
           clear ho2 hb2)
        | (go_at_call 80
           refine (l3Up_any A n c xs _ (HSI.out.below HB2.out (Nat.le_refl _)) h1 h7 HEX.out).mono ?_
           rintro e w3 ⟨A3, n3, c3, rfl, ho3, hb3⟩
           rw [← HKS.out] at ho3
           obtain rfl : ks.length = n3 := by have := ho3.len; rw [natL_len] at this; exact this
           have HO3 := Lib.hid ho3
           have HB3 : Hid (Below w.heap.size w w3) := Lib.hid (HB2.out.trans (hb3.mono HB2.out.size))
           have HO2' : Hid (OwnM w3 w.heap.size w3.heap.size A2 n2 c2 [(key7 (endL (padN 7 xs)), (1 : Int))]) := Lib.hid ((HO2.out.below hb3 (Nat.le_refl _)).wide HZ2.out hb3.size)
           have HZ3 : Hid (w.heap.size ≤ w3.heap.size) := Lib.hid HB3.out.size
           clear ho3 hb3)
        | go_in)
      go_loopw [4, 6] (fun fv iv wr => ∃ (j : Nat) (Af : Option Addr) (nf cf : Nat), fv = .slice Af nf cf ∧ iv = .int .i64 ((j : Int) - 1) ∧ j ≤ ks.length ∧ OwnM wr w.heap.size wr.heap.size Af nf cf (FoldS isoD ks [(key7 (endL (padN 7 xs)), (1 : Int))] j) ∧ Below w3.heap.size w3 wr)
        (fun _ iv _ => (intOf iv + 1).toNat)
      case atStart => exact ⟨ks.length, A2, n2, c2, rfl, by rw [wrap64_eq (by have := HKL.out; omega)], Nat.le_refl _, by rw [FoldS.start]; exact HO2'.out, Below.refl _ _⟩
      case round =>
        obtain ⟨j, Af, nf, cf, rfl, rfl, hj, hof, hbf⟩ := hrel
        have HOF := Lib.hid hof
        have HBF := Lib.hid hbf
        have HNL : Hid (nf ≤ 823543) := Lib.hid (by have := (FoldS.facts (opK_iso (d := 4) (by decide)) (by decide) HK6.out HCK.out j).2.1; rw [hof.len] at this; exact this)
        clear hof hbf
        cases j with
        | zero =>
          have HFZ := Lib.hid (FoldS.facts (opK_iso (d := 4) (by decide)) (by decide) HK6.out HCK.out 0)
          have HSH := Lib.hid (l2Shut_any Af nf cf _ wr HOF.out.si (by have := HNL.out; omega) HFZ.out.1.in49)
          have HZR : Hid (w.heap.size ≤ wr.heap.size) := Lib.hid (Nat.le_trans HZ3.out HBF.out.size)
          have HBR : Hid (Below w.heap.size w wr) := Lib.hid (HB3.out.trans (HBF.out.mono HZ3.out))
          go_wp2_with (go_at_call 54; refine HSH.out.mono ?_; rintro e w5 ⟨A5, n5, c5, rfl, ho, hb⟩; have HO5 := Lib.hid ho; have HB5 := Lib.hid (HBR.out.trans (hb.mono HZR.out)); clear ho hb)
          go_ret2
          rw [HE.out.1, HE.out.2]
          have hz := HO5.out
          rw [HKS.out] at hz ⊢
          exact ⟨A5, n5, c5, rfl, hz.wide HZR.out (Nat.le_refl _), HB5.out⟩
        | succ j =>
          have hjl : j < ks.length := by omega
          have hi0 : ((j + 1 : Nat) : Int) - 1 = (j : Int) := by omega
          rw [hi0]
          have HST := Lib.hid (FoldS.step (opK_iso (d := 4) (by decide)) (b := [(key7 (endL (padN 7 xs)), (1 : Int))]) hjl)
          have hk6 : ks[j] < 6 := HK6.out _ (List.getElem_mem hjl)
          have hsi := (HO3.out.below HBF.out (Nat.le_refl _)).si
          obtain ⟨b, o, e1, hb, hc⟩ := hsi.at_ (by omega)
          have hc1 := hc j hjl
          rw [natL_nth hjl] at hc1
          subst e1
          obtain ⟨x, hx⟩ : ∃ x, x = ks[j] := ⟨_, rfl⟩
          rw [← hx] at hc1 HST hk6
          have HFF := Lib.hid (FoldS.facts (opK_iso (d := 4) (by decide)) (by decide) HK6.out HCK.out (j + 1))
          have HDV := Lib.hid (l2Isobaric_any Af nf cf _ x 6 wr HOF.out.si (by have := HNL.out; omega) hk6 HFF.out.1 (by decide) HFF.out.2.2)
          have hjI : (j : Int) < (ks.length : Int) := by omega
          clear hsi hc hx hi0 hk6 hb
          go_wp2_with (go_at_call 66
                       refine HDV.out.mono ?_
                       rintro e w4 ⟨A4, n4, c4, rfl, ho4, hb4⟩
                       replace ho4 : OwnM w4 wr.heap.size w4.heap.size A4 n4 c4 (gatherL (isoD x (FoldS isoD ks [(key7 (endL (padN 7 xs)), (1 : Int))] (j + 1)))) := ho4; rw [HST.out] at ho4
                       have HO4 : Hid (OwnM w4 w.heap.size w4.heap.size A4 n4 c4 (FoldS isoD ks [(key7 (endL (padN 7 xs)), (1 : Int))] j)) := Lib.hid (ho4.wide (Nat.le_trans HZ3.out HBF.out.size) (Nat.le_refl _))
                       have HB4 : Hid (Below w3.heap.size w3 w4) := Lib.hid (HBF.out.trans (hb4.mono HBF.out.size))
                       clear ho4 hb4)
          go_roundw
          case rel => exact ⟨j, A4, n4, c4, rfl, by rw [wrap64_eq (by have := HKL.out; omega)], by omega, HO4.out, HB4.out⟩
          case measure => simp only [intOf]; have h9 := wrap64_eq (x := (j : Int) - 1) (by have := HKL.out; omega); rw [h9]; omega
set_option maxRecDepth 100000 in
set_option maxHeartbeats 1000000 in
theorem implGroth_any (A : Option Addr) (n c : Nat) (xs : List Int) (w : World) (hs : SI w A n xs) (hn : n ≤ 1099511627776) :
    Calls Try.prog 38 #[.slice A n c] w fun r w' => FreshTB w w' r (outB (groOk xs) (dscL isoD (padN 7 xs))) (outL (groOk xs) (dscL isoD (padN 7 xs))) := by
  have hP := implIsPerm_any A n c xs w hs hn
  cases hu : isPermB xs with
  | false =>
    rw [hu] at hP
    have HE := Lib.hid (outB_no (ok := groOk xs) (L := dscL isoD (padN 7 xs)) (by unfold groOk; rw [hu]; rfl))
    have HP := Lib.hid hP
    clear hP hu
    go_enter Try.func38, Try.ntmps38
    go_wp2_with (go_at_call 77; refine HP.out.mono ?_; rintro e w7 ⟨rfl, hd7⟩; have HD7 := Lib.hid hd7; clear hd7)
    go_ret2
    rw [HE.out.1, HE.out.2]
    exact FreshTB.nil_ret HD7.out
  | true =>
    rw [hu] at hP
    by_cases h5 : 5 < n
    · have HE := Lib.hid (outB_no (ok := groOk xs) (L := dscL isoD (padN 7 xs)) (by unfold groOk; rw [hs.1, decide_eq_false (by omega), Bool.and_false]))
      have HP := Lib.hid hP
      have h5I : (5 : Int) < (n : Int) := by omega
      clear hP hu
      go_enter Try.func38, Try.ntmps38
      go_wp2_with (go_at_call 77; refine HP.out.mono ?_; rintro e w7 ⟨rfl, hd7⟩; have HD7 := Lib.hid hd7; clear hd7)
      go_ret2
      rw [HE.out.1, HE.out.2]
      exact FreshTB.nil_ret HD7.out
    · have h5I : ¬ (5 : Int) < (n : Int) := by omega
      have HE := Lib.hid (outB_yes (ok := groOk xs) (L := dscL isoD (padN 7 xs)) (by unfold groOk; rw [hu, hs.1, decide_eq_true (by omega)]; rfl))
      have hx := gro_pad (isPermB_P hu) (by have := hs.1; omega)
      have HX := Lib.hid hx
      have HMU : Hid (4 + mu7 (padN 7 xs) ≤ 126) := Lib.hid (by
        unfold mu7
        have a1 := hx.2 1 (by omega); have a2 := hx.2 2 (by omega); have a3 := hx.2 3 (by omega); have a4 := hx.2 4 (by omega); have a5 := hx.2 5 (by omega); have a6 := hx.2 6 (by omega)
        omega)
      have HP := Lib.hid hP
      have HSI := Lib.hid hs
      have hn7 : n ≤ 7 := by omega
      clear hP hu hx hs
      go_enter Try.func38, Try.ntmps38
      go_wp2_with (first
        | (go_at_call 77; refine HP.out.mono ?_; rintro e w7 ⟨rfl, hd7⟩; have HD7 := Lib.hid hd7; clear hd7)
        | (go_at_call 82
           refine (withZeros_any A n c xs _ (HSI.out.below HD7.out (Nat.le_refl _)) hn7).mono ?_
           rintro e w1 ⟨rfl, hb1⟩
           have HB1 : Hid (Below w.heap.size w w1) := Lib.hid (HD7.out.trans (hb1.mono HD7.out.size))
           clear hb1)
        | (go_at_call 81
           refine (descend_iso 4 2668 (padN 7 xs) _ HX.out.1 HX.out.2 (by have := (swU_cases HX.out.1 (k := 0) (by omega)).2.2.2; omega) HMU.out).mono ?_
           rintro e w2 ⟨g2, b2, M2, rfl, hs2, _, _, hm2, hc2, hb2⟩
           have HS2 := Lib.hid hs2
           have HM2 := Lib.hid (hm2.trans (dsc_iso _))
           have HB2 : Hid (Below w.heap.size w w2) := Lib.hid (HB1.out.trans (hb2.mono HB1.out.size))
           clear hs2 hm2 hc2 hb2)
        | (go_at_call 72; refine (terms_any g2 b2 M2 _ _ HS2.out HM2.out).mono ?_; rintro e w3 ⟨A3, n3, c3, rfl, ho, hb⟩
           have HB3 : Hid (Below w.heap.size w w3) := Lib.hid (HB2.out.trans (hb.mono HB2.out.size))
           have HO3 := Lib.hid ho
           have HZ3 := Lib.hid HB2.out.size
           clear ho hb)
        | go_in)
      go_ret2
      rw [HE.out.1, HE.out.2]
      exact ⟨A3, n3, c3, rfl, HO3.out.wide HZ3.out (Nat.le_refl _), HB3.out⟩
end Go.Proofs.Ytmndchhbafkbeaa

/-
  Key polynomials on both sides. Conditions: lengths below 2^40.
-/


namespace Go.Proofs.Ytmndchhbafkbeaa
open Go.RowKit

/-- May a list be the exponents of a key polynomial. -/
def keyB (xs : List Int) : Bool := decide (1 ≤ xs.length) && decide (xs.length ≤ 5) && (List.range xs.length).all fun k => decide (0 ≤ nth xs k ∧ nth xs k ≤ 4)
def keyPr (xs : List Int) : Prop := 1 ≤ xs.length ∧ xs.length ≤ 5 ∧ ∀ k, k < xs.length → 0 ≤ nth xs k ∧ nth xs k ≤ 4
theorem keyB_iff (xs : List Int) : keyB xs = true ↔ keyPr xs := by simp [keyB, keyPr, and_assoc]
theorem keyB_true {xs : List Int} (h : keyPr xs) : keyB xs = true := (keyB_iff xs).2 h
theorem keyB_false {xs : List Int} (h : ¬ keyPr xs) : keyB xs = false := by
  cases hb : keyB xs with
  | false => rfl
  | true => exact absurd ((keyB_iff xs).1 hb) h
theorem key_pad {xs : List Int} (h : keyPr xs) : ex7 (padN 7 xs) ∧ ∀ k, k < 7 → nth (padN 7 xs) k ≤ 4 := by
  refine ⟨(pad_ex7 rfl (by have := h.2.1; omega) fun k hk => by have := h.2.2 k hk; omega).1, fun k _ => ?_⟩
  rw [padN_nth]
  by_cases hkn : k < xs.length
  · exact (h.2.2 k hkn).2
  · rw [nth_out (by omega)]; omega
theorem key7_pad (xs : List Int) : key7 (padN 7 xs) = key7 xs := by
  have h0 : ∀ m : Nat, (List.replicate m (0 : Int)).foldr (fun x k => k * 128 + x) 0 = 0 := by
    intro m
    induction m with
    | zero => rfl
    | succ m ih => rw [List.replicate_succ, List.foldr_cons, ih]; rfl
  unfold key7 padN
  rw [List.foldr_append, h0]
theorem keyDN {e : List Int} (hl : e.length ≤ 7) (hs : ∀ k, k < e.length → 0 ≤ nth e k ∧ nth e k ≤ 24) (m : Nat) : 0 ≤ key7 (e.drop m) ∧ key7 (e.drop m) ≤ 562949953421312 := by
  have h := key7_bound (e.drop m) (fun k hk => by rw [nth_drop]; exact hs _ (by simp at hk; omega))
  have h1 : (128 : Int) ^ (e.drop m).length ≤ 562949953421312 := by
    have : (e.drop m).length ≤ 7 := by simp; omega
    generalize (e.drop m).length = q at this
    match q, this with
    | 0, _ | 1, _ | 2, _ | 3, _ | 4, _ | 5, _ | 6, _ | 7, _ => decide
  omega
set_option maxHeartbeats 400000 in
theorem l2KeyN_any (A : Option Addr) (n c : Nat) (e : List Int) (w : World) (hs : SI w A n e) (h7 : n ≤ 7) (hsm : ∀ k, k < n → 0 ≤ nth e k ∧ nth e k ≤ 24) :
    Calls Try.prog 86 #[.slice A n c] w fun r w' => r = .returned (.int .i64 (key7 e)) ∧ Drawn w w' := by
  have hl := hs.1
  have HK := Lib.hid (keyDN (e := e) (by omega) (by rw [hl]; exact hsm))
  have HS := Lib.hid hsm
  have HL := Lib.hid hl
  have hwn : wrap64 ((n : Int) - 1) = (n : Int) - 1 := wrap64_eq (by omega)
  clear hl hsm
  go_enter Try.func86, Try.ntmps86
  go_wp2
  go_loopw [3, 4] (fun v i wr => ∃ m : Nat, m ≤ n ∧ i = .int .i64 ((m : Int) - 1) ∧ v = .int .i64 (key7 (e.drop m)) ∧ Drawn w wr)
    (fun _ i _ => (intOf i + 1).toNat)
  case atStart => exact ⟨n, Nat.le_refl _, by first | rw [hwn] | go_num, by rw [List.drop_of_length_le (by rw [HL.out]; exact Nat.le_refl _)]; rfl, Drawn.refl _⟩
  case round =>
    obtain ⟨m, hm, rfl, rfl, hD⟩ := hrel
    have hs := hD.si hs
    have HD := Lib.hid hD
    clear hD
    by_cases h0 : 0 < m
    · obtain ⟨k, rfl⟩ : ∃ k, m = k + 1 := ⟨m - 1, by omega⟩
      obtain ⟨b, o, rfl, hb, hc⟩ := hs.at_ (by omega)
      have hc1 := hc k (by omega)
      have hx1 := HS.out k (by omega)
      have hv := HK.out (k + 1)
      have he := key7_drop (e := e) (i := k) (by rw [HL.out]; omega)
      obtain ⟨x, hx⟩ : ∃ x, x = nth e k := ⟨_, rfl⟩
      obtain ⟨y, hy⟩ : ∃ y, y = key7 (e.drop (k + 1)) := ⟨_, rfl⟩
      rw [← hx] at hc1 hx1 he
      rw [← hy] at hv he ⊢
      have HE := Lib.hid he
      obtain ⟨hx0, hx2⟩ := hx1
      obtain ⟨hv0, hv1⟩ := hv
      have hi : ((k + 1 : Nat) : Int) - 1 = (k : Int) := by omega
      rw [hi]
      have hw1 : IntKind.i64.wrap (y * 128) = y * 128 := IntWalk.i64_in _ (by omega)
      have hw2 : IntKind.i64.wrap (y * 128 + x) = y * 128 + x := IntWalk.i64_in _ (by omega)
      have hkI : (k : Int) < (n : Int) := by omega
      have HW : Hid (wrap64 ((k : Int) - 1) = (k : Int) - 1) := Lib.hid (wrap64_eq (by omega))
      clear hc hs hx hy he hi hwn
      go_wp2
      go_roundw
      case rel => exact ⟨k, by omega, by first | rw [HW.out] | go_num, by rw [HE.out], HD.out⟩
      case measure => simp only [intOf]; have := HW.out; omega
    · have hm0 : m = 0 := by omega
      subst hm0
      go_wp2
      go_ret
      exact ⟨rfl, HD.out⟩
set_option maxRecDepth 100000 in
set_option maxHeartbeats 4000000 in
theorem specKey_any (A : Option Addr) (n c : Nat) (xs : List Int) (w : World) (hs : SI w A n xs) (hn : n ≤ 1099511627776) :
    Calls Try.prog 39 #[.slice A n c] w fun r w' => FreshTB w w' r (outB (keyB xs) (dscL demL (padN 7 xs))) (outL (keyB xs) (dscL demL (padN 7 xs))) := by
  have HL := Lib.hid hs.1
  by_cases h15 : 1 ≤ n ∧ n ≤ 5
  · obtain ⟨h1, h5⟩ := h15
    have HSI := Lib.hid hs
    have HV := Lib.hid (fun w => l1In_yes' (a := (n : Int)) (lo := 1) (hi := 5) (by omega) (by omega) w)
    clear hs
    go_enter Try.func39, Try.ntmps39
    go_wp2_with (go_at_call 68; refine (HV.out _).mono ?_; rintro e w2 ⟨rfl, rfl⟩)
    go_loopw [4] (fun i wr => ∃ k : Nat, k ≤ n ∧ i = .int .i64 k ∧ Drawn w wr ∧ ∀ j, j < k → 0 ≤ nth xs j ∧ nth xs j ≤ 4)
      (fun i _ => n - (intOf i).toNat)
    case atStart => exact ⟨0, Nat.zero_le _, rfl, Drawn.refl _, fun j hj => absurd hj (by omega)⟩
    case round =>
      obtain ⟨k, hk, rfl, hD, hall⟩ := hrel
      have HA := Lib.hid hall
      have HDR := Lib.hid hD
      clear hall hD
      by_cases hlt : k < n
      · have hlI : (k : Int) < (n : Int) := by omega
        obtain ⟨b, o, rfl, hb, hc⟩ := (HDR.out.si HSI.out).at_ (by omega)
        have hc1 := hc k hlt
        obtain ⟨x, hx⟩ : ∃ x, x = nth xs k := ⟨_, rfl⟩
        rw [← hx] at hc1
        have HX := Lib.hid hx
        clear hc hx
        by_cases hg : 0 ≤ x ∧ x ≤ 4
        · have HY := Lib.hid (fun w => l1In_yes' hg.1 hg.2 w)
          have HG := Lib.hid hg
          clear hg
          go_wp2_with (go_at_call 68; refine (HY.out _).mono ?_; rintro e w3 ⟨rfl, rfl⟩)
          go_roundw
          case rel => exact ⟨k + 1, by omega, by go_num, HDR.out, fun j hj => by
            rcases Nat.lt_or_ge j k with h | h
            · exact HA.out j h
            · obtain rfl : j = k := by omega
              rw [← HX.out]; exact HG.out⟩
          case measure => simp [intOf]; omega
        · have HY := Lib.hid (fun w => l1In_no' (a := x) (lo := 0) (hi := 4) (by omega) w)
          have HE := Lib.hid (outB_no (ok := keyB xs) (L := dscL demL (padN 7 xs)) (keyB_false (fun h => hg (by rw [HX.out]; exact h.2.2 k (by have := HL.out; omega)))))
          clear hg
          go_wp2_with (go_at_call 68; refine (HY.out _).mono ?_; rintro e w3 ⟨rfl, rfl⟩)
          go_ret2
          rw [HE.out.1, HE.out.2]
          exact FreshTB.nil_ret (HDR.out.below _)
      · have hkn : k = n := by omega
        subst hkn
        have hkp : keyPr xs := ⟨by have := HL.out; omega, by have := HL.out; omega, by rw [HL.out]; exact HA.out⟩
        have HE := Lib.hid (outB_yes (ok := keyB xs) (L := dscL demL (padN 7 xs)) (keyB_true hkp))
        have hpx := key_pad hkp
        have HEX := Lib.hid hpx.1
        have HCAP := Lib.hid hpx.2
        have h7 : k ≤ 7 := by omega
        obtain ⟨n, hn0⟩ : ∃ n, n = k := ⟨_, rfl⟩
        subst hn0
        obtain ⟨B, hB⟩ : ∃ B, B = w.heap.size := ⟨_, rfl⟩
        have HBE : Hid (B = w.heap.size) := Lib.hid hB
        have HUL : Hid (((upL (padN 7 xs)).length : Int) ≤ 2667) := Lib.hid (by have := upL_len hpx.1; have := (swU_cases hpx.1 (k := 0) (by omega)).2.2.2; omega)
        have hwz : wr.heap.size = B := by rw [hB, HDR.out.heap]
        clear hkp hpx hlt
        go_upto_region 9 with (first
          | (go_at_call 84
             refine (l1Ints_any A n c xs _ (HDR.out.si HSI.out) (by omega)).mono ?_
             rintro e w1 ⟨A1, n1, c1, rfl, ho1, hb1⟩
             obtain rfl : n = n1 := by have := ho1.len; rw [HL.out] at this; exact this
             rw [hwz] at ho1 hb1
             have HO1 : Hid (Own w1 B w1.heap.size A1 n c1 xs) := Lib.hid ho1
             have HB1 : Hid (Below B w w1) := Lib.hid ((HDR.out.below _).trans hb1)
             have HZ1 : Hid (B ≤ w1.heap.size) := Lib.hid (by have := hb1.size; omega)
             clear ho1 hb1))
        go_wp2
        have HO1' : Hid (Own (w1.alloc (.cells #[] 3)) B w1.heap.size A1 n c1 xs) := Lib.hid (HO1.out.below (Below.alloc_self _ _) (Nat.le_refl _))
        have HB1' : Hid (Below B w (w1.alloc (.cells #[] 3))) := Lib.hid (HB1.out.alloc HZ1.out _)
        have HO0' : Hid (Own (w1.alloc (.cells #[] 3)) B (w1.alloc (.cells #[] 3)).heap.size (some ⟨w1.heap.size, 0, none⟩) 0 0 []) := Lib.hid ((Own.empty w1).wide HZ1.out (by simp))
        have HOA : Hid (∀ g, (Value.slice (some ⟨w1.heap.size, 0, none⟩) 0 0).ownBlock = some g → w1.heap.size ≤ g) := Lib.hid (fun g hg => ((Own.empty w1).lt g hg).1)
        have HZ1' : Hid ((w1.alloc (.cells #[] 3)).heap.size = w1.heap.size + 1) := Lib.hid (by simp)
        obtain ⟨w9, hw9⟩ : ∃ w9, w9 = w1.alloc (.cells #[] 3) := ⟨_, rfl⟩
        rw [← hw9] at HO1' HB1' HO0' HZ1' ⊢
        clear hw9 HO1 HB1 hwz hB
        have HZ1 : Hid (w1.heap.size ≤ w9.heap.size) := Lib.hid (by have := HZ1'.out; omega)
        go_loopw [6, 5, 7] (fun ov vv kv wr => ∃ (O : List Nat) (Ao : Option Addr) (co : Nat) (vs : List Int) (Av : Option Addr) (cv lv hv k : Nat), ov = .slice Ao O.length co ∧ vv = .slice Av n cv ∧ kv = .int .i64 k ∧ k + 1 ≤ n ∧
            UpInv xs n O vs k ∧ Own wr B wr.heap.size Ao O.length co (natL O) ∧ Own wr lv hv Av n cv vs ∧ hv ≤ wr.heap.size ∧ B ≤ lv ∧ (∀ g, (Value.slice Ao O.length co).ownBlock = some g → g < lv ∨ hv ≤ g) ∧ Below B w wr ∧ O.length ≤ (upL (padN 7 xs)).length)
          (fun ov _ kv _ => ((upL (padN 7 xs)).length - lenV ov) * 8 + (7 - (intOf kv).toNat))
        case atStart => exact ⟨[], some ⟨w1.heap.size, 0, none⟩, 0, xs, A1, c1, B, w1.heap.size, 0, rfl, rfl, rfl, by omega, UpInv.start HL.out HEX.out, HO0'.out, HO1'.out, by have := HZ1.out; omega, Nat.le_refl _, fun g hg => by have := HOA.out g hg; omega, HB1'.out, by simp⟩
        case round =>
          obtain ⟨O, Ao, co, vs, Av, cv, lv, hv, k, rfl, rfl, rfl, hk, hinv, hoo, hov, hhv, hlv, hap, hbw, hol⟩ := hrel
          clear HO1' HB1' HO0' HZ1
          have HI := Lib.hid hinv
          have HOO := Lib.hid hoo
          have HOV := Lib.hid hov
          have HHV := Lib.hid hhv
          have HLV := Lib.hid hlv
          have HAP := Lib.hid hap
          have HBW := Lib.hid hbw
          have HOL := Lib.hid hol
          have hwr : IntKind.i64.wrap ((k : Int) + 1) = (k : Int) + 1 := IntWalk.i64_in _ (by omega)
          obtain ⟨gv, rfl, hgv1, hgv2⟩ := hov.place (by omega)
          clear hinv hoo hhv hlv hap hbw hol
          by_cases hlt : k + 1 < n
          · have hlI : (k : Int) + 1 < (n : Int) := by omega
            have hkI : (k : Int) < (n : Int) := by omega
            have hc0 := hov.cellAt (k := k) (by omega)
            have hc1 := hov.cellAt (k := k + 1) (by omega)
            have hn1 : ((k : Int) + 1).toNat = k + 1 := by omega
            have h01 : (0 : Int) ≤ (k : Int) + 1 := by omega
            obtain ⟨x, hx⟩ : ∃ x, x = nth vs k := ⟨_, rfl⟩
            obtain ⟨y, hy⟩ : ∃ y, y = nth vs (k + 1) := ⟨_, rfl⟩
            rw [← hx] at hc0
            rw [← hy] at hc1
            have HX := Lib.hid hx
            have HY := Lib.hid hy
            have SW : Hid (∀ wx : World, Drawn wr wx → Calls Try.prog 85 #[.slice (some ⟨gv, 0, none⟩) n cv, .int .i64 k, .int .i64 ((k : Int) + 1)] wx (fun e w' => Fresh wx w' e (swapL vs k (k + 1)))) := Lib.hid (fun (wx : World) (hd : Drawn wr wx) => l1Swap_any (some ⟨gv, 0, none⟩) n cv k (k + 1) vs wx (hd.own HOV.out).si (by omega) (by omega) (by omega) (by omega))
            clear hx hy hov hgv1 hgv2
            by_cases hxy : x < y
            · have HST := Lib.hid (HI.out.step h7 hlt (by have := HX.out; have := HY.out; omega))
              go_wp2_with fail
              go_quiet (fail)
              clear hwr hn1 h01
              have hwr : IntKind.i64.wrap ((k : Int) + 1) = (k : Int) + 1 := IntWalk.i64_in _ (by omega)
              go_wp2_with fail
              refine (SW.out _ ⟨_, rfl⟩).mono ?_
              rintro e w3 ⟨A3, n3, c3, rfl, ho3, hb3⟩
              obtain rfl : n = n3 := by have := ho3.len; rw [swapL_len, HI.out.len] at this; exact this
              have hb3' : Below wr.heap.size wr w3 := (Drawn.below (w' := wr.drewN nq) ⟨_, rfl⟩ wr.heap.size).trans hb3
              have HO3 : Hid (Own w3 wr.heap.size w3.heap.size A3 n c3 (swapL vs k (k + 1))) := Lib.hid ho3
              have HB3 : Hid (Below B w w3) := Lib.hid (HBW.out.trans (hb3'.mono (Nat.le_trans HLV.out (by have := HOV.out.lt gv rfl; have := HHV.out; omega))))
              have HOO3 : Hid (Own w3 B w3.heap.size Ao O.length co (natL O)) := Lib.hid ((HOO.out.below hb3' (Nat.le_refl _)).wide (Nat.le_refl _) hb3'.size)
              have HOB3 : Hid (∀ g, (Value.slice Ao O.length co).ownBlock = some g → g < wr.heap.size) := Lib.hid (fun g hg => (HOO.out.lt g hg).2)
              have HZ3 : Hid (B ≤ wr.heap.size ∧ wr.heap.size ≤ w3.heap.size) := Lib.hid ⟨Nat.le_trans HLV.out (by have := HOV.out.lt gv rfl; have := HHV.out; omega), hb3'.size⟩
              clear ho3 hb3 hb3'
              go_wp2_with (at_builtin
                           refine wpList_append1_at rfl (.tmp 51) (.tmp 53) rfl B Ao O.length co (natL O) (k : Int) rfl rfl HOO3.out (by have := HZ3.out; omega) (by have := HUL.out; have := HOL.out; omega) ?_
                           intro A4 c4 w4 ho4 hg4 hb4 hat4
                           have HO4 := Lib.hid ho4
                           have HB4 : Hid (Below B w w4) := Lib.hid (HB3.out.trans hb4)
                           have HV4 : Hid (Own w4 wr.heap.size w3.heap.size A3 n c3 (swapL vs k (k + 1))) := Lib.hid (HO3.out.grown hg4 (fun g hg => .inl (HOB3.out g hg)))
                           have HAT4 : Hid (∀ g, (Value.slice A4 (O.length + 1) c4).ownBlock = some g → g < wr.heap.size ∨ w3.heap.size ≤ g) := Lib.hid (fun g hg => by
                             rcases hat4 g hg with h | h
                             · exact .inl (HOB3.out g h)
                             · exact .inr h)
                           have HZ4 : Hid (w3.heap.size ≤ w4.heap.size) := Lib.hid hg4.size
                           clear ho4 hg4 hb4 hat4)
              go_roundw
              case rel =>
                refine ⟨O ++ [k], A4, c4, swapL vs k (k + 1), A3, c3, wr.heap.size, w3.heap.size, 0, by simp, rfl, by go_num, by omega, HST.out.1, ?_, HV4.out, HZ4.out, HZ3.out.1, ?_, HB4.out, HST.out.2⟩
                · rw [natL_app, List.length_append]; exact HO4.out
                · rw [List.length_append]; exact HAT4.out
              case measure =>
                have := HST.out.2
                rw [List.length_append] at this
                simp only [List.length_cons, List.length_nil] at this
                simp [intOf, lenV]
                omega
            · have HNX := Lib.hid (HI.out.next (by have := HX.out; have := HY.out; omega))
              go_wp2_with fail
              go_quiet (fail)
              clear hwr hn1 h01
              have hwr : IntKind.i64.wrap ((k : Int) + 1) = (k : Int) + 1 := IntWalk.i64_in _ (by omega)
              go_wp2
              go_roundw
              case rel => exact ⟨O, Ao, co, vs, some ⟨gv, 0, none⟩, cv, lv, hv, k + 1, rfl, rfl, by go_num, by omega, HNX.out, HOO.out.drawn ⟨_, rfl⟩, HOV.out.drawn ⟨_, rfl⟩, HHV.out, HLV.out, HAP.out, HBW.out.drawnN _, HOL.out⟩
              case measure => simp [intOf, lenV]; omega
          · have hlI : ¬ (k : Int) + 1 < (n : Int) := by omega
            have HD := Lib.hid (HI.out.done (by omega))
            clear hov hgv1 hgv2
            have hcapv : ∀ q, q < 7 → nth (padN 7 vs) q ≤ 4 := by rw [← HD.out.2]; exact endL_cap HEX.out HCAP.out
            have HKEY := Lib.hid (l2KeyN_any (some ⟨gv, 0, none⟩) n cv vs wr HOV.out.si h7 (fun q hq => by
              have h1 := (HI.out.ex.2 q (by omega)).1
              have h2 := hcapv q (by omega)
              rw [padN_nth] at h1 h2
              omega))
            have HKV : Hid ((key7 vs, (1 : Int)) = (key7 (endL (padN 7 xs)), 1)) := Lib.hid (by rw [HD.out.2, key7_pad])
            have HKS : Hid (O = upL (padN 7 xs)) := Lib.hid HD.out.1.symm
            have HK6 : Hid (∀ k ∈ O, k < 6) := Lib.hid (by rw [HKS.out]; exact upL_small HEX.out)
            have HKL : Hid ((O.length : Int) ≤ 2667) := Lib.hid (by rw [HKS.out]; exact HUL.out)
            have HCK : Hid (capK 4 [(key7 (endL (padN 7 xs)), (1 : Int))]) := Lib.hid (capK.one (endL_ex7 HEX.out) (endL_cap HEX.out HCAP.out) 1)
            have HBL : Hid (B ≤ wr.heap.size) := Lib.hid (by have := HBW.out.size; have := HBE.out; omega)
            clear hcapv
            go_wp2_with (first
              | (go_at_call 86
                 refine HKEY.out.mono ?_
                 rintro e w8 ⟨rfl, hd8⟩
                 have HD8 := Lib.hid hd8
                 clear hd8)
              | go_in)
            obtain ⟨w3, hw3⟩ : ∃ w3, w3 = w8.alloc (.cells #[.int .i64 (key7 vs), .int .i64 1] 85) := ⟨_, rfl⟩
            have h8 : w8.heap.size = wr.heap.size := by have := HD8.out.heap; rw [this]
            have hb83 : Below wr.heap.size wr w3 := by rw [hw3]; exact (HD8.out.below _).alloc (by omega) _
            have HZ3 : Hid (w.heap.size ≤ w3.heap.size) := Lib.hid (by have := hb83.size; have := HBL.out; have := HBE.out; omega)
            have HB3 : Hid (Below w.heap.size w w3) := Lib.hid (by rw [← HBE.out]; exact HBW.out.trans (hb83.mono HBL.out))
            have HO2' : Hid (OwnM w3 w.heap.size w3.heap.size (some ⟨w8.heap.size, 0, none⟩) 1 1 [(key7 (endL (padN 7 xs)), (1 : Int))]) := Lib.hid (by
              rw [hw3, ← HKV.out]; exact (OwnM.lit1 w8 (key7 vs) 1).wide (by have := HBL.out; have := HBE.out; omega) (by simp))
            have HO3 : Hid (Own w3 B w3.heap.size Ao O.length co (natL O)) := Lib.hid ((HOO.out.below hb83 (Nat.le_refl _)).wide (Nat.le_refl _) hb83.size)
            rw [← hw3]
            clear hw3 hb83 h8
            go_loopw [8, 9] (fun fv iv wr => ∃ (j : Nat) (Af : Option Addr) (nf cf : Nat), fv = .slice Af nf cf ∧ iv = .int .i64 ((j : Int) - 1) ∧ j ≤ O.length ∧ OwnM wr w.heap.size wr.heap.size Af nf cf (FoldS demL O [(key7 (endL (padN 7 xs)), (1 : Int))] j) ∧ Below w3.heap.size w3 wr)
              (fun _ iv _ => (intOf iv + 1).toNat)
            case atStart => exact ⟨O.length, some ⟨w8.heap.size, 0, none⟩, 1, 1, rfl, by rw [wrap64_eq (by have := HKL.out; omega)], Nat.le_refl _, by rw [FoldS.start]; exact HO2'.out, Below.refl _ _⟩
            case round =>
              obtain ⟨j, Af, nf, cf, rfl, rfl, hj, hof, hbf⟩ := hrel
              have HOF := Lib.hid hof
              have HBF := Lib.hid hbf
              have HNL : Hid (nf ≤ 823543) := Lib.hid (by have := (FoldS.facts (opK_dem (d := 4) (by decide)) (by decide) HK6.out HCK.out j).2.1; rw [hof.len] at this; exact this)
              clear hof hbf
              cases j with
              | zero =>
                have HFZ := Lib.hid (FoldS.facts (opK_dem (d := 4) (by decide)) (by decide) HK6.out HCK.out 0)
                have HSH := Lib.hid (l2Shut_any Af nf cf _ wr HOF.out.si (by have := HNL.out; omega) HFZ.out.1.in49)
                have HZR : Hid (w.heap.size ≤ wr.heap.size) := Lib.hid (Nat.le_trans HZ3.out HBF.out.size)
                have HBR : Hid (Below w.heap.size w wr) := Lib.hid (HB3.out.trans (HBF.out.mono HZ3.out))
                go_wp2_with (go_at_call 54; refine HSH.out.mono ?_; rintro e w5 ⟨A5, n5, c5, rfl, ho, hb⟩; have HO5 := Lib.hid ho; have HB5 := Lib.hid (HBR.out.trans (hb.mono HZR.out)); clear ho hb)
                go_ret2
                rw [HE.out.1, HE.out.2]
                have hz := HO5.out
                rw [HKS.out] at hz ⊢
                exact ⟨A5, n5, c5, rfl, hz.wide HZR.out (Nat.le_refl _), HB5.out⟩
              | succ j =>
                have hjl : j < O.length := by omega
                have hi0 : ((j + 1 : Nat) : Int) - 1 = (j : Int) := by omega
                rw [hi0]
                have HST := Lib.hid (FoldS.step (opK_dem (d := 4) (by decide)) (b := [(key7 (endL (padN 7 xs)), (1 : Int))]) hjl)
                have hk6 : O[j] < 6 := HK6.out _ (List.getElem_mem hjl)
                have hsi := (HO3.out.below HBF.out (Nat.le_refl _)).si
                obtain ⟨b, o, e1, hb, hc⟩ := hsi.at_ (by omega)
                have hc1 := hc j hjl
                rw [natL_nth hjl] at hc1
                subst e1
                obtain ⟨x, hx⟩ : ∃ x, x = O[j] := ⟨_, rfl⟩
                rw [← hx] at hc1 HST hk6
                have HFF := Lib.hid (FoldS.facts (opK_dem (d := 4) (by decide)) (by decide) HK6.out HCK.out (j + 1))
                have HDV := Lib.hid (l2Demazure_any Af nf cf _ x 6 wr HOF.out.si (by have := HNL.out; omega) hk6 HFF.out.1 (by decide))
                have hjI : (j : Int) < (O.length : Int) := by omega
                clear hsi hc hx hi0 hk6 hb
                go_wp2_with (go_at_call 62
                             refine HDV.out.mono ?_
                             rintro e w4 ⟨A4, n4, c4, rfl, ho4, hb4⟩
                             rw [HST.out] at ho4
                             have HO4 : Hid (OwnM w4 w.heap.size w4.heap.size A4 n4 c4 (FoldS demL O [(key7 (endL (padN 7 xs)), (1 : Int))] j)) := Lib.hid (ho4.wide (Nat.le_trans HZ3.out HBF.out.size) (Nat.le_refl _))
                             have HB4 : Hid (Below w3.heap.size w3 w4) := Lib.hid (HBF.out.trans (hb4.mono HBF.out.size))
                             clear ho4 hb4)
                go_roundw
                case rel => exact ⟨j, A4, n4, c4, rfl, by rw [wrap64_eq (by have := HKL.out; omega)], by omega, HO4.out, HB4.out⟩
                case measure => simp only [intOf]; have h9 := wrap64_eq (x := (j : Int) - 1) (by have := HKL.out; omega); rw [h9]; omega
  · have HV := Lib.hid (fun w => l1In_no' (a := (n : Int)) (lo := 1) (hi := 5) (by omega) w)
    have HE := Lib.hid (outB_no (ok := keyB xs) (L := dscL demL (padN 7 xs)) (keyB_false (fun h => h15 ⟨by have := h.1; have := HL.out; omega, by have := h.2.1; have := HL.out; omega⟩)))
    clear h15 hs
    go_enter Try.func39, Try.ntmps39
    go_wp2_with (go_at_call 68; refine (HV.out _).mono ?_; rintro e w2 ⟨rfl, rfl⟩)
    go_ret2
    rw [HE.out.1, HE.out.2]
    exact FreshTB.nil_ret (Below.refl _ _)
end Go.Proofs.Ytmndchhbafkbeaa

/-
  Key polynomials, the program's side. Conditions: lengths below 2^40.
-/

namespace Go.Proofs.Ytmndchhbafkbeaa
open Go.RowKit

theorem dsc_dem (e : List Int) : dscL demL e = dscL demL e := rfl
set_option maxHeartbeats 400000 in
theorem keyFn_any (x : Int) (w : World) : Calls Try.prog 87 #[.int .i64 x] w fun r w' => r = .returned (.bool (decide (x < 0) || decide (4 < x))) ∧ w = w' := by
  by_cases h1 : x < 0
  · go_enter Try.func87, Try.ntmps87
    go_wp2
    go_ret
    exact ⟨ret_bool (by simp [h1]), rfl⟩
  · have h1' : ¬ x < 0 := h1
    go_enter Try.func87, Try.ntmps87
    go_wp2
    go_ret
    exact ⟨ret_bool (by simp; omega), rfl⟩
set_option maxHeartbeats 800000 in
theorem indexKey_any (A : Option Addr) (n c : Nat) (xs : List Int) (w : World) (hs : SI w A n xs) (hn : n ≤ 1099511627776) :
    Calls Try.prog 120 #[.slice A n c, .func (.func 87) #[] #[]] w fun r w' =>
      ∃ i : Int, r = .returned (.int .i64 i) ∧ (i < 0 ∧ (∀ k, k < n → 0 ≤ nth xs k ∧ nth xs k ≤ 4) ∨ 0 ≤ i ∧ ∃ k, k < n ∧ ¬ (0 ≤ nth xs k ∧ nth xs k ≤ 4)) ∧ Drawn w w' := by
  go_enter Try.func120, Try.ntmps120
  go_wp2
  go_loopw [8] (fun i wr => ∃ k : Nat, k ≤ n ∧ i = .int .i64 k ∧ Drawn w wr ∧ ∀ j, j < k → 0 ≤ nth xs j ∧ nth xs j ≤ 4)
    (fun i _ => n - (intOf i).toNat)
  case atStart => exact ⟨0, Nat.zero_le _, rfl, Drawn.refl _, fun j hj => absurd hj (by omega)⟩
  case round =>
    obtain ⟨k, hk, rfl, hD, hall⟩ := hrel
    have HA := Lib.hid hall
    have HDR := Lib.hid hD
    have hs := hD.si hs
    clear hall hD
    by_cases hlt : k < n
    · have hlI : (k : Int) < (n : Int) := by omega
      obtain ⟨b, o, rfl, hb, hc⟩ := hs.at_ (by omega)
      have hc1 := hc k hlt
      obtain ⟨x, hx⟩ : ∃ x, x = nth xs k := ⟨_, rfl⟩
      rw [← hx] at hc1
      have HX := Lib.hid hx
      clear hc hx hs
      by_cases hg : 0 ≤ x ∧ x ≤ 4
      · have HF : Hid (∀ w, Calls Try.prog 87 #[.int .i64 x] w fun r w' => r = .returned (.bool false) ∧ w = w') := Lib.hid (fun w => by
          have := keyFn_any x w
          rwa [decide_eq_false (by omega), decide_eq_false (by omega)] at this)
        have HG := Lib.hid hg
        clear hg
        go_wp2_with (go_at_call 87; refine (HF.out _).mono ?_; rintro r w2 ⟨rfl, rfl⟩)
        go_roundw
        case rel => exact ⟨k + 1, by omega, by go_num, HDR.out, fun j hj => by
          rcases Nat.lt_or_ge j k with h | h
          · exact HA.out j h
          · obtain rfl : j = k := by omega
            rw [← HX.out]; exact HG.out⟩
        case measure => simp [intOf]; omega
      · have HF : Hid (∀ w, Calls Try.prog 87 #[.int .i64 x] w fun r w' => r = .returned (.bool true) ∧ w = w') := Lib.hid (fun w => by
          have := keyFn_any x w
          rwa [show (decide (x < 0) || decide (4 < x)) = true by simp; omega] at this)
        have HG := Lib.hid hg
        clear hg
        go_wp2_with (go_at_call 87; refine (HF.out _).mono ?_; rintro r w2 ⟨rfl, rfl⟩)
        go_ret
        exact ⟨(k : Int), rfl, .inr ⟨by omega, k, hlt, by rw [← HX.out]; exact HG.out⟩, HDR.out⟩
    · have hkn : k = n := by omega
      subst hkn
      go_wp2
      go_ret
      exact ⟨-1, rfl, .inl ⟨by omega, HA.out⟩, HDR.out⟩
set_option maxHeartbeats 400000 in
theorem containsKey_any (A : Option Addr) (n c : Nat) (xs : List Int) (w : World) (hs : SI w A n xs) (hn : n ≤ 1099511627776) :
    Calls Try.prog 88 #[.slice A n c, .func (.func 87) #[] #[]] w fun r w' =>
      ∃ b : Bool, r = .returned (.bool b) ∧ (b = false ↔ ∀ k, k < n → 0 ≤ nth xs k ∧ nth xs k ≤ 4) ∧ Drawn w w' := by
  have HC := Lib.hid (indexKey_any A n c xs w hs hn)
  clear hs
  go_enter Try.func88, Try.ntmps88
  go_wp2_with (go_at_call 120; refine HC.out.mono ?_; rintro r w2 ⟨i, rfl, hi, hd⟩; have HI := Lib.hid hi; have HD := Lib.hid hd; clear hi hd)
  go_ret
  refine ⟨_, rfl, ?_, HD.out⟩
  rcases HI.out with ⟨h1, h2⟩ | ⟨h1, k, hk, h2⟩
  · simp only [decide_eq_false_iff_not]
    exact ⟨fun _ => h2, fun _ => by omega⟩
  · simp only [decide_eq_false_iff_not]
    exact ⟨fun h => absurd h1 (by omega), fun h => absurd (h k hk) h2⟩
set_option maxRecDepth 100000 in
set_option maxHeartbeats 1000000 in
theorem implKey_any (A : Option Addr) (n c : Nat) (xs : List Int) (w : World) (hs : SI w A n xs) (hn : n ≤ 1099511627776) :
    Calls Try.prog 40 #[.slice A n c] w fun r w' => FreshTB w w' r (outB (keyB xs) (dscL demL (padN 7 xs))) (outL (keyB xs) (dscL demL (padN 7 xs))) := by
  have HL := Lib.hid hs.1
  by_cases h1 : n < 1
  · have HE := Lib.hid (outB_no (ok := keyB xs) (L := dscL demL (padN 7 xs)) (keyB_false (fun h => by have := h.1; have := HL.out; omega)))
    have h1I : (n : Int) < 1 := by omega
    clear hs h1
    go_enter Try.func40, Try.ntmps40
    go_wp2
    go_ret2
    rw [HE.out.1, HE.out.2]
    exact FreshTB.nil_ret (Below.refl _ _)
  · have h1I : ¬ (n : Int) < 1 := by omega
    by_cases h5 : 5 < n
    · have HE := Lib.hid (outB_no (ok := keyB xs) (L := dscL demL (padN 7 xs)) (keyB_false (fun h => by have := h.2.1; have := HL.out; omega)))
      have h5I : (5 : Int) < (n : Int) := by omega
      clear hs h1 h5
      go_enter Try.func40, Try.ntmps40
      go_wp2
      go_ret2
      rw [HE.out.1, HE.out.2]
      exact FreshTB.nil_ret (Below.refl _ _)
    · have h5I : ¬ (5 : Int) < (n : Int) := by omega
      have HC := Lib.hid (containsKey_any A n c xs w hs hn)
      by_cases hall : ∀ k, k < n → 0 ≤ nth xs k ∧ nth xs k ≤ 4
      · have hkp : keyPr xs := ⟨by have := HL.out; omega, by have := HL.out; omega, by rw [HL.out]; exact hall⟩
        have HE := Lib.hid (outB_yes (ok := keyB xs) (L := dscL demL (padN 7 xs)) (keyB_true hkp))
        have hx := key_pad hkp
        have HX := Lib.hid hx
        have HMU : Hid (4 + mu7 (padN 7 xs) ≤ 126) := Lib.hid (by
          unfold mu7
          have a1 := hx.2 1 (by omega); have a2 := hx.2 2 (by omega); have a3 := hx.2 3 (by omega); have a4 := hx.2 4 (by omega); have a5 := hx.2 5 (by omega); have a6 := hx.2 6 (by omega)
          omega)
        have HSI := Lib.hid hs
        have HALL := Lib.hid hall
        have hn7 : n ≤ 7 := by omega
        clear hkp hx hs hall
        go_enter Try.func40, Try.ntmps40
        go_wp2_with (first
          | (go_at_call 88; refine HC.out.mono ?_; rintro r w7 ⟨bb, rfl, hb, hd7⟩; have hbb : bb = false := hb.2 HALL.out; subst hbb; have HD7 : Hid (Below w.heap.size w w7) := Lib.hid (hd7.below _); clear hd7 hb)
          | (go_at_call 82
             refine (withZeros_any A n c xs _ (HSI.out.below HD7.out (Nat.le_refl _)) hn7).mono ?_
             rintro e w1 ⟨rfl, hb1⟩
             have HB1 : Hid (Below w.heap.size w w1) := Lib.hid (HD7.out.trans (hb1.mono HD7.out.size))
             clear hb1)
          | (go_at_call 81
             refine (descend_dem 4 2668 (padN 7 xs) _ HX.out.1 HX.out.2 (by have := (swU_cases HX.out.1 (k := 0) (by omega)).2.2.2; omega) HMU.out).mono ?_
             rintro e w2 ⟨g2, b2, M2, rfl, hs2, _, _, hm2, hc2, hb2⟩
             have HS2 := Lib.hid hs2
             have HM2 := Lib.hid hm2
             have HB2 : Hid (Below w.heap.size w w2) := Lib.hid (HB1.out.trans (hb2.mono HB1.out.size))
             clear hs2 hm2 hc2 hb2)
          | (go_at_call 72; refine (terms_any g2 b2 M2 _ _ HS2.out HM2.out).mono ?_; rintro e w3 ⟨A3, n3, c3, rfl, ho, hb⟩
             have HB3 : Hid (Below w.heap.size w w3) := Lib.hid (HB2.out.trans (hb.mono HB2.out.size))
             have HO3 := Lib.hid ho
             have HZ3 := Lib.hid HB2.out.size
             clear ho hb)
          | go_in)
        go_ret2
        rw [HE.out.1, HE.out.2]
        exact ⟨A3, n3, c3, rfl, HO3.out.wide HZ3.out (Nat.le_refl _), HB3.out⟩
      · have HE := Lib.hid (outB_no (ok := keyB xs) (L := dscL demL (padN 7 xs)) (keyB_false (fun h => hall (by have := h.2.2; rwa [HL.out] at this))))
        have HALL := Lib.hid hall
        clear hs hall
        go_enter Try.func40, Try.ntmps40
        go_wp2_with (first
          | (go_at_call 88; refine HC.out.mono ?_; rintro r w7 ⟨bb, rfl, hb, hd7⟩; have hbb : bb = true := (by cases bb with | true => rfl | false => exact absurd (hb.1 rfl) HALL.out); subst hbb; have HD7 : Hid (Below w.heap.size w w7) := Lib.hid (hd7.below _); clear hd7 hb)
          | go_in)
        go_ret2
        rw [HE.out.1, HE.out.2]
        exact FreshTB.nil_ret HD7.out
end Go.Proofs.Ytmndchhbafkbeaa

/-
  The document's sums and products of polynomials. Conditions: lengths below 2^40.
-/

namespace Go.Proofs.Ytmndchhbafkbeaa
open Go.RowKit

set_option maxRecDepth 100000 in
set_option maxHeartbeats 1000000 in
theorem specAddPolys_any (A : Option Addr) (n c : Nat) (ts : List Tm) (k : Int) (A2 : Option Addr) (n2 c2 : Nat) (us : List Tm) (w : World) (hs : TS w A n ts) (hs2 : TS w A2 n2 us) (hn : n ≤ 1099511627776) (hne : ∀ k, k < n → (tm ts k).1.length ≤ 1099511627776)
    (hn2 : n2 ≤ 1099511627776) (hne2 : ∀ k, k < n2 → (tm us k).1.length ≤ 1099511627776) :
    Calls Try.prog 28 #[.slice A n c, .int .i64 k, .slice A2 n2 c2] w fun r w' => FreshTB w w' r (outB (addOk ts us k) (adP ts k us)) (outL (addOk ts us k) (adP ts k us)) := by
  have hP := specPolyOk_any A n c ts w hs hn hne
  have hP2 := fun w' (hd : Below w.heap.size w w') => specPolyOk_any A2 n2 c2 us w' (hs2.below hd (Nat.le_refl _)) hn2 hne2
  cases hu : polyB ts with
  | false =>
    rw [hu] at hP
    have HE := Lib.hid (outB_no (ok := addOk ts us k) (L := adP ts k us) (by unfold addOk; rw [hu]; rfl))
    have HP1 := Lib.hid hP
    clear hP hu hP2
    go_enter Try.func28, Try.ntmps28
    go_wp2_with (go_at_call 52; refine HP1.out.mono ?_; rintro e w7 ⟨rfl, hd7⟩; have HD7 := Lib.hid (hd7.below w.heap.size); clear hd7)
    go_ret2
    rw [HE.out.1, HE.out.2]
    exact FreshTB.nil_ret HD7.out
  | true =>
    rw [hu] at hP
    cases hv : polyB us with
    | false =>
      rw [hv] at hP2
      have HE := Lib.hid (outB_no (ok := addOk ts us k) (L := adP ts k us) (by unfold addOk; rw [hu, hv]; rfl))
      have HP1 := Lib.hid hP
      have HP2 := Lib.hid hP2
      clear hP hu hP2 hv
      go_enter Try.func28, Try.ntmps28
      go_wp2_with (go_at_call 52; first | ((with_reducible refine HP1.out.mono ?_); rintro e w7 ⟨rfl, hd7⟩; have HD7 := Lib.hid (hd7.below w.heap.size); clear hd7) | ((with_reducible refine (HP2.out _ HD7.out).mono ?_); rintro e w8 ⟨rfl, hd8⟩; have HD8 := Lib.hid (HD7.out.trans (hd8.below w.heap.size)); clear hd8))
      go_ret2
      rw [HE.out.1, HE.out.2]
      exact FreshTB.nil_ret HD8.out
    | true =>
      rw [hv] at hP2
      by_cases hk : -1000 ≤ k ∧ k ≤ 1000
      · have HE := Lib.hid (outB_yes (ok := addOk ts us k) (L := adP ts k us) (by unfold addOk; rw [hu, hv, decide_eq_true hk]; rfl))
        have h64 : ∀ u ∈ ts, in64 u.2 := fun u hu' => (good_in64 (polyB_good' hu u hu')).2
        have hnl : n ≤ 600 := by have := polyB_len hu; have := hs.1; omega
        have hnl2 : n2 ≤ 600 := by have := polyB_len hv; have := hs2.1; omega
        have HKK := Lib.hid (openM_cap hu)
        have HKK2 := Lib.hid (openM_cap hv)
        have H64 := Lib.hid (open_in64 h64)
        have HL := Lib.hid hs.1
        have HL2 := Lib.hid hs2.1
        have HP1 := Lib.hid hP
        have HP2 := Lib.hid hP2
        have HOP := Lib.hid (fun w' (hd : Below w.heap.size w w') => l2Open_any A n c ts w' (hs.below hd (Nat.le_refl _)) (by omega) (fun k hk => by
          have := (goodT_iff _).1 (polyB_good hu (k := k) (by rw [hs.1]; exact hk))
          exact ⟨this.1, this.2.1⟩))
        have HOP2 := Lib.hid (fun w' (hd : Below w.heap.size w w') => l2Open_any A2 n2 c2 us w' (hs2.below hd (Nat.le_refl _)) (by omega) (fun k hk => by
          have := (goodT_iff _).1 (polyB_good hv (k := k) (by rw [hs2.1]; exact hk))
          exact ⟨this.1, this.2.1⟩))
        have HV := Lib.hid (fun w => l1In_yes' hk.1 hk.2 w)
        clear hP hu hP2 hv h64 hs hs2 hk
        go_enter Try.func28, Try.ntmps28
        go_wp2_with (first
          | (go_at_call 52; first | ((with_reducible refine HP1.out.mono ?_); rintro e w7 ⟨rfl, hd7⟩; have HD7 := Lib.hid (hd7.below w.heap.size); clear hd7) | ((with_reducible refine (HP2.out _ HD7.out).mono ?_); rintro e w8 ⟨rfl, hd8⟩; have HD8 := Lib.hid (HD7.out.trans (hd8.below w.heap.size)); clear hd8))
          | (go_at_call 68; refine (HV.out _).mono ?_; rintro e w9 ⟨rfl, rfl⟩)
          | (go_at_call 56; first
              | ((with_reducible refine (HOP2.out _ HB1.out).mono ?_); rintro e w2 ⟨A4, n4, c4, rfl, ho, hb⟩
                 obtain rfl : n2 = n4 := by have := ho.len; unfold openM at this; rw [List.length_map, HL2.out] at this; exact this
                 have HB2 : Hid (Below w.heap.size w w2) := Lib.hid (HB1.out.trans (hb.mono HB1.out.size))
                 have HO2 := Lib.hid ho
                 have HO1' := Lib.hid (HO1.out.below hb (Nat.le_refl _))
                 clear ho hb)
              | (refine (HOP.out _ HD8.out).mono ?_; rintro e w1 ⟨A1, n1, c1, rfl, ho, hb⟩
                 obtain rfl : n = n1 := by have := ho.len; unfold openM at this; rw [List.length_map, HL.out] at this; exact this
                 have HB1 : Hid (Below w.heap.size w w1) := Lib.hid (HD8.out.trans (hb.mono HD8.out.size))
                 have HO1 := Lib.hid ho
                 clear ho hb))
          | (go_at_call 64; refine (l2Plus_any A1 n c1 (openM ts) k A4 n2 c4 (openM us) _ HO1'.out.si HO2.out.si (by omega) (by omega) H64.out).mono ?_; rintro e w3 ⟨A3, n3, c3, rfl, ho, hb⟩
             have HN3 : Hid (n3 ≤ 1000000) := Lib.hid (by
               have h1 := ho.len
               have h2 := gatherL_len (openM ts ++ scaleM k (openM us))
               have h3 := HO1'.out.len
               have h4 := HO2.out.len
               have h6 : (scaleM k (openM us)).length = (openM us).length := by unfold scaleM; rw [List.length_map]
               rw [List.length_append, h6] at h2
               omega)
             have HB3 : Hid (Below w.heap.size w w3) := Lib.hid (HB2.out.trans (hb.mono HB2.out.size))
             have HO3 := Lib.hid ho
             clear ho hb)
          | (go_at_call 54; refine (l2Shut_any A3 n3 c3 _ _ HO3.out.si (by have := HN3.out; omega) (((HKK.out.app (HKK2.out.scale k)).gather).in49)).mono ?_; rintro e w5 ⟨A5, n5, c5, rfl, ho, hb⟩
             have HB5 : Hid (Below w.heap.size w w5) := Lib.hid (HB3.out.trans (hb.mono HB3.out.size))
             have HO5 := Lib.hid ho
             have HZ5 := Lib.hid HB3.out.size
             clear ho hb))
        go_ret2
        rw [HE.out.1, HE.out.2]
        exact ⟨A5, n5, c5, rfl, HO5.out.wide HZ5.out (Nat.le_refl _), HB5.out⟩
      · have HE := Lib.hid (outB_no (ok := addOk ts us k) (L := adP ts k us) (by unfold addOk; rw [decide_eq_false hk, Bool.and_false]))
        have HP1 := Lib.hid hP
        have HP2 := Lib.hid hP2
        have HV := Lib.hid (fun w => l1In_no' (a := k) (lo := -1000) (hi := 1000) (by omega) w)
        clear hP hu hP2 hv hk
        go_enter Try.func28, Try.ntmps28
        go_wp2_with (first
          | (go_at_call 52; first | ((with_reducible refine HP1.out.mono ?_); rintro e w7 ⟨rfl, hd7⟩; have HD7 := Lib.hid (hd7.below w.heap.size); clear hd7) | ((with_reducible refine (HP2.out _ HD7.out).mono ?_); rintro e w8 ⟨rfl, hd8⟩; have HD8 := Lib.hid (HD7.out.trans (hd8.below w.heap.size)); clear hd8))
          | (go_at_call 68; refine (HV.out _).mono ?_; rintro e w9 ⟨rfl, rfl⟩))
        go_ret2
        rw [HE.out.1, HE.out.2]
        exact FreshTB.nil_ret HD8.out
set_option maxRecDepth 100000 in
set_option maxHeartbeats 1000000 in
theorem specMulPolys_any (A : Option Addr) (n c : Nat) (ts : List Tm) (A2 : Option Addr) (n2 c2 : Nat) (us : List Tm) (w : World) (hs : TS w A n ts) (hs2 : TS w A2 n2 us) (hn : n ≤ 1099511627776) (hne : ∀ k, k < n → (tm ts k).1.length ≤ 1099511627776)
    (hn2 : n2 ≤ 1099511627776) (hne2 : ∀ k, k < n2 → (tm us k).1.length ≤ 1099511627776) :
    Calls Try.prog 30 #[.slice A n c, .slice A2 n2 c2] w fun r w' => FreshTB w w' r (outB (mulOk ts us) (muP ts us)) (outL (mulOk ts us) (muP ts us)) := by
  have hP := specPolyOk_any A n c ts w hs hn hne
  have hP2 := fun w' (hd : Below w.heap.size w w') => specPolyOk_any A2 n2 c2 us w' (hs2.below hd (Nat.le_refl _)) hn2 hne2
  cases hu : polyB ts with
  | false =>
    rw [hu] at hP
    have HE := Lib.hid (outB_no (ok := mulOk ts us) (L := muP ts us) (by unfold mulOk; rw [hu]; rfl))
    have HP1 := Lib.hid hP
    clear hP hu hP2
    go_enter Try.func30, Try.ntmps30
    go_wp2_with (go_at_call 52; refine HP1.out.mono ?_; rintro e w7 ⟨rfl, hd7⟩; have HD7 := Lib.hid (hd7.below w.heap.size); clear hd7)
    go_ret2
    rw [HE.out.1, HE.out.2]
    exact FreshTB.nil_ret HD7.out
  | true =>
    rw [hu] at hP
    cases hv : polyB us with
    | false =>
      rw [hv] at hP2
      have HE := Lib.hid (outB_no (ok := mulOk ts us) (L := muP ts us) (by unfold mulOk; rw [hu, hv]; rfl))
      have HP1 := Lib.hid hP
      have HP2 := Lib.hid hP2
      clear hP hu hP2 hv
      go_enter Try.func30, Try.ntmps30
      go_wp2_with (go_at_call 52; first | ((with_reducible refine HP1.out.mono ?_); rintro e w7 ⟨rfl, hd7⟩; have HD7 := Lib.hid (hd7.below w.heap.size); clear hd7) | ((with_reducible refine (HP2.out _ HD7.out).mono ?_); rintro e w8 ⟨rfl, hd8⟩; have HD8 := Lib.hid (HD7.out.trans (hd8.below w.heap.size)); clear hd8))
      go_ret2
      rw [HE.out.1, HE.out.2]
      exact FreshTB.nil_ret HD8.out
    | true =>
      rw [hv] at hP2
      have HE := Lib.hid (outB_yes (ok := mulOk ts us) (L := muP ts us) (by unfold mulOk; rw [hu, hv]; rfl))
      have h64 : ∀ u ∈ ts, in64 u.2 := fun u hu' => (good_in64 (polyB_good' hu u hu')).2
      have hnl : n ≤ 600 := by have := polyB_len hu; have := hs.1; omega
      have hnl2 : n2 ≤ 600 := by have := polyB_len hv; have := hs2.1; omega
      have HKK := Lib.hid (openM_cap hu)
      have HKK2 := Lib.hid (openM_cap hv)
      have H64 := Lib.hid (open_in64 h64)
      have HL := Lib.hid hs.1
      have HL2 := Lib.hid hs2.1
      have HP1 := Lib.hid hP
      have HP2 := Lib.hid hP2
      have HOP := Lib.hid (fun w' (hd : Below w.heap.size w w') => l2Open_any A n c ts w' (hs.below hd (Nat.le_refl _)) (by omega) (fun k hk => by
        have := (goodT_iff _).1 (polyB_good hu (k := k) (by rw [hs.1]; exact hk))
        exact ⟨this.1, this.2.1⟩))
      have HOP2 := Lib.hid (fun w' (hd : Below w.heap.size w w') => l2Open_any A2 n2 c2 us w' (hs2.below hd (Nat.le_refl _)) (by omega) (fun k hk => by
        have := (goodT_iff _).1 (polyB_good hv (k := k) (by rw [hs2.1]; exact hk))
        exact ⟨this.1, this.2.1⟩))
      clear hP hu hP2 hv h64 hs hs2
      go_enter Try.func30, Try.ntmps30
      go_wp2_with (first
        | (go_at_call 52; first | ((with_reducible refine HP1.out.mono ?_); rintro e w7 ⟨rfl, hd7⟩; have HD7 := Lib.hid (hd7.below w.heap.size); clear hd7) | ((with_reducible refine (HP2.out _ HD7.out).mono ?_); rintro e w8 ⟨rfl, hd8⟩; have HD8 := Lib.hid (HD7.out.trans (hd8.below w.heap.size)); clear hd8))
        | (go_at_call 56; first
            | ((with_reducible refine (HOP2.out _ HB1.out).mono ?_); rintro e w2 ⟨A4, n4, c4, rfl, ho, hb⟩
               obtain rfl : n2 = n4 := by have := ho.len; unfold openM at this; rw [List.length_map, HL2.out] at this; exact this
               have HB2 : Hid (Below w.heap.size w w2) := Lib.hid (HB1.out.trans (hb.mono HB1.out.size))
               have HO2 := Lib.hid ho
               have HO1' := Lib.hid (HO1.out.below hb (Nat.le_refl _))
               clear ho hb)
            | (refine (HOP.out _ HD8.out).mono ?_; rintro e w1 ⟨A1, n1, c1, rfl, ho, hb⟩
               obtain rfl : n = n1 := by have := ho.len; unfold openM at this; rw [List.length_map, HL.out] at this; exact this
               have HB1 : Hid (Below w.heap.size w w1) := Lib.hid (HD8.out.trans (hb.mono HD8.out.size))
               have HO1 := Lib.hid ho
               clear ho hb))
        | (go_at_call 73; refine (l2Times_any A1 n c1 (openM ts) A4 n2 c4 (openM us) _ HO1'.out.si HO2.out.si (Nat.le_trans (Nat.mul_le_mul hnl hnl2) (by decide)) (by omega) (by omega) HKK.out.in50 HKK2.out.in50).mono ?_; rintro e w3 ⟨A3, n3, c3, rfl, ho, hb⟩
           have HN3 : Hid (n3 ≤ 1000000) := Lib.hid (by
             have h1 := ho.len
             have h2 := gatherL_len (timesL (openM ts) (openM us))
             have h3 := HO1'.out.len
             have h4 := HO2.out.len
             have h5 := Nat.mul_le_mul hnl hnl2
             rw [times_len, h3, h4] at h2
             omega)
           have HB3 : Hid (Below w.heap.size w w3) := Lib.hid (HB2.out.trans (hb.mono HB2.out.size))
           have HO3 := Lib.hid ho
           clear ho hb)
        | (go_at_call 54; refine (l2Shut_any A3 n3 c3 _ _ HO3.out.si (by have := HN3.out; omega) (((HKK.out.times HKK2.out (by omega)).gather).in49)).mono ?_; rintro e w5 ⟨A5, n5, c5, rfl, ho, hb⟩
           have HB5 : Hid (Below w.heap.size w w5) := Lib.hid (HB3.out.trans (hb.mono HB3.out.size))
           have HO5 := Lib.hid ho
           have HZ5 := Lib.hid HB3.out.size
           clear ho hb))
      go_ret2
      rw [HE.out.1, HE.out.2]
      exact ⟨A5, n5, c5, rfl, HO5.out.wide HZ5.out (Nat.le_refl _), HB5.out⟩
end Go.Proofs.Ytmndchhbafkbeaa

/-
  The program's sums and products of polynomials. Conditions: lengths below 2^40.
-/

namespace Go.Proofs.Ytmndchhbafkbeaa
open Go.RowKit

set_option maxRecDepth 100000 in
set_option maxHeartbeats 1000000 in
theorem implAddPolys_any (A : Option Addr) (n c : Nat) (ts : List Tm) (k : Int) (A2 : Option Addr) (n2 c2 : Nat) (us : List Tm) (w : World) (hs : TS w A n ts) (hs2 : TS w A2 n2 us) (hn : n ≤ 1099511627776) (hne : ∀ k, k < n → (tm ts k).1.length ≤ 1099511627776)
    (hn2 : n2 ≤ 1099511627776) (hne2 : ∀ k, k < n2 → (tm us k).1.length ≤ 1099511627776) :
    Calls Try.prog 29 #[.slice A n c, .int .i64 k, .slice A2 n2 c2] w fun r w' => FreshTB w w' r (outB (addOk ts us k) (adP ts k us)) (outL (addOk ts us k) (adP ts k us)) := by
  have hP := implPolyOk_any A n c ts w hs hn hne
  have hP2 := fun w' (hd : Below w.heap.size w w') => implPolyOk_any A2 n2 c2 us w' (hs2.below hd (Nat.le_refl _)) hn2 hne2
  cases hu : polyB ts with
  | false =>
    rw [hu] at hP
    have HE := Lib.hid (outB_no (ok := addOk ts us k) (L := adP ts k us) (by unfold addOk; rw [hu]; rfl))
    have HP1 := Lib.hid hP
    clear hP hu hP2
    go_enter Try.func29, Try.ntmps29
    go_wp2_with (go_at_call 69; refine HP1.out.mono ?_; rintro e w7 ⟨rfl, hd7⟩; have HD7 := Lib.hid hd7; clear hd7)
    go_ret2
    rw [HE.out.1, HE.out.2]
    exact FreshTB.nil_ret HD7.out
  | true =>
    rw [hu] at hP
    cases hv : polyB us with
    | false =>
      rw [hv] at hP2
      have HE := Lib.hid (outB_no (ok := addOk ts us k) (L := adP ts k us) (by unfold addOk; rw [hu, hv]; rfl))
      have HP1 := Lib.hid hP
      have HP2 := Lib.hid hP2
      clear hP hu hP2 hv
      go_enter Try.func29, Try.ntmps29
      go_wp2_with (go_at_call 69; first | ((with_reducible refine HP1.out.mono ?_); rintro e w7 ⟨rfl, hd7⟩; have HD7 := Lib.hid hd7; clear hd7) | ((with_reducible refine (HP2.out _ HD7.out).mono ?_); rintro e w8 ⟨rfl, hd8⟩; have HD8 := Lib.hid (HD7.out.trans (hd8.mono HD7.out.size)); clear hd8))
      go_ret2
      rw [HE.out.1, HE.out.2]
      exact FreshTB.nil_ret HD8.out
    | true =>
      rw [hv] at hP2
      by_cases hk : -1000 ≤ k ∧ k ≤ 1000
      · have HE := Lib.hid (outB_yes (ok := addOk ts us k) (L := adP ts k us) (by unfold addOk; rw [hu, hv, decide_eq_true hk]; rfl))
        have HALL := Lib.hid (polyB_all' hu hs.1)
        have HALL2 := Lib.hid (polyB_all' hv hs2.1)
        have HP1 := Lib.hid hP
        have HP2 := Lib.hid hP2
        have HSU := Lib.hid (fun w' (hd : Below w.heap.size w w') => sumOf_any A n c ts 24 w' (hs.below hd (Nat.le_refl _)) hn HALL.out.1 HALL.out.2)
        have HSU2 := Lib.hid (fun w' (hd : Below w.heap.size w w') => sumOf_any A2 n2 c2 us 24 w' (hs2.below hd (Nat.le_refl _)) hn2 HALL2.out.1 HALL2.out.2)
        have hk1 : ¬ k < -1000 := by omega
        have hk2 : ¬ 1000 < k := by omega
        clear hP hu hP2 hv hs hs2 hk
        go_enter Try.func29, Try.ntmps29
        go_wp2_with (first
          | (go_at_call 69; first | ((with_reducible refine HP1.out.mono ?_); rintro e w7 ⟨rfl, hd7⟩; have HD7 := Lib.hid hd7; clear hd7) | ((with_reducible refine (HP2.out _ HD7.out).mono ?_); rintro e w8 ⟨rfl, hd8⟩; have HD8 := Lib.hid (HD7.out.trans (hd8.mono HD7.out.size)); clear hd8))
          | (go_at_call 70; first
              | ((with_reducible refine (HSU2.out _ HB1.out).mono ?_); rintro e w2 ⟨g2, b2, M2, rfl, hs2, hg2, hl2, hm2, hc2, hb2⟩
                 have HS2 := Lib.hid hs2; have HM2 := Lib.hid hm2; have HC2 := Lib.hid hc2
                 have HS1' := Lib.hid (HS1.out.below hb2 HS1.out.1.lt HS1.out.2.lt)
                 have HNE : Hid (b1 ≠ b2) := Lib.hid (by have := HS1.out.2.lt; omega)
                 have HB2 : Hid (Below w.heap.size w w2) := Lib.hid (HB1.out.trans (hb2.mono HB1.out.size))
                 clear hs2 hm2 hc2 hb2 hg2 hl2)
              | (refine (HSU.out _ HD8.out).mono ?_; rintro e w1 ⟨g1, b1, M1, rfl, hs1, hg1, hl1, hm1, hc1, hb1⟩
                 have HS1 := Lib.hid hs1; have HM1 := Lib.hid hm1; have HC1 := Lib.hid hc1
                 have HG1 : Hid (w.heap.size ≤ b1) := Lib.hid (Nat.le_trans HD8.out.size hl1)
                 have HB1 : Hid (Below w.heap.size w w1) := Lib.hid (HD8.out.trans (hb1.mono HD8.out.size))
                 clear hs1 hm1 hc1 hb1 hg1 hl1))
          | (go_at_call 71; refine (addTimes_any g1 b1 g2 b2 M1 M2 k 24 _ HS1'.out HS2.out HNE.out HC1.out HC2.out).mono ?_; rintro e w3 ⟨rfl, M3, hs3, hm3, hc3, hg3⟩
             have HS3 := Lib.hid hs3
             have HM3 : Hid (sameC (openM M3) (adP ts k us)) := Lib.hid (hm3.trans (HM1.out.app (HM2.out.scale k)))
             have HB3 : Hid (Below w.heap.size w w3) := Lib.hid (HB2.out.trans (grown_belowM hg3 HB2.out.size (fun j hj => by injection hj with hj; have := HG1.out; omega)))
             clear hs3 hm3 hc3 hg3)
          | (go_at_call 72; refine (terms_any g1 b1 M3 (adP ts k us) _ HS3.out HM3.out).mono ?_; rintro e w5 ⟨A5, n5, c5, rfl, ho, hb⟩
             have HB5 : Hid (Below w.heap.size w w5) := Lib.hid (HB3.out.trans (hb.mono HB3.out.size))
             have HO5 := Lib.hid ho
             have HZ5 := Lib.hid HB3.out.size
             clear ho hb))
        go_ret2
        rw [HE.out.1, HE.out.2]
        exact ⟨A5, n5, c5, rfl, HO5.out.wide HZ5.out (Nat.le_refl _), HB5.out⟩
      · have HE := Lib.hid (outB_no (ok := addOk ts us k) (L := adP ts k us) (by unfold addOk; rw [decide_eq_false hk, Bool.and_false]))
        have HP1 := Lib.hid hP
        have HP2 := Lib.hid hP2
        clear hP hu hP2 hv
        by_cases hk1 : k < -1000
        · clear hk
          go_enter Try.func29, Try.ntmps29
          go_wp2_with (go_at_call 69; first | ((with_reducible refine HP1.out.mono ?_); rintro e w7 ⟨rfl, hd7⟩; have HD7 := Lib.hid hd7; clear hd7) | ((with_reducible refine (HP2.out _ HD7.out).mono ?_); rintro e w8 ⟨rfl, hd8⟩; have HD8 := Lib.hid (HD7.out.trans (hd8.mono HD7.out.size)); clear hd8))
          go_ret2
          rw [HE.out.1, HE.out.2]
          exact FreshTB.nil_ret HD8.out
        · have hk2 : 1000 < k := by omega
          clear hk
          go_enter Try.func29, Try.ntmps29
          go_wp2_with (go_at_call 69; first | ((with_reducible refine HP1.out.mono ?_); rintro e w7 ⟨rfl, hd7⟩; have HD7 := Lib.hid hd7; clear hd7) | ((with_reducible refine (HP2.out _ HD7.out).mono ?_); rintro e w8 ⟨rfl, hd8⟩; have HD8 := Lib.hid (HD7.out.trans (hd8.mono HD7.out.size)); clear hd8))
          go_ret2
          rw [HE.out.1, HE.out.2]
          exact FreshTB.nil_ret HD8.out
set_option maxRecDepth 100000 in
set_option maxHeartbeats 1000000 in
theorem implMulPolys_any (A : Option Addr) (n c : Nat) (ts : List Tm) (A2 : Option Addr) (n2 c2 : Nat) (us : List Tm) (w : World) (hs : TS w A n ts) (hs2 : TS w A2 n2 us) (hn : n ≤ 1099511627776) (hne : ∀ k, k < n → (tm ts k).1.length ≤ 1099511627776)
    (hn2 : n2 ≤ 1099511627776) (hne2 : ∀ k, k < n2 → (tm us k).1.length ≤ 1099511627776) :
    Calls Try.prog 31 #[.slice A n c, .slice A2 n2 c2] w fun r w' => FreshTB w w' r (outB (mulOk ts us) (muP ts us)) (outL (mulOk ts us) (muP ts us)) := by
  have hP := implPolyOk_any A n c ts w hs hn hne
  have hP2 := fun w' (hd : Below w.heap.size w w') => implPolyOk_any A2 n2 c2 us w' (hs2.below hd (Nat.le_refl _)) hn2 hne2
  cases hu : polyB ts with
  | false =>
    rw [hu] at hP
    have HE := Lib.hid (outB_no (ok := mulOk ts us) (L := muP ts us) (by unfold mulOk; rw [hu]; rfl))
    have HP1 := Lib.hid hP
    clear hP hu hP2
    go_enter Try.func31, Try.ntmps31
    go_wp2_with (go_at_call 69; refine HP1.out.mono ?_; rintro e w7 ⟨rfl, hd7⟩; have HD7 := Lib.hid hd7; clear hd7)
    go_ret2
    rw [HE.out.1, HE.out.2]
    exact FreshTB.nil_ret HD7.out
  | true =>
    rw [hu] at hP
    cases hv : polyB us with
    | false =>
      rw [hv] at hP2
      have HE := Lib.hid (outB_no (ok := mulOk ts us) (L := muP ts us) (by unfold mulOk; rw [hu, hv]; rfl))
      have HP1 := Lib.hid hP
      have HP2 := Lib.hid hP2
      clear hP hu hP2 hv
      go_enter Try.func31, Try.ntmps31
      go_wp2_with (go_at_call 69; first | ((with_reducible refine HP1.out.mono ?_); rintro e w7 ⟨rfl, hd7⟩; have HD7 := Lib.hid hd7; clear hd7) | ((with_reducible refine (HP2.out _ HD7.out).mono ?_); rintro e w8 ⟨rfl, hd8⟩; have HD8 := Lib.hid (HD7.out.trans (hd8.mono HD7.out.size)); clear hd8))
      go_ret2
      rw [HE.out.1, HE.out.2]
      exact FreshTB.nil_ret HD8.out
    | true =>
      rw [hv] at hP2
      have HE := Lib.hid (outB_yes (ok := mulOk ts us) (L := muP ts us) (by unfold mulOk; rw [hu, hv]; rfl))
      have HALL := Lib.hid (polyB_all' hu hs.1)
      have HALL2 := Lib.hid (polyB_all' hv hs2.1)
      have HP1 := Lib.hid hP
      have HP2 := Lib.hid hP2
      have HSU := Lib.hid (fun w' (hd : Below w.heap.size w w') => sumOf_any A n c ts 24 w' (hs.below hd (Nat.le_refl _)) hn HALL.out.1 HALL.out.2)
      have HSU2 := Lib.hid (fun w' (hd : Below w.heap.size w w') => sumOf_any A2 n2 c2 us 24 w' (hs2.below hd (Nat.le_refl _)) hn2 HALL2.out.1 HALL2.out.2)
      clear hP hu hP2 hv hs hs2
      go_enter Try.func31, Try.ntmps31
      go_wp2_with (first
        | (go_at_call 69; first | ((with_reducible refine HP1.out.mono ?_); rintro e w7 ⟨rfl, hd7⟩; have HD7 := Lib.hid hd7; clear hd7) | ((with_reducible refine (HP2.out _ HD7.out).mono ?_); rintro e w8 ⟨rfl, hd8⟩; have HD8 := Lib.hid (HD7.out.trans (hd8.mono HD7.out.size)); clear hd8))
        | (go_at_call 70; first
            | ((with_reducible refine (HSU2.out _ HB1.out).mono ?_); rintro e w2 ⟨g2, b2, M2, rfl, hs2, hg2, hl2, hm2, hc2, hb2⟩
               have HS2 := Lib.hid hs2; have HM2 := Lib.hid hm2; have HC2 := Lib.hid hc2
               have HS1' := Lib.hid (HS1.out.below hb2 HS1.out.1.lt HS1.out.2.lt)
               have HNE : Hid (b1 ≠ b2) := Lib.hid (by have := HS1.out.2.lt; omega)
               have HB2 : Hid (Below w.heap.size w w2) := Lib.hid (HB1.out.trans (hb2.mono HB1.out.size))
               clear hs2 hm2 hc2 hb2 hg2 hl2)
            | (refine (HSU.out _ HD8.out).mono ?_; rintro e w1 ⟨g1, b1, M1, rfl, hs1, hg1, hl1, hm1, hc1, hb1⟩
               have HS1 := Lib.hid hs1; have HM1 := Lib.hid hm1; have HC1 := Lib.hid hc1
               have HG1 : Hid (w.heap.size ≤ b1) := Lib.hid (Nat.le_trans HD8.out.size hl1)
               have HB1 : Hid (Below w.heap.size w w1) := Lib.hid (HD8.out.trans (hb1.mono HD8.out.size))
               clear hs1 hm1 hc1 hb1 hg1 hl1))
        | (go_at_call 74; refine (sumTimes_any g1 b1 g2 b2 M1 M2 24 24 _ HS1'.out HS2.out HC1.out HC2.out (by omega)).mono ?_; rintro e w3 ⟨g3, b3, M3, rfl, hs3, _, _, hm3, hc3, hb3⟩
           have HS3 := Lib.hid hs3
           have HM3 : Hid (sameC (openM M3) (muP ts us)) := Lib.hid (hm3.trans (HM1.out.times HM2.out))
           have HB3 : Hid (Below w.heap.size w w3) := Lib.hid (HB2.out.trans (hb3.mono HB2.out.size))
           clear hs3 hm3 hc3 hb3)
        | (go_at_call 72; refine (terms_any g3 b3 M3 (muP ts us) _ HS3.out HM3.out).mono ?_; rintro e w5 ⟨A5, n5, c5, rfl, ho, hb⟩
           have HB5 : Hid (Below w.heap.size w w5) := Lib.hid (HB3.out.trans (hb.mono HB3.out.size))
           have HO5 := Lib.hid ho
           have HZ5 := Lib.hid HB3.out.size
           clear ho hb))
      go_ret2
      rw [HE.out.1, HE.out.2]
      exact ⟨A5, n5, c5, rfl, HO5.out.wide HZ5.out (Nat.le_refl _), HB5.out⟩
end Go.Proofs.Ytmndchhbafkbeaa

/-
  How much the statement's own words ask of lists of terms, two of them. Conditions: none.
-/

namespace Go.Proofs.Ytmndchhbafkbeaa
open Go.RowKit

theorem endT_shift : ∀ (ts : List Tm) (q q' : Int), endT ts q = endT ts q' + (q - q')
  | [], q, q' => by show q = q' + (q - q'); omega
  | t :: r, q, q' => by
    show endT r (q + (t.1.length : Int) + 1) = endT r (q' + (t.1.length : Int) + 1) + (q - q')
    rw [endT_shift r (q + (t.1.length : Int) + 1) (q' + (t.1.length : Int) + 1)]
    omega
theorem endT_ge : ∀ (ts : List Tm) (q : Int), q ≤ endT ts q
  | [], _ => Int.le_refl _
  | t :: r, q => by
    have := endT_ge r (q + (t.1.length : Int) + 1)
    show q ≤ endT r (q + (t.1.length : Int) + 1)
    omega
theorem endT_from {ts : List Tm} {y : Int} (h0 : 0 ≤ y) (h1 : y ≤ 4194304) (h : endT ts 1 ≤ 4194304) : 0 ≤ endT ts y ∧ endT ts y ≤ 1099511627776 := by
  have a := endT_ge ts y
  have b := endT_shift ts y 1
  omega
set_option maxHeartbeats 800000 in
theorem szTermS_from (A : Option Addr) (n c : Nat) (ts : List Tm) (q : Int) (w : World) (hs : TS w A n ts) (hn : n ≤ 9223372036854775807) (hne : ∀ k, k < n → (tm ts k).1.length ≤ 9223372036854775807) (hq0 : 0 ≤ q) (hq1 : q ≤ 1048576) :
    Calls Try.prog 15 #[.slice A n c, .int .i64 q] w fun e w' => (∃ r : Int, e = .returned (.int .i64 r) ∧ (r < 0 ∨ (0 ≤ r ∧ r ≤ 1048576 ∧ n ≤ 1048576 ∧ (∀ k, k < n → (tm ts k).1.length ≤ 1048576) ∧ ∀ k, k ≤ n → 0 ≤ endT (ts.take k) 1 ∧ endT (ts.take k) 1 ≤ 4194304))) ∧ Below w.heap.size w w' := by
  have HNE := Lib.hid hne
  have HLL := Lib.hid hs.1
  clear hne
  by_cases hbig : q < (n : Int)
  · have h' : q - (n : Int) < 0 := by omega
    have hw : IntKind.i64.wrap (q - (n : Int)) = q - (n : Int) := IntWalk.i64_in _ (by omega)
    go_enter Try.func15, Try.ntmps15
    go_wp2
    go_ret
    exact ⟨⟨_, rfl, .inl (by omega)⟩, Below.refl _ _⟩
  · have h' : ¬ q - (n : Int) < 0 := by omega
    have hw : IntKind.i64.wrap (q - (n : Int)) = q - (n : Int) := IntWalk.i64_in _ (by omega)
    go_enter Try.func15, Try.ntmps15
    go_wp2
    go_loopw [1, 5] (fun v i wr => ∃ (k : Nat) (l : Int), k ≤ n ∧ i = .int .i64 k ∧ v = .int .i64 l ∧ 0 ≤ l ∧ l ≤ 1048576 ∧ (∀ j, j < k → (tm ts j).1.length ≤ 1048576) ∧ (endT (ts.take k) 1 = q + 1 - (n : Int) + (k : Int) - l ∧ ∀ j, j ≤ k → 0 ≤ endT (ts.take j) 1 ∧ endT (ts.take j) 1 ≤ 4194304) ∧ Below w.heap.size w wr)
      (fun _ i _ => n - (intOf i).toNat)
    case atStart => exact ⟨0, _, Nat.zero_le _, rfl, rfl, by omega, by omega, fun j hj => absurd hj (by omega), ⟨by simp [endT]; omega, fun j hj => by
      obtain rfl : j = 0 := by omega
      simp [endT]⟩, Below.refl _ _⟩
    case round =>
      obtain ⟨k, l, hk, rfl, rfl, hl0, hl1, hall, htot, hbel⟩ := hrel
      have HA := Lib.hid hall
      have HT := Lib.hid htot
      have HB := Lib.hid hbel
      clear hall htot
      clear h' hw
      by_cases hlt : k < n
      · obtain ⟨b, o, A', n', c', rfl, hb, hc0, hc1, hsi, hnc, hnil⟩ := (hs.below hbel (by omega)).at_ hlt
        obtain ⟨x, hx⟩ : ∃ x, x = (tm ts k).2 := ⟨_, rfl⟩
        rw [← hx] at hc1
        have hlen := hsi.1
        have hn' : n' ≤ 9223372036854775807 := by have := HNE.out k hlt; omega
        have HLEN := Lib.hid hlen
        clear hx hsi hbel hs hlen hnil
        have hlI : (k : Int) < (n : Int) := by omega
        by_cases hsm : l < (n' : Int)
        · have hS := fun w => szTerm_any A' n' c' x l w hn' hl0 hl1
          rw [if_pos hsm] at hS
          have HS := Lib.hid hS
          clear hS
          go_wp2_with fail
          refine (HS.out _).mono ?_
          rintro e w2 ⟨rfl, hb2⟩
          have HB2 := Lib.hid (HB.out.trans (hb2.mono HB.out.size))
          clear hb2
          go_wp2
          go_ret
          exact ⟨⟨_, rfl, .inl (by omega)⟩, HB2.out⟩
        · have hS := fun w => szTerm_any A' n' c' x l w hn' hl0 hl1
          rw [if_neg hsm] at hS
          obtain ⟨m, hm⟩ : ∃ m, m = l - (n' : Int) := ⟨_, rfl⟩
          rw [← hm] at hS
          have HS := Lib.hid hS
          have HM := Lib.hid hm
          have hm0 : 0 ≤ m := by omega
          have hm1 : m ≤ 1048576 := by omega
          have hmn : ¬ m < 0 := by omega
          have hsml : n' ≤ 1048576 := by omega
          clear hS hm
          go_wp2_with fail
          refine (HS.out _).mono ?_
          rintro e w2 ⟨rfl, hb2⟩
          have HB2 := Lib.hid (HB.out.trans (hb2.mono HB.out.size))
          clear hb2
          go_wp2
          go_roundw
          case rel =>
            have e1 := endT_succ (ts := ts) (q := 1) (k := k) (by have := HLL.out; omega)
            have e2 := HT.out.1
            have e3 := HLEN.out
            have e4 := HM.out
            have e5 := (HT.out.2 k (Nat.le_refl _)).1
            exact ⟨k + 1, m, by omega, by go_num, rfl, hm0, hm1, fun j hj => by
              rcases Nat.lt_or_ge j k with h | h
              · exact HA.out j h
              · obtain rfl : j = k := by omega
                omega, ⟨by omega, fun j hj => by
              rcases Nat.lt_or_ge j (k + 1) with h | h
              · exact HT.out.2 j (by omega)
              · obtain rfl : j = k + 1 := by omega
                omega⟩, HB2.out⟩
          case measure => simp [intOf]; omega
      · have hkn : k = n := by omega
        subst hkn
        go_wp2
        go_ret
        exact ⟨⟨l, rfl, .inr ⟨hl0, hl1, by omega, HA.out, HT.out.2⟩⟩, HB.out⟩
end Go.Proofs.Ytmndchhbafkbeaa
