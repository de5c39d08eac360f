/-
  Texts Coef to ApmS, merged. Conditions: as each says.
-/
import Derived.Deep.Cut
import Derived.Deep.AppendLies
import Derived.Deep.RegionLaw
import Derived.Shelf.SlSortCmp.WholeK
import Derived.Test.YtjpoliibljjhnaaLayL
import Derived.Shelf.SlSortCmp.NoneTotal
import Derived.ProofKit
import Derived.OpenShut
import Derived.ChangeOld
import Derived.Deep.Matrix
import Derived.Lib.SliceRun
import Derived.Test.YtjpoliibljjhnaaPkB2
/-
  The coefficient at given exponents, on both sides. Conditions: lengths below 2^40.
-/

namespace Go.Proofs.Ytjpoliibljjhnaa
open Go.RowKit

set_option maxHeartbeats 400000 in
/-- l1Same: are the two lists one. -/
theorem l1Same_any (A A' : Option Addr) (n c n' c' : Nat) (xs ys : List Int) (w : World) (hs : SI w A n xs) (hs' : SI w A' n' ys) (hn : n ≤ 1099511627776) (hn' : n' ≤ 1099511627776) :
    Calls Try.prog 187 #[.slice A n c, .slice A' n' c'] w fun e w' => e = .returned (.bool (eqL xs ys)) ∧ Drawn w w' := by
  have hl := hs.1
  have hl' := hs'.1
  by_cases hne : n = n'
  · subst hne
    go_enter Try.func187, Try.ntmps187
    go_wp2
    go_loopw [5] (fun i wr => ∃ k : Nat, k ≤ n ∧ i = .int .i64 k ∧ Drawn w wr ∧ ∀ j, j < k → nth xs j = nth ys j)
      (fun i _ => n - (intOf i).toNat)
    case atStart => exact ⟨0, Nat.zero_le _, rfl, Drawn.refl _, fun j hj => absurd hj (by omega)⟩
    case round =>
      obtain ⟨k, hk, rfl, hD, hall⟩ := hrel
      have HA := Lib.hid hall
      have hs := hD.si hs
      have hs' := hD.si hs'
      have HD := Lib.hid hD
      clear hall hD
      by_cases hlt : k < n
      · obtain ⟨b, o, rfl, hb, hc⟩ := hs.at_ (by omega)
        obtain ⟨b', o', rfl, hb', hc'⟩ := hs'.at_ (by omega)
        have hc1 := hc k hlt
        have hc1' := hc' k hlt
        clear hc hc' hs hs' hl hl'
        by_cases heq : nth xs k = nth ys k
        · have HE := Lib.hid heq
          rw [← heq] at hc1'
          clear heq
          obtain ⟨x, hx⟩ : ∃ x, x = nth xs k := ⟨_, rfl⟩
          rw [← hx] at hc1 hc1'
          clear hx
          have hlI : (k : Int) < (n : Int) := by omega
          go_wp2_with fail
          go_quiet (fail)
          go_wp2
          go_roundw
          case rel => exact ⟨k + 1, by omega, by go_num, HD.out.drewN _, fun j hj => by
            rcases Nat.lt_or_ge j k with h | h
            · exact HA.out j h
            · obtain rfl : j = k := by omega
              exact HE.out⟩
          case measure => simp [intOf]; omega
        · have HE := Lib.hid heq
          obtain ⟨x, hx⟩ : ∃ x, x = nth xs k := ⟨_, rfl⟩
          obtain ⟨y, hy⟩ : ∃ y, y = nth ys k := ⟨_, rfl⟩
          rw [← hx] at hc1 heq
          rw [← hy] at hc1' heq
          clear hx hy
          have hlI : (k : Int) < (n : Int) := by omega
          have hb : (x != y) = true := by simpa using heq
          clear heq
          go_wp2_with fail
          go_quiet (fail)
          go_wp2
          go_ret
          exact ⟨ret_bool (eqL_ne HE.out).symm, HD.out.drewN _⟩
      · have hkn : k = n := by omega
        subst hkn
        go_wp2
        go_ret
        exact ⟨ret_bool (eqL_all (by omega) (by rw [hl]; exact HA.out)).symm, HD.out⟩
  · have hne' : ¬ (n : Int) = (n' : Int) := by omega
    go_enter Try.func187, Try.ntmps187
    go_wp2
    go_ret
    exact ⟨ret_bool (eqL_len (by omega)).symm, Drawn.refl _⟩

set_option maxHeartbeats 400000 in
/-- slices.Equal: are the two lists one. -/
theorem slicesEqual_any (A A' : Option Addr) (n c n' c' : Nat) (xs ys : List Int) (w : World) (hs : SI w A n xs) (hs' : SI w A' n' ys) (hn : n ≤ 1099511627776) (hn' : n' ≤ 1099511627776) :
    Calls Try.prog 147 #[.slice A n c, .slice A' n' c'] w fun e w' => e = .returned (.bool (eqL xs ys)) ∧ Drawn w w' := by
  have hl := hs.1
  have hl' := hs'.1
  by_cases hne : n = n'
  · subst hne
    go_enter Try.func147, Try.ntmps147
    go_wp2
    go_loopw [13] (fun i wr => ∃ k : Nat, k ≤ n ∧ i = .int .i64 k ∧ Drawn w wr ∧ ∀ j, j < k → nth xs j = nth ys j)
      (fun i _ => n - (intOf i).toNat)
    case atStart => exact ⟨0, Nat.zero_le _, rfl, Drawn.refl _, fun j hj => absurd hj (by omega)⟩
    case round =>
      obtain ⟨k, hk, rfl, hD, hall⟩ := hrel
      have HA := Lib.hid hall
      have hs := hD.si hs
      have hs' := hD.si hs'
      have HD := Lib.hid hD
      clear hall hD
      by_cases hlt : k < n
      · obtain ⟨b, o, rfl, hb, hc⟩ := hs.at_ (by omega)
        obtain ⟨b', o', rfl, hb', hc'⟩ := hs'.at_ (by omega)
        have hc1 := hc k hlt
        have hc1' := hc' k hlt
        clear hc hc' hs hs' hl hl'
        by_cases heq : nth xs k = nth ys k
        · have HE := Lib.hid heq
          rw [← heq] at hc1'
          clear heq
          obtain ⟨x, hx⟩ : ∃ x, x = nth xs k := ⟨_, rfl⟩
          rw [← hx] at hc1 hc1'
          clear hx
          have hlI : (k : Int) < (n : Int) := by omega
          go_wp2_with fail
          go_quiet (fail)
          go_wp2
          go_roundw
          case rel => exact ⟨k + 1, by omega, by go_num, HD.out.drewN _, fun j hj => by
            rcases Nat.lt_or_ge j k with h | h
            · exact HA.out j h
            · obtain rfl : j = k := by omega
              exact HE.out⟩
          case measure => simp [intOf]; omega
        · have HE := Lib.hid heq
          obtain ⟨x, hx⟩ : ∃ x, x = nth xs k := ⟨_, rfl⟩
          obtain ⟨y, hy⟩ : ∃ y, y = nth ys k := ⟨_, rfl⟩
          rw [← hx] at hc1 heq
          rw [← hy] at hc1' heq
          clear hx hy
          have hlI : (k : Int) < (n : Int) := by omega
          have hb : (x != y) = true := by simpa using heq
          clear heq
          go_wp2_with fail
          go_quiet (fail)
          go_wp2
          go_ret
          exact ⟨ret_bool (eqL_ne HE.out).symm, HD.out.drewN _⟩
      · have hkn : k = n := by omega
        subst hkn
        go_wp2
        go_ret
        exact ⟨ret_bool (eqL_all (by omega) (by rw [hl]; exact HA.out)).symm, HD.out⟩
  · have hne' : ¬ (n : Int) = (n' : Int) := by omega
    go_enter Try.func147, Try.ntmps147
    go_wp2
    go_ret
    exact ⟨ret_bool (eqL_len (by omega)).symm, Drawn.refl _⟩


/-- The number of the first term with the exponents e. -/
def coefOf : List Tm → List Int → Int
  | [], _ => 0
  | t :: r, e => if t.1 = e then t.2 else coefOf r e
theorem tm_zero (t : Tm) (r : List Tm) : tm (t :: r) 0 = t := rfl
theorem tm_succ (t : Tm) (r : List Tm) (k : Nat) : tm (t :: r) (k + 1) = tm r k := by simp [tm, List.getD]
theorem coef_none {e : List Int} : ∀ {ts : List Tm}, (∀ j, j < ts.length → ¬ (tm ts j).1 = e) → coefOf ts e = 0
  | [], _ => rfl
  | t :: r, h => by
    have h0 := h 0 (by simp)
    rw [tm_zero] at h0
    unfold coefOf
    rw [if_neg h0]
    exact coef_none fun j hj => by have := h (j + 1) (by simp; omega); rwa [tm_succ] at this
theorem coef_hit {e : List Int} : ∀ {ts : List Tm} {k : Nat}, k < ts.length → (∀ j, j < k → ¬ (tm ts j).1 = e) → (tm ts k).1 = e → coefOf ts e = (tm ts k).2
  | [], k, hk, _, _ => absurd hk (by simp)
  | t :: r, 0, _, _, he => by
    rw [tm_zero] at he ⊢
    unfold coefOf
    rw [if_pos he]
  | t :: r, k + 1, hk, h, he => by
    have h0 := h 0 (by omega)
    rw [tm_zero] at h0
    rw [tm_succ] at he ⊢
    unfold coefOf
    rw [if_neg h0]
    exact coef_hit (by simpa using hk) (fun j hj => by have := h (j + 1) (by omega); rwa [tm_succ] at this) he

end Go.Proofs.Ytjpoliibljjhnaa

/-
  A number inserted into a tableau, on the program's side: the pieces. Conditions: lengths below 2^40.
-/



namespace Go.Proofs.Ytjpoliibljjhnaa
open Go.RowKit

theorem insFn_any (x y : Int) (g : Nat) (w : World) (hk : w.cell? ⟨g, 0, none⟩ = some (.int .i64 x)) :
    Calls Try.prog 222 #[.int .i64 y, .pointer (some ⟨g, 0, none⟩)] w fun e w' => e = .returned (.bool (decide (x < y))) ∧ w = w' := by
  by_cases h : x < y
  · go_enter Try.func222, Try.ntmps222
    go_wp2
    go_ret
    exact ⟨ret_bool (by simp [h]), rfl⟩
  · go_enter Try.func222, Try.ntmps222
    go_wp2
    go_ret
    exact ⟨ret_bool (by simp [h]), rfl⟩
set_option maxHeartbeats 800000 in
theorem indexIns_any (A : Option Addr) (n c : Nat) (xs : List Int) (x : Int) (g : Nat) (w : World) (hs : SI w A n xs) (hn : n ≤ 1099511627776) (hk : w.cell? ⟨g, 0, none⟩ = some (.int .i64 x)) :
    Calls Try.prog 212 #[.slice A n c, .func (.func 222) #[] #[.pointer (some ⟨g, 0, none⟩)]] w fun r w' =>
      ∃ i : Int, r = .returned (.int .i64 i) ∧ (gtN xs x = n ∧ i = -1 ∨ gtN xs x < n ∧ i = (gtN xs x : Int)) ∧ Drawn w w' := by
  have HF : Hid (∀ w', Drawn w w' → ∀ y, Calls Try.prog 222 #[.int .i64 y, .pointer (some ⟨g, 0, none⟩)] w' fun e w2 => e = .returned (.bool (decide (x < y))) ∧ w' = w2) := Lib.hid (fun w' hd y => insFn_any x y g w' (by obtain ⟨m, rfl⟩ := hd; exact hk))
  clear hk
  go_enter Try.func212, Try.ntmps212
  go_wp2
  go_loopw [8] (fun i wr => ∃ k : Nat, k ≤ n ∧ i = .int .i64 k ∧ Drawn w wr ∧ ∀ j, j < k → nth xs j ≤ x)
    (fun i _ => n - (intOf i).toNat)
  case atStart => exact ⟨0, Nat.zero_le _, rfl, Drawn.refl _, fun j hj => absurd hj (by omega)⟩
  case round =>
    obtain ⟨k, hk, rfl, hD, hall⟩ := hrel
    have HA := Lib.hid hall
    have HDR := Lib.hid hD
    have HL := Lib.hid hs.1
    have hs := hD.si hs
    clear hall hD
    by_cases hlt : k < n
    · have hlI : (k : Int) < (n : Int) := by omega
      obtain ⟨b, o, rfl, hb, hc⟩ := hs.at_ (by omega)
      have hc1 := hc k hlt
      obtain ⟨y, hy⟩ : ∃ y, y = nth xs k := ⟨_, rfl⟩
      rw [← hy] at hc1
      have HY := Lib.hid hy
      clear hc hy hs
      by_cases hg : x < y
      · have HG := Lib.hid hg
        have HF2 := Lib.hid (HF.out wr HDR.out y)
        rw [decide_eq_true hg] at HF2
        clear hg
        go_wp2_with (go_at_call 222; refine HF2.out.mono ?_; rintro r w2 ⟨rfl, rfl⟩)
        go_ret
        have hgt : gtN xs x = k := gtN_is xs k (by rw [HL.out]; omega) HA.out (.inr (by rw [← HY.out]; have := HG.out; omega))
        exact ⟨(k : Int), rfl, .inr ⟨by omega, by rw [hgt]⟩, HDR.out⟩
      · have HG := Lib.hid hg
        have HF2 := Lib.hid (HF.out wr HDR.out y)
        rw [decide_eq_false hg] at HF2
        clear hg
        go_wp2_with (go_at_call 222; refine HF2.out.mono ?_; rintro r w2 ⟨rfl, rfl⟩)
        go_roundw
        case rel => exact ⟨k + 1, by omega, by go_num, HDR.out, fun j hj => by
          rcases Nat.lt_or_ge j k with h | h
          · exact HA.out j h
          · obtain rfl : j = k := by omega
            rw [← HY.out]; have := HG.out; omega⟩
        case measure => simp [intOf]; omega
    · have hkn : k = n := by omega
      subst hkn
      go_wp2
      go_ret
      exact ⟨-1, rfl, .inl ⟨gtN_is xs k (by rw [HL.out]; exact Nat.le_refl _) HA.out (.inl HL.out.symm), rfl⟩, HDR.out⟩
set_option maxHeartbeats 1600000 in
theorem insRow_end (A : Option Addr) (n c : Nat) (xs : List Int) (x : Int) (lo : Nat) (w : World) (ho : Own w lo w.heap.size A n c xs) (hlo : lo ≤ w.heap.size) (hn : n ≤ 1099511627776) (hgt : gtN xs x = n) :
    Calls Try.prog 169 #[.slice A n c, .int .i64 x] w fun e w' => ∃ A2 c2 wm, e = .returned (.tuple #[.slice A2 (n + 1) c2, .int .i64 0, .bool false]) ∧ Own w' lo w'.heap.size A2 (n + 1) c2 (xs ++ [x]) ∧ Below w.heap.size w wm ∧ wm.grownBy w' (rowB A) ∧ (rowB A2 = rowB A ∨ ∃ q, rowB A2 = some q ∧ wm.heap.size ≤ q) := by
  obtain ⟨w1, hw1⟩ : ∃ w1, w1 = w.alloc (.cells #[.int .i64 x] 3) := ⟨_, rfl⟩
  obtain ⟨g, hg⟩ : ∃ g, g = w.heap.size := ⟨_, rfl⟩
  have hk : Blk w1 g 3 #[.int .i64 x] := by rw [hw1, hg]; exact Blk.new _ _ _
  have ho1 : Own w1 lo w.heap.size A n c xs := by rw [hw1]; exact ho.below ((Below.refl w.heap.size w).alloc (Nat.le_refl _) _) (Nat.le_refl _)
  have hgr : Below w.heap.size w w1 := by rw [hw1]; exact (Below.refl w.heap.size w).alloc (Nat.le_refl _) _
  have HIX := Lib.hid (indexIns_any A n c xs x g w1 ho1.si hn (hk.cell 0))
  have HK := Lib.hid hk
  have HO1 := Lib.hid ho1
  have HGR := Lib.hid hgr
  have HSZ := Lib.hid hgr.size
  have HGT := Lib.hid hgt
  have HW := Lib.hid hw1
  have HG := Lib.hid hg
  clear hk ho1 hgr hgt ho hw1 hg
  have hmf : ∀ (fn : Fn) (first cap : Array Value) (w : World), (Instr.makeFunc fn first cap).run Try.prog w = .ok (.func fn first cap) w := fun _ _ _ _ => rfl
  go_enter Try.func169, Try.ntmps169
  go_upto_region 1 with fail
  rw [← HW.out, ← HG.out]
  go_upto_region 2 with (go_at_call 212; refine HIX.out.mono ?_; rintro e w2 ⟨i, rfl, hi, hd⟩; obtain rfl : i = -1 := (by have := HGT.out; omega); have HD := Lib.hid hd; clear hi hd)
  have hc2 : w2.cell? ⟨g, 0, none⟩ = some (.int .i64 x) := (HK.out.drawn HD.out).cell 0
  have HO2 := Lib.hid (HO1.out.drawn HD.out)
  have HLO : Hid (lo ≤ w2.heap.size) := Lib.hid (by have := HSZ.out; have := (HD.out.below w1.heap.size).size; omega)
  have HZ2 : Hid (w.heap.size ≤ w2.heap.size) := Lib.hid (by have := HSZ.out; have := (HD.out.below w1.heap.size).size; omega)
  have HG2 : Hid (Below w.heap.size w w2) := Lib.hid (HGR.out.trans (HD.out.below _))
  go_wp2_with (at_builtin; refine wpList_append_keep rfl (.tmp 14) (.tmp 16) rfl lo w.heap.size A n c xs x rfl rfl HO2.out HLO.out hn ?_
               intro B' d' w3 ho3 hg3 hat3
               have HO3 := Lib.hid ho3
               have HG3 := Lib.hid hg3
               have HAT := Lib.hid hat3
               clear ho3 hg3 hat3)
  go_returns
  refine ⟨B', d', w2, rfl, HO3.out, HG2.out, HG3.out, ?_⟩
  rcases HAT.out with ⟨h, _⟩ | ⟨q, h, hq, _⟩
  · left; rw [h]
  · right; exact ⟨q, by rw [h]; rfl, hq⟩
set_option maxHeartbeats 1600000 in
theorem insRow_mid (A : Option Addr) (n c : Nat) (xs : List Int) (x : Int) (lo : Nat) (w : World) (ho : Own w lo w.heap.size A n c xs) (_hlo : lo ≤ w.heap.size) (hn : n ≤ 1099511627776) (hgt : gtN xs x < n) :
    Calls Try.prog 169 #[.slice A n c, .int .i64 x] w fun e w' => e = .returned (.tuple #[.slice A n c, .int .i64 (nth xs (gtN xs x)), .bool true]) ∧ Own w' lo w'.heap.size A n c (xs.set (gtN xs x) x) ∧ ∃ wm, Below w.heap.size w wm ∧ wm.grownBy w' (rowB A) := by
  obtain ⟨w1, hw1⟩ : ∃ w1, w1 = w.alloc (.cells #[.int .i64 x] 3) := ⟨_, rfl⟩
  obtain ⟨g, hg⟩ : ∃ g, g = w.heap.size := ⟨_, rfl⟩
  have hk : Blk w1 g 3 #[.int .i64 x] := by rw [hw1, hg]; exact Blk.new _ _ _
  have ho1 : Own w1 lo w.heap.size A n c xs := by rw [hw1]; exact ho.below ((Below.refl w.heap.size w).alloc (Nat.le_refl _) _) (Nat.le_refl _)
  have hgr : Below w.heap.size w w1 := by rw [hw1]; exact (Below.refl w.heap.size w).alloc (Nat.le_refl _) _
  obtain ⟨k, hkk⟩ : ∃ k, k = gtN xs x := ⟨_, rfl⟩
  have HIX := Lib.hid (indexIns_any A n c xs x g w1 ho1.si hn (hk.cell 0))
  rw [← hkk] at hgt HIX ⊢
  obtain ⟨gr, rfl, hg1, hg2⟩ := ho1.place (by omega)
  have HK := Lib.hid hk
  have HO1 := Lib.hid ho1
  have HGR := Lib.hid hgr
  have HSZ := Lib.hid hgr.size
  have HW := Lib.hid hw1
  have HG := Lib.hid hg
  have HR1 := Lib.hid hg1
  have HR2 := Lib.hid hg2
  clear hk ho1 hgr ho hw1 hg hkk hg1 hg2
  have hkI : (k : Int) < (n : Int) := by omega
  have hk0 : ¬ (k : Int) < 0 := by omega
  have hmf : ∀ (fn : Fn) (first cap : Array Value) (w : World), (Instr.makeFunc fn first cap).run Try.prog w = .ok (.func fn first cap) w := fun _ _ _ _ => rfl
  go_enter Try.func169, Try.ntmps169
  go_upto_region 1 with fail
  rw [← HW.out, ← HG.out]
  go_upto_region 2 with (go_at_call 212; refine HIX.out.mono ?_; rintro e w2 ⟨i, rfl, hi, hd⟩; obtain rfl : i = (k : Int) := (by omega); have HD := Lib.hid hd; clear hi hd)
  have hc2 : w2.cell? ⟨g, 0, none⟩ = some (.int .i64 x) := (HK.out.drawn HD.out).cell 0
  have hOr := HO1.out.drawn HD.out
  have hck := hOr.cellAt hgt
  have hfz := hOr.frozenAt k
  obtain ⟨hset, hgrw⟩ := hOr.set_ (k := k) x
  obtain ⟨y, hy⟩ : ∃ y, y = nth xs k := ⟨_, rfl⟩
  rw [← hy] at hck
  have HY := Lib.hid hy
  have HST := Lib.hid hset
  have HGW := Lib.hid hgrw
  have HZ2 : Hid (w.heap.size ≤ w2.heap.size) := Lib.hid (by have := HSZ.out; have := (HD.out.below w1.heap.size).size; omega)
  have HG2 : Hid (Below w.heap.size w w2) := Lib.hid (HGR.out.trans (HD.out.below _))
  clear hy hset hgrw hOr
  go_wp2
  go_returns
  refine ⟨by rw [HY.out]; rfl, HST.out.wide (Nat.le_refl _) (by have := HZ2.out; simpa using this), w2, HG2.out, HGW.out⟩
end Go.Proofs.Ytjpoliibljjhnaa

/-
  A number inserted into a tableau by the program's rule, the blocks named: what is apart from the tableau stays as it was. Conditions: lengths below 2^40.
-/




namespace Go.Proofs.Ytjpoliibljjhnaa
open Go.RowKit

theorem OwnLE.replE {E : Nat → Sv} {w w2 : World} {lo hi g n c : Nat} {ls : List (List Int)} (h : OwnLE E w lo hi (some ⟨g, 0, none⟩) n c ls) {k : Nat} (hk : k < n) (hhi : hi ≤ w.heap.size) (hg : w.grownBy w2 (rowB (E k).1)) {A2 : Option Addr} {n2 c2 : Nat} {ys : List Int}
    (hx : Own w2 lo w2.heap.size A2 n2 c2 ys) (hat : rowB A2 = rowB (E k).1 ∨ ∃ q, rowB A2 = some q ∧ w.heap.size ≤ q) :
    OwnLE (snE E k (A2, n2, c2)) (w2.setCell ⟨g, k, none⟩ (.slice A2 n2 c2)) lo w2.heap.size (some ⟨g, 0, none⟩) n c (ls.set k ys) ∧ w2.grownBy (w2.setCell ⟨g, k, none⟩ (.slice A2 n2 c2)) (some g) := by
  obtain ⟨hl, ho, hh, he, hne, hdd⟩ := h
  have hgl := hh g rfl
  have hs := hg.size
  have hrk : ∀ b, rowB (E k).1 = some b → (sv (E k)).ownBlock = some b := fun b hb => by unfold sv; rw [ownB]; exact hb
  have ho2 : w2.ownsRow lo 22 1 (.slice (some ⟨g, 0, none⟩) n c) n (heads n E) := ho.kept hg (.inr fun e => hne k g hk (hrk g e.symm) rfl)
  have he2 : ∀ j, j < n → j ≠ k → Own w2 lo hi (E j).1 (E j).2.1 (E j).2.2 (li ls j) := fun j hj hjk => (he j hj).kept hg (fun b hb e => by
    rcases Nat.lt_or_gt_of_ne hjk with h | h
    · exact hdd j k b h hk hb (hrk b e)
    · exact hdd k j b h hj (hrk b e) hb)
  have hA2g : ∀ b, (sv ((A2, n2, c2) : Sv)).ownBlock = some b → b ≠ g := fun b hb => by
    have hb' : rowB A2 = some b := by rw [← ownB A2 n2 c2]; exact hb
    rcases hat with e | ⟨q, e, hq⟩
    · intro h; subst h; exact hne k b hk (hrk b (e ▸ hb')) rfl
    · rw [e] at hb'; injection hb' with hb'; omega
  have hA2E : ∀ j b, j < n → j ≠ k → (sv ((A2, n2, c2) : Sv)).ownBlock = some b → (sv (E j)).ownBlock ≠ some b := fun j b hj hjk hb e2 => by
    have hb' : rowB A2 = some b := by rw [← ownB A2 n2 c2]; exact hb
    rcases hat with e | ⟨q, e, hq⟩
    · have h3 := hrk b (e ▸ hb')
      rcases Nat.lt_or_gt_of_ne hjk with h | h
      · exact hdd j k b h hk e2 h3
      · exact hdd k j b h hj h3 e2
    · rw [e] at hb'; injection hb' with hb'
      have := (he j hj).lt b e2
      omega
  obtain ⟨o1, gg⟩ := ho2.stored k (.slice A2 n2 c2)
  refine ⟨⟨by simpa using hl, ?_, fun b hb => by have := hh b hb; omega, fun j hj => ?_, fun j b hj hb => ?_, fun i j b hij hj hb => ?_⟩, gg⟩
  · exact row1_eq o1 (heads_set E hk (A2, n2, c2))
  · dsimp only [snE]
    rw [li_set (by omega)]
    by_cases e : j = k
    · rw [if_pos e, if_pos e]
      exact hx.kept gg (fun b hb e2 => by injection e2 with e2; exact hA2g b hb e2.symm)
    · rw [if_neg e, if_neg e]
      exact ((he2 j hj e).kept gg (fun b hb e2 => hne j b hj hb e2)).wide (Nat.le_refl _) (by omega)
  · dsimp only [snE] at hb
    by_cases e : j = k
    · rw [if_pos e] at hb
      have := hA2g b hb
      intro e2; simp [Value.ownBlock] at e2; omega
    · rw [if_neg e] at hb
      exact hne j b hj hb
  · dsimp only [snE] at hb ⊢
    by_cases e : i = k
    · rw [if_pos e] at hb
      rw [if_neg (by omega)]
      exact hA2E j b hj (by omega) hb
    · rw [if_neg e] at hb
      by_cases e' : j = k
      · rw [if_pos e']
        intro e2
        exact hA2E i b (by omega) e e2 hb
      · rw [if_neg e']
        exact hdd i j b hij hj hb
/-- What is apart from a list of lists stays so, and as it was. -/
structure KpL (E : Nat → Sv) (A : Option Addr) (n : Nat) (w : World) (E' : Nat → Sv) (A' : Option Addr) (n' : Nat) (w' : World) : Prop where
  size : w.heap.size ≤ w'.heap.size
  apart : ∀ k, k < w.heap.size → Apart E A n k → Apart E' A' n' k
  same : ∀ k, k < w.heap.size → Apart E A n k → w'.heap[k]? = w.heap[k]?
theorem KpL.refl (E : Nat → Sv) (A : Option Addr) (n : Nat) (w : World) : KpL E A n w E A n w := ⟨Nat.le_refl _, fun _ _ h => h, fun _ _ _ => rfl⟩
theorem KpL.trans {E E1 E2 : Nat → Sv} {A A1 A2 : Option Addr} {n n1 n2 : Nat} {w w1 w2 : World} (h : KpL E A n w E1 A1 n1 w1) (h' : KpL E1 A1 n1 w1 E2 A2 n2 w2) : KpL E A n w E2 A2 n2 w2 :=
  ⟨Nat.le_trans h.size h'.size, fun k hk ha => h'.apart k (Nat.lt_of_lt_of_le hk h.size) (h.apart k hk ha), fun k hk ha => (h'.same k (Nat.lt_of_lt_of_le hk h.size) (h.apart k hk ha)).trans (h.same k hk ha)⟩
theorem svB (A : Option Addr) (n c : Nat) : (sv ((A, n, c) : Sv)).ownBlock = rowB A := by unfold sv; rw [ownB]
/-- One row replaced: in its block or in a new one. -/
theorem KpL.repl {E : Nat → Sv} {g n i : Nat} {wo wm w2 w3 : World} {A' A2 : Option Addr} {n' c' n2 c2 : Nat} (hi : i < n) (hE : (A', n', c') = E i) (h1 : Below wo.heap.size wo wm) (h2 : wm.grownBy w2 (rowB A')) (h3 : w2.grownBy w3 (some g))
    (hat : rowB A2 = rowB A' ∨ ∃ q, rowB A2 = some q ∧ wm.heap.size ≤ q) : KpL E (some ⟨g, 0, none⟩) n wo (snE E i (A2, n2, c2)) (some ⟨g, 0, none⟩) n w3 := by
  have s1 := h1.size
  have s2 := h2.size
  have s3 := h3.size
  refine ⟨by omega, fun k hk ha => ⟨ha.1, fun j hj => ?_⟩, fun k hk ha => ?_⟩
  · by_cases e : j = i
    · subst e
      rw [snE_at, svB]
      have hb := ha.2 j hj
      rw [← hE, svB] at hb
      rcases hat with h | ⟨q, h, hq⟩
      · rw [h]; exact hb
      · rw [h]; intro h; injection h with h; omega
    · rw [show snE E i (A2, n2, c2) j = E j from if_neg e]
      exact ha.2 j hj
  · have hb := ha.2 i hi
    rw [← hE, svB] at hb
    have hg : (some k : Option Nat) ≠ some g := fun e => ha.1 (by rw [rowB_some]; exact e.symm)
    exact ((h3.block k (by omega) hg).trans (h2.block k (by omega) (fun e => hb e.symm))).trans (h1.block k hk)
/-- A list more behind them. -/
theorem KpL.snoc {E : Nat → Sv} {A A' : Option Addr} {n : Nat} {w w1 w2 : World} {B : Option Addr} {nb cb : Nat} (h1 : Below w.heap.size w w1) (h2 : w1.grownBy w2 (rowB A)) (hB : ∀ q, rowB B = some q → w.heap.size ≤ q)
    (hat : rowB A' = rowB A ∨ ∃ q, rowB A' = some q ∧ w1.heap.size ≤ q) : KpL E A n w (snE E n (B, nb, cb)) A' (n + 1) w2 := by
  have s1 := h1.size
  have s2 := h2.size
  refine ⟨by omega, fun k hk ha => ⟨?_, fun j hj => ?_⟩, fun k hk ha => ?_⟩
  · rcases hat with h | ⟨q, h, hq⟩
    · rw [h]; exact ha.1
    · rw [h]; intro h; injection h with h; omega
  · by_cases e : j = n
    · subst e
      rw [snE_at, svB]
      intro h
      have := hB k h
      omega
    · rw [snE_lt E _ (by omega)]; exact ha.2 j (by omega)
  · exact (h2.block k (by omega) (fun e => ha.1 e.symm)).trans (h1.block k hk)
set_option maxHeartbeats 4000000 in
theorem insRuleK_any (E0 : Nat → Sv) (g n c : Nat) (ls : List (List Int)) (x : Int) (lo : Nat) (w : World) (ho : OwnLE E0 w lo w.heap.size (some ⟨g, 0, none⟩) n c ls) (hlo : lo ≤ w.heap.size) (hn : n ≤ 1099511627776) (hne : ∀ k, k < n → (li ls k).length ≤ 1099511627776) :
    Calls Try.prog 167 #[.slice (some ⟨g, 0, none⟩) n c, .int .i64 x, .func (.func 169) #[] #[]] w fun e w' => ∃ A' n' c' row out E', e = .returned (.tuple #[.slice A' n' c', .int .i64 ((row : Nat) : Int)]) ∧ InsIs ls x out row ∧ OwnLE E' w' lo w'.heap.size A' n' c' out ∧ Below lo w w' ∧ KpL E0 (some ⟨g, 0, none⟩) n w E' A' n' w' := by
  have HNE := Lib.hid hne
  have HL := Lib.hid ho.1
  have HO := Lib.hid ho
  have HLO := Lib.hid hlo
  clear hne ho hlo
  go_enter Try.func167, Try.ntmps167
  go_wp2_with fail
  go_loopw [1, 15] (fun xv iv wr => ∃ i : Nat, i ≤ n ∧ iv = .int .i64 i ∧ xv = .int .i64 (xI ls x i) ∧ (∀ j, j < i → goesI ls x j) ∧ (∃ E, OwnLE E wr lo wr.heap.size (some ⟨g, 0, none⟩) n c (rI ls x i) ∧ KpL E0 (some ⟨g, 0, none⟩) n w E (some ⟨g, 0, none⟩) n wr) ∧ Below lo w wr)
    (fun _ iv _ => n - (intOf iv).toNat)
  case atStart => exact ⟨0, Nat.zero_le _, rfl, rfl, fun j hj => absurd hj (by omega), ⟨E0, HO.out, KpL.refl _ _ _ _⟩, Below.refl _ _⟩
  case round =>
    obtain ⟨i, hi, rfl, rfl, hgo, ho, hb⟩ := hrel
    clear HO
    obtain ⟨wo, rfl⟩ : ∃ wo, wo = wr := ⟨wr, rfl⟩
    have HGO := Lib.hid hgo
    have HB := Lib.hid hb
    obtain ⟨E, hE, hkp⟩ := ho
    have HE := Lib.hid hE
    have HKP := Lib.hid hkp
    have HLW : Hid (lo ≤ wo.heap.size) := Lib.hid (Nat.le_trans HLO.out hb.size)
    clear hgo hb hE hkp
    obtain ⟨X, hX⟩ : ∃ X, X = xI ls x i := ⟨_, rfl⟩
    rw [← hX]
    have HX := Lib.hid hX
    clear hX
    by_cases hlt : i < n
    · have hlI : (i : Int) < (n : Int) := by omega
      have hcE := HE.out.cellAt hlt
      have hOE := HE.out.2.2.2.1 i hlt
      rw [rI_li (Nat.le_refl _) (by rw [HL.out]; omega)] at hOE
      obtain ⟨⟨A', n', c'⟩, hEi⟩ : ∃ a, a = E i := ⟨_, rfl⟩
      rw [← hEi] at hcE hOE
      have hcell : wo.cell? ⟨g, i, none⟩ = some (.slice A' n' c') := hcE
      have hown : Own wo lo wo.heap.size A' n' c' (li ls i) := hOE
      have HEI := Lib.hid hEi
      obtain ⟨xs, hxs⟩ : ∃ xs, xs = li ls i := ⟨_, rfl⟩
      rw [← hxs] at hown
      have HXS := Lib.hid hxs
      have hlen := hown.len
      have hn' : n' ≤ 1099511627776 := by have := HNE.out i hlt; rw [← hxs] at this; omega
      have HGW : Hid (g < wo.heap.size) := Lib.hid (HE.out.2.2.1 g rfl)
      have hgle : gtN xs X ≤ n' := by have := gtN_le xs X; omega
      by_cases hgt : gtN xs X < n'
      · have HC := Lib.hid (insRow_mid A' n' c' xs X lo wo hown HLW.out hn' hgt)
        have HGT : Hid (goesI ls x i) := Lib.hid (by unfold goesI; rw [← HXS.out, ← HX.out]; omega)
        have HF : Hid (∀ wm w2, Below wo.heap.size wo wm → wm.grownBy w2 (rowB A') → Own w2 lo w2.heap.size A' n' c' (xs.set (gtN xs X) X) → w2.cell? ⟨g, i, none⟩ = some (.slice A' n' c') ∧ w2.frozen? ⟨g, i, none⟩ = false ∧ (∃ E', OwnLE E' (w2.setCell ⟨g, i, none⟩ (.slice A' n' c')) lo (w2.setCell ⟨g, i, none⟩ (.slice A' n' c')).heap.size (some ⟨g, 0, none⟩) n c (rI ls x (i + 1)) ∧ KpL E0 (some ⟨g, 0, none⟩) n w E' (some ⟨g, 0, none⟩) n (w2.setCell ⟨g, i, none⟩ (.slice A' n' c'))) ∧ Below lo w (w2.setCell ⟨g, i, none⟩ (.slice A' n' c'))) := Lib.hid (by
          intro wm w2 hb1 hg1 ho2
          have hEm : OwnLE E wm lo wo.heap.size (some ⟨g, 0, none⟩) n c (rI ls x i) := HE.out.below hb1 (Nat.le_refl _)
          have hbk : w2.heap[g]? = wm.heap[g]? := hg1.block g (Nat.lt_of_lt_of_le HGW.out hb1.size) (fun e => hEm.2.2.2.2.1 i g hlt (by rw [← HEI.out]; unfold sv; rw [ownB]; exact e.symm) rfl)
          have hRP := hEm.replE (k := i) hlt hb1.size (A2 := A') (n2 := n') (c2 := c') (ys := xs.set (gtN xs X) X) (w2 := w2) (by rw [← HEI.out]; exact hg1) ho2 (by rw [← HEI.out]; exact .inl rfl)
          refine ⟨?_, ?_, ?_, ?_⟩
          · rw [World.cell?_of_block (a := ⟨g, i, none⟩) hbk]
            have := hEm.cellAt hlt
            rw [← HEI.out] at this; exact this
          · rw [World.frozen?_of_block (a := ⟨g, i, none⟩) hbk]
            exact hEm.2.1.frozenAt i
          · have e : rI ls x (i + 1) = (rI ls x i).set i (xs.set (gtN xs X) X) := by
              show (rI ls x i).set i ((li ls i).set (gtN (li ls i) (xI ls x i)) (xI ls x i)) = _
              rw [← HXS.out, ← HX.out]
            rw [e]
            exact ⟨_, hRP.1.wide hRP.2.size, HKP.out.trans (KpL.repl hlt HEI.out hb1 hg1 hRP.2 (.inl rfl))⟩
          · have hb2 : Below lo w w2 := (HB.out.trans (hb1.mono HLW.out)).grown hg1 (Nat.le_trans HLW.out hb1.size) (fun q hq => (hown.row_lt' hq).1)
            exact hb2.grown hRP.2 (by have := hg1.size; have := hb1.size; have := HLW.out; omega) (by rintro q ⟨⟩; exact (HE.out.row_lt' rfl).1))
        have HXN : Hid (xI ls x (i + 1) = nth xs (gtN xs X)) := Lib.hid (by
          show nth (li ls i) (gtN (li ls i) (xI ls x i)) = _
          rw [← HXS.out, ← HX.out])
        clear hcE hOE hEi hxs hown hgle hlen
        go_upto_region 5 with (go_at_call 169; refine HC.out.mono ?_; rintro e w2 ⟨rfl, ho2, wm, hb2, hg2⟩; have HF2 := Lib.hid (HF.out wm w2 hb2 hg2 ho2); clear ho2 hb2 hg2)
        obtain ⟨hc2, hf2, _, _⟩ := HF2.out
        clear hcell
        go_wp2
        go_roundw
        case rel => exact ⟨i + 1, by omega, by go_num, by rw [HXN.out], fun j hj => by
          rcases Nat.lt_or_ge j i with h | h
          · exact HGO.out j h
          · obtain rfl : j = i := by omega
            exact HGT.out, HF2.out.2.2.1, HF2.out.2.2.2⟩
        case measure => simp [intOf]; omega
      · have hge : gtN xs X = n' := by omega
        have HC := Lib.hid (insRow_end A' n' c' xs X lo wo hown HLW.out hn' hge)
        have HGT : Hid (InsIs ls x ((rI ls x i).set i (xs ++ [X])) i) := Lib.hid (.inl ⟨by rw [HL.out]; exact hlt, HGO.out, by unfold goesI; rw [← HXS.out, ← HX.out]; omega, by rw [← HXS.out, ← HX.out]⟩)
        have HF : Hid (∀ wm w2 A2 c2, Below wo.heap.size wo wm → wm.grownBy w2 (rowB A') → Own w2 lo w2.heap.size A2 (n' + 1) c2 (xs ++ [X]) → (rowB A2 = rowB A' ∨ ∃ q, rowB A2 = some q ∧ wm.heap.size ≤ q) → w2.cell? ⟨g, i, none⟩ = some (.slice A' n' c') ∧ w2.frozen? ⟨g, i, none⟩ = false ∧ (∃ E', OwnLE E' (w2.setCell ⟨g, i, none⟩ (.slice A2 (n' + 1) c2)) lo (w2.setCell ⟨g, i, none⟩ (.slice A2 (n' + 1) c2)).heap.size (some ⟨g, 0, none⟩) n c ((rI ls x i).set i (xs ++ [X])) ∧ KpL E0 (some ⟨g, 0, none⟩) n w E' (some ⟨g, 0, none⟩) n (w2.setCell ⟨g, i, none⟩ (.slice A2 (n' + 1) c2))) ∧ Below lo w (w2.setCell ⟨g, i, none⟩ (.slice A2 (n' + 1) c2))) := Lib.hid (by
          intro wm w2 A2 c2 hb1 hg1 ho2 hat
          have hEm : OwnLE E wm lo wo.heap.size (some ⟨g, 0, none⟩) n c (rI ls x i) := HE.out.below hb1 (Nat.le_refl _)
          have hbk : w2.heap[g]? = wm.heap[g]? := hg1.block g (Nat.lt_of_lt_of_le HGW.out hb1.size) (fun e => hEm.2.2.2.2.1 i g hlt (by rw [← HEI.out]; unfold sv; rw [ownB]; exact e.symm) rfl)
          have hRP := hEm.replE (k := i) hlt hb1.size (A2 := A2) (n2 := n' + 1) (c2 := c2) (ys := xs ++ [X]) (w2 := w2) (by rw [← HEI.out]; exact hg1) ho2 (by rw [← HEI.out]; exact hat)
          refine ⟨?_, ?_, ?_, ?_⟩
          · rw [World.cell?_of_block (a := ⟨g, i, none⟩) hbk]
            have := hEm.cellAt hlt
            rw [← HEI.out] at this; exact this
          · rw [World.frozen?_of_block (a := ⟨g, i, none⟩) hbk]
            exact hEm.2.1.frozenAt i
          · exact ⟨_, hRP.1.wide hRP.2.size, HKP.out.trans (KpL.repl hlt HEI.out hb1 hg1 hRP.2 hat)⟩
          · have hb2 : Below lo w w2 := (HB.out.trans (hb1.mono HLW.out)).grown hg1 (Nat.le_trans HLW.out hb1.size) (fun q hq => (hown.row_lt' hq).1)
            exact hb2.grown hRP.2 (by have := hg1.size; have := hb1.size; have := HLW.out; omega) (by rintro q ⟨⟩; exact (HE.out.row_lt' rfl).1))
        clear hcE hOE hEi hxs hown hgle hgt hge hlen
        go_upto_region 5 with (go_at_call 169; refine HC.out.mono ?_; rintro e w2 ⟨A2, c2, wm, rfl, ho2, hb2, hg2, hat2⟩; have HF2 := Lib.hid (HF.out wm w2 A2 c2 hb2 hg2 ho2 hat2); clear ho2 hb2 hg2 hat2)
        obtain ⟨hc2, hf2, _, _⟩ := HF2.out
        clear hcell
        go_wp2
        go_ret2
        obtain ⟨_, _, ⟨E', hE', hK'⟩, hBB⟩ := HF2.out
        exact ⟨_, n, c, i, (rI ls x i).set i (xs ++ [X]), E', rfl, HGT.out, hE', hBB, hK'⟩
    · obtain rfl : i = n := by omega
      have HLT : Hid (Own (wo.alloc (.cells #[.int .i64 X] 3)) wo.heap.size (wo.alloc (.cells #[.int .i64 X] 3)).heap.size (some ⟨wo.heap.size, 0, none⟩) 1 1 [X]) := Lib.hid ⟨World.ownsRow_lit wo #[.int .i64 X] 1 (Nat.le_refl _) (by unfold maxLen; omega) rfl, fun k hk => by simp [Value.ownBlock] at hk; simp; omega⟩
      have hba : Below wo.heap.size wo (wo.alloc (.cells #[.int .i64 X] 3)) := Below.alloc_self _ _
      have HBA := Lib.hid hba
      clear hba
      go_wp2_with (at_builtin; refine wpList_appendLE rfl (.tmp 38) (.tmp 41) rfl lo wo.heap.size _ i c (rI ls x i) wo.heap.size (wo.alloc (.cells #[.int .i64 X] 3)).heap.size (some ⟨wo.heap.size, 0, none⟩) 1 1 [X] rfl (by show Act.eval _ _ = _; simp [Act.eval]) (HE.out.below HBA.out (Nat.le_refl _)) HLT.out HLW.out (HE.out.apart_hi HLT.out (Nat.le_refl _)) (Nat.le_refl _) HBA.out.size (Nat.le_trans HLW.out HBA.out.size) (by omega) ?_
                   intro A4 c4 w4 ho4 hat4 hg4 hb4
                   have HO4 := Lib.hid ho4
                   have HB4 : Hid (Below lo w w4) := Lib.hid ((HB.out.trans (HBA.out.mono HLW.out)).trans hb4)
                   have HK4 := Lib.hid (HKP.out.trans (KpL.snoc (E := E) (n := i) (nb := 1) (cb := 1) HBA.out hg4 (B := some ⟨wo.heap.size, 0, none⟩) (by intro q e; rw [rowB_some] at e; injection e with e; omega) hat4))
                   clear ho4 hat4 hg4 hb4)
      go_ret2
      refine ⟨A4, i + 1, c4, i, rI ls x i ++ [[X]], _, rfl, .inr ⟨HL.out.symm, HGO.out, ?_⟩, HO4.out, HB4.out, HK4.out⟩
      rw [← HX.out]
set_option maxHeartbeats 1000000 in
/-- Into no rows at all. -/
theorem insRuleNil_any (x : Int) (w : World) :
    Calls Try.prog 167 #[.slice none 0 0, .int .i64 x, .func (.func 169) #[] #[]] w fun e w' => ∃ A' c' E', e = .returned (.tuple #[.slice A' 1 c', .int .i64 0]) ∧ InsIs [] x [[x]] 0 ∧ OwnLE E' w' w.heap.size w'.heap.size A' 1 c' [[x]] ∧ Below w.heap.size w w' ∧ KpL (fun _ => (none, 0, 0)) none 0 w E' A' 1 w' := by
  have HLT : Hid (Own (w.alloc (.cells #[.int .i64 x] 3)) w.heap.size (w.alloc (.cells #[.int .i64 x] 3)).heap.size (some ⟨w.heap.size, 0, none⟩) 1 1 [x]) := Lib.hid ⟨World.ownsRow_lit w #[.int .i64 x] 1 (Nat.le_refl _) (by unfold maxLen; omega) rfl, fun k hk => by simp [Value.ownBlock] at hk; simp; omega⟩
  have HBA : Hid (Below w.heap.size w (w.alloc (.cells #[.int .i64 x] 3))) := Lib.hid (Below.alloc_self _ _)
  have HE0 : Hid (OwnLE (fun _ => (none, 0, 0)) w w.heap.size w.heap.size none 0 0 []) := Lib.hid (OwnLE.nil _ _ _ _)
  go_enter Try.func167, Try.ntmps167
  go_wp2_with fail
  refine wp_loop_rounds 1 ?_
  rw [rounds_succ]
  go_wp2_with (at_builtin; refine wpList_appendLE rfl (.tmp 38) (.tmp 41) rfl w.heap.size w.heap.size none 0 0 [] w.heap.size (w.alloc (.cells #[.int .i64 x] 3)).heap.size (some ⟨w.heap.size, 0, none⟩) 1 1 [x] rfl (by show Act.eval _ _ = _; simp [Act.eval]) (HE0.out.below HBA.out (Nat.le_refl _)) HLT.out (Nat.le_refl _) (HE0.out.apart_hi HLT.out (Nat.le_refl _)) (Nat.le_refl _) HBA.out.size HBA.out.size (by omega) ?_
               intro A4 c4 w4 ho4 hat4 hg4 hb4
               have HO4 := Lib.hid ho4
               have HB4 : Hid (Below w.heap.size w w4) := Lib.hid (HBA.out.trans hb4)
               have HK4 := Lib.hid (KpL.snoc (E := fun _ => (none, 0, 0)) (n := 0) (nb := 1) (cb := 1) HBA.out hg4 (B := some ⟨w.heap.size, 0, none⟩) (by intro q e; rw [rowB_some] at e; injection e with e; omega) hat4)
               clear ho4 hat4 hg4 hb4)
  go_ret2
  exact ⟨A4, c4, _, rfl, .inr ⟨rfl, fun j hj => absurd hj (by omega), rfl⟩, HO4.out, HB4.out, HK4.out⟩
end Go.Proofs.Ytjpoliibljjhnaa

/-
  What a tableau is: the tests of both sides. Conditions: lengths below 2^40.
-/



namespace Go.Proofs.Ytjpoliibljjhnaa
open Go.RowKit

/-- The lengths of the rows. -/
def lensL (ls : List (List Int)) : List Int := ls.map fun l => (l.length : Int)
theorem lensL_len (ls : List (List Int)) : (lensL ls).length = ls.length := by simp [lensL]
theorem lensL_nth {ls : List (List Int)} {k : Nat} (h : k < ls.length) : nth (lensL ls) k = ((li ls k).length : Int) := by
  rw [nth_get (by rw [lensL_len]; exact h), li_get h]; simp [lensL]
/-- The number in row i at the place j. -/
abbrev cel (ls : List (List Int)) (i j : Nat) : Int := nth (li ls i) j
def cellOk (ls : List (List Int)) (i j : Nat) : Prop := 0 ≤ cel ls i j ∧ cel ls i j ≤ 20 ∧ (0 < j → cel ls i (j - 1) ≤ cel ls i j) ∧ (0 < i → cel ls (i - 1) j < cel ls i j)
instance (ls : List (List Int)) (i j : Nat) : Decidable (cellOk ls i j) := by unfold cellOk; infer_instance
def tabP (ls : List (List Int)) : Prop := isShapeP (lensL ls) ∧ ∀ i, i < ls.length → ∀ j, j < (li ls i).length → cellOk ls i j
def tabB (ls : List (List Int)) : Bool := isShapeB (lensL ls) && (List.range ls.length).all fun i => (List.range (li ls i).length).all fun j => decide (cellOk ls i j)
theorem tabB_iff (ls : List (List Int)) : tabB ls = true ↔ tabP ls := by simp [tabB, tabP, isShapeB_iff]
theorem tabB_true {ls : List (List Int)} (h : tabP ls) : tabB ls = true := (tabB_iff _).2 h
theorem tabB_false {ls : List (List Int)} (h : ¬ tabP ls) : tabB ls = false := by
  cases hb : tabB ls with
  | false => rfl
  | true => exact absurd ((tabB_iff _).1 hb) h
theorem shapeAt_lens {ls : List (List Int)} {k : Nat} (hk : k < ls.length) : shapeAt (lensL ls) k ↔ (1 ≤ (li ls k).length ∧ (li ls k).length ≤ 16 ∧ (0 < k → (li ls k).length ≤ (li ls (k - 1)).length)) ∨ (shapeAt (lensL ls) k ∧ 16 < (li ls k).length) := by
  constructor
  · intro h
    by_cases h16 : (li ls k).length ≤ 16
    · left
      unfold shapeAt at h
      rw [lensL_nth hk] at h
      refine ⟨by omega, h16, fun h0 => ?_⟩
      obtain ⟨q, rfl⟩ : ∃ q, k = q + 1 := ⟨k - 1, by omega⟩
      have h2 : (((li ls (q + 1)).length : Nat) : Int) ≤ nth (lensL ls) q := h.2
      rw [lensL_nth (by omega)] at h2
      show _ ≤ (li ls q).length
      omega
    · right; exact ⟨h, by omega⟩
  · rintro (⟨h1, h2, h3⟩ | h)
    · unfold shapeAt
      rw [lensL_nth hk]
      refine ⟨by omega, ?_⟩
      cases k with
      | zero => show _ ≤ (16 : Int); omega
      | succ q =>
        have := h3 (by omega)
        show _ ≤ nth (lensL ls) q
        rw [lensL_nth (by omega)]
        simp only [Nat.add_sub_cancel] at this
        omega
    · exact h.1
end Go.Proofs.Ytjpoliibljjhnaa

/-
  A number inserted into a tableau: what both sides answer (plain lists). Conditions: none but those named.
-/



namespace Go.Proofs.Ytjpoliibljjhnaa
open Go.RowKit

theorem rI_row (ls : List (List Int)) (x : Int) : ∀ i k, (li (rI ls x i) k).length = (li ls k).length
  | 0, k => rfl
  | i + 1, k => by
    show (li ((rI ls x i).set i _) k).length = _
    by_cases hi : i < (rI ls x i).length
    · rw [li_set hi]
      by_cases e : k = i
      · rw [if_pos e, List.length_set, e]
      · rw [if_neg e]; exact rI_row ls x i k
    · rw [List.set_eq_of_length_le (by omega)]
      exact rI_row ls x i k
theorem li_app_le (ls : List (List Int)) (t : List Int) (k : Nat) : (li (ls ++ [t]) k).length ≤ (li ls k).length + t.length := by
  rcases Nat.lt_or_ge k ls.length with h | h
  · rw [li_app_lt h]; omega
  · by_cases e : k = ls.length
    · subst e; rw [li_app_at]; omega
    · have : li (ls ++ [t]) k = [] := by simp [li, List.getD, List.getElem?_append_right h]; rw [List.getElem?_eq_none (by simp; omega)]; rfl
      rw [this]; simp
theorem ins_few {ls : List (List Int)} {x : Int} {out : List (List Int)} {row : Nat} (h : InsIs ls x out row) : out.length ≤ ls.length + 1 ∧ ∀ k, (li out k).length ≤ (li ls k).length + 1 := by
  rcases h with ⟨a, _, _, d⟩ | ⟨a, _, d⟩
  · subst d
    refine ⟨by simp [rI_len], fun k => ?_⟩
    rw [li_set (by rw [rI_len]; exact a)]
    by_cases e : k = row
    · rw [if_pos e, e]; simp
    · rw [if_neg e, rI_row]; omega
  · subst d
    refine ⟨by simp [rI_len], fun k => ?_⟩
    have := li_app_le (rI ls x row) [xI ls x row] k
    rw [rI_row] at this
    simpa using this
theorem tab_few {ls : List (List Int)} (h : tabB ls = true) : ls.length ≤ 16 ∧ ∀ k, (li ls k).length ≤ 16 := by
  have hp := (tabB_iff ls).1 h
  have h1 := hp.1.1
  rw [lensL_len] at h1
  have h2 : ∀ k, k < ls.length → nth (lensL ls) k ≤ 16 := by
    intro k
    induction k with
    | zero => intro hk; exact (hp.1.2 0 (by rw [lensL_len]; exact hk)).2
    | succ k ih => intro hk; have := (hp.1.2 (k + 1) (by rw [lensL_len]; exact hk)).2; have := ih (by omega); simp only [prevS] at *; omega
  refine ⟨h1, fun k => ?_⟩
  rcases Nat.lt_or_ge k ls.length with hk | hk
  · have := h2 k hk; rw [lensL_nth hk] at this; omega
  · have : li ls k = [] := by simp [li, List.getD, List.getElem?_eq_none hk]
    rw [this]; simp
def insB (ls : List (List Int)) (x : Int) : Bool := tabB ls && decide (0 ≤ x ∧ x ≤ 20) && tabB (insOut ls x)
def insL (ls : List (List Int)) (x : Int) : List (List Int) := if insB ls x then insOut ls x else []
def insKI (ls : List (List Int)) (x : Int) : Int := if insB ls x then ((insRow ls x : Nat) : Int) else 0
theorem ins_no {ls : List (List Int)} {x : Int} (h : insB ls x = false) : insL ls x = [] ∧ insKI ls x = 0 := by simp [insL, insKI, h]
theorem ins_yes {ls : List (List Int)} {x : Int} (h : insB ls x = true) : insL ls x = insOut ls x ∧ insKI ls x = ((insRow ls x : Nat) : Int) := by simp [insL, insKI, h]
theorem insL_short (ls : List (List Int)) (x : Int) : ShortL (insL ls x) := by
  cases h : insB ls x with
  | false => rw [(ins_no h).1]; exact ShortL.of (by simp) (fun t ht => by cases ht)
  | true =>
    rw [(ins_yes h).1]
    simp only [insB, Bool.and_eq_true] at h
    obtain ⟨h1, h2⟩ := tab_few h.2
    refine ShortL.of (by omega) (fun t ht => ?_)
    obtain ⟨k, hk, rfl⟩ := List.getElem_of_mem ht
    have := h2 k
    rw [li_get hk] at this
    omega
/-- What a call answers that makes a list of lists, with a number and whether there is one. -/
def FreshLIB (w w' : World) (e : Ending) (ls : List (List Int)) (k : Int) (b : Bool) : Prop :=
  ∃ A n c, e = .returned (.tuple #[.slice A n c, .int .i64 k, .bool b]) ∧ OwnL w' w.heap.size w'.heap.size A n c ls ∧ Below w.heap.size w w'
theorem FreshLIB.nil_ret {w w' : World} (h : Below w.heap.size w w') : FreshLIB w w' (.returned (.tuple #[.slice none 0 0, .int .i64 0, .bool false])) [] 0 false := ⟨none, 0, 0, rfl, OwnL.nil _ _ _, h⟩
end Go.Proofs.Ytjpoliibljjhnaa

/-
  Two tableaux of a word: the model. No conditions.
-/

namespace Go.Proofs.Ytjpoliibljjhnaa
open Go.RowKit

/-- A number more behind a row, or a new row. -/
def grownL (ts : List (List Int)) (row : Nat) (k : Int) : List (List Int) := if row = ts.length then ts ++ [[k]] else ts.set row (li ts row ++ [k])
def rskP (xs : List Int) : Nat → List (List Int)
  | 0 => []
  | k + 1 => insOut (rskP xs k) (nth xs k)
def rskQ (xs : List Int) : Nat → List (List Int)
  | 0 => []
  | k + 1 => grownL (rskQ xs k) (insRow (rskP xs k) (nth xs k)) (k : Int)
def entryP (x : Int) : Prop := 0 ≤ x ∧ x ≤ 20
def rskB (xs : List Int) : Bool := decide (xs.length ≤ 16) && xs.all fun x => decide (0 ≤ x ∧ x ≤ 20)
theorem rskB_iff (xs : List Int) : rskB xs = true ↔ xs.length ≤ 16 ∧ ∀ j, j < xs.length → 0 ≤ nth xs j ∧ nth xs j ≤ 20 := by
  simp only [rskB, Bool.and_eq_true, decide_eq_true_eq, List.all_eq_true]
  refine and_congr_right fun _ => ⟨fun h j hj => ?_, fun h x hx => ?_⟩
  · rw [nth_get hj]; exact h _ (List.getElem_mem hj)
  · obtain ⟨j, hj, rfl⟩ := List.mem_iff_getElem.1 hx
    rw [← nth_get hj]; exact h j hj
def rskA (xs : List Int) : List (List Int) := if rskB xs = true then rskP xs xs.length else []
def rskC (xs : List Int) : List (List Int) := if rskB xs = true then rskQ xs xs.length else []
theorem rsk_no {xs : List Int} (h : rskB xs = false) : rskA xs = [] ∧ rskC xs = [] := by simp [rskA, rskC, h]
theorem rsk_yes {xs : List Int} (h : rskB xs = true) : rskA xs = rskP xs xs.length ∧ rskC xs = rskQ xs xs.length := by simp [rskA, rskC, h]
theorem grownL_len {ts : List (List Int)} {row : Nat} {k : Int} : (grownL ts row k).length = if row = ts.length then ts.length + 1 else ts.length := by
  unfold grownL; split <;> simp
theorem grownL_row {ts : List (List Int)} {row : Nat} (k : Int) (hr : row ≤ ts.length) (j : Nat) : (li (grownL ts row k) j).length ≤ (li ts j).length + 1 := by
  unfold grownL
  split
  · have := li_app_le ts [k] j; simpa using this
  · rw [li_set (by omega)]
    split
    · rename_i h; subst h; simp
    · omega
theorem insIs_len {ls out : List (List Int)} {x : Int} {row : Nat} (h : InsIs ls x out row) : row ≤ ls.length ∧ out.length = if row = ls.length then ls.length + 1 else ls.length := by
  rcases h with ⟨h1, _, _, rfl⟩ | ⟨h1, _, rfl⟩
  · refine ⟨by omega, ?_⟩
    rw [if_neg (by omega), List.length_set, rI_len]
  · refine ⟨by omega, ?_⟩
    rw [if_pos h1, List.length_append, rI_len]; simp
/-- One step: both grow at one row. -/
theorem rsk_step {xs : List Int} {k row : Nat} {out : List (List Int)} (h : InsIs (rskP xs k) (nth xs k) out row) : rskP xs (k + 1) = out ∧ rskQ xs (k + 1) = grownL (rskQ xs k) row (k : Int) := by
  obtain ⟨h1, h2⟩ := ins_is h
  exact ⟨h2, by rw [rskQ, h1]⟩
/-- What holds of both in between. -/
structure RskK (xs : List Int) (k : Nat) : Prop where
  len : (rskQ xs k).length = (rskP xs k).length
  few : (rskP xs k).length ≤ k
  row : ∀ j, (li (rskP xs k) j).length ≤ k
  row2 : ∀ j, (li (rskQ xs k) j).length ≤ k
theorem RskK.zero (xs : List Int) : RskK xs 0 := ⟨rfl, Nat.le_refl _, fun j => by simp [rskP, li], fun j => by simp [rskQ, li]⟩
theorem RskK.next {xs : List Int} {k row : Nat} {out : List (List Int)} (h : RskK xs k) (hi : InsIs (rskP xs k) (nth xs k) out row) : RskK xs (k + 1) := by
  obtain ⟨e1, e2⟩ := rsk_step hi
  obtain ⟨l1, l2⟩ := insIs_len hi
  obtain ⟨f1, f2⟩ := ins_few hi
  have := h.few
  refine ⟨?_, ?_, fun j => ?_, fun j => ?_⟩
  · rw [e1, e2, grownL_len, l2, h.len]
  · rw [e1]; omega
  · rw [e1]; have := f2 j; have := h.row j; omega
  · rw [e2]; have := grownL_row (ts := rskQ xs k) (k : Int) (by rw [h.len]; exact l1) j; have := h.row2 j; omega
/-- What a call that makes two lists of lists hands back. -/
def FreshLL (w w' : World) (e : Ending) (ls us : List (List Int)) (b : Bool) : Prop :=
  ∃ A n c A2 n2 c2, e = .returned (.tuple #[.slice A n c, .slice A2 n2 c2, .bool b]) ∧ OwnL w' w.heap.size w'.heap.size A n c ls ∧ OwnL w' w.heap.size w'.heap.size A2 n2 c2 us ∧ Below w.heap.size w w'
theorem FreshLL.nil_ret {w w' : World} {b : Bool} (h : Below w.heap.size w w') : FreshLL w w' (.returned (.tuple #[.slice none 0 0, .slice none 0 0, .bool b])) [] [] b := ⟨none, 0, 0, none, 0, 0, rfl, OwnL.nil _ _ _, OwnL.nil _ _ _, h⟩
end Go.Proofs.Ytjpoliibljjhnaa

/-
  Two lists of lists of one call, no block of both: what a change of one leaves of the other. No conditions.
-/


namespace Go.Proofs.Ytjpoliibljjhnaa
open Go.RowKit

theorem OwnLE.wide2 {E : Nat → Sv} {w : World} {lo hi lo' hi' n c : Nat} {A : Option Addr} {ls : List (List Int)} (h : OwnLE E w lo hi A n c ls) (h1 : lo' ≤ lo) (h2 : hi ≤ hi') : OwnLE E w lo' hi' A n c ls := by
  obtain ⟨e1, e2, e3, e4, e5, e6⟩ := h
  refine ⟨e1, ⟨e2.1, ?_⟩, fun k hk => Nat.lt_of_lt_of_le (e3 k hk) h2, fun j hj => (e4 j hj).wide h1 h2, e5, e6⟩
  rcases e2.2 with hn | ⟨g, cap, cur, e, hl, rest⟩
  · exact .inl hn
  · exact .inr ⟨g, cap, cur, e, Nat.le_trans h1 hl, rest⟩
/-- Each block is apart from one of the two. -/
def Disj (E1 : Nat → Sv) (A1 : Option Addr) (n1 : Nat) (E2 : Nat → Sv) (A2 : Option Addr) (n2 : Nat) : Prop := ∀ k, Apart E1 A1 n1 k ∨ Apart E2 A2 n2 k
theorem Disj.symm {E1 E2 : Nat → Sv} {A1 A2 : Option Addr} {n1 n2 : Nat} (h : Disj E1 A1 n1 E2 A2 n2) : Disj E2 A2 n2 E1 A1 n1 := fun k => (h k).symm
theorem OwnLE.same {E : Nat → Sv} {w w' : World} {lo hi n c : Nat} {A : Option Addr} {ls : List (List Int)} (h : OwnLE E w lo hi A n c ls) (hg : ∀ k, k < hi → ¬ Apart E A n k → w'.heap[k]? = w.heap[k]?) : OwnLE E w' lo hi A n c ls := by
  obtain ⟨e1, e2, e3, e4, e5, e6⟩ := h
  refine ⟨e1, ⟨e2.1, ?_⟩, e3, fun j hj => (e4 j hj).same fun g e => hg g ((e4 j hj).lt g (by rw [ownB]; exact e)).2 (fun ha => ha.2 j hj (by unfold sv; rw [ownB]; exact e)), e5, e6⟩
  rcases e2.2 with hn | ⟨g, cap, cur, e, hb, hq, rest⟩
  · exact .inl hn
  · refine .inr ⟨g, cap, cur, e, hb, (hg g (e3 g ?_) ?_).trans hq, rest⟩
    · injection e with e1; rw [e1]; rfl
    · injection e with e1; rw [e1]; exact fun ha => ha.1 rfl
/-- The one changes: the other stays. -/
theorem OwnLE.keepL {E1 E1' E2 : Nat → Sv} {A1 A1' A2 : Option Addr} {n1 n1' n2 lo hi c2 : Nat} {w w' : World} {us : List (List Int)} (h : OwnLE E2 w lo hi A2 n2 c2 us) (hhi : hi ≤ w.heap.size) (hd : Disj E1 A1 n1 E2 A2 n2) (hk : KpL E1 A1 n1 w E1' A1' n1' w') : OwnLE E2 w' lo hi A2 n2 c2 us :=
  h.same fun k hlt hna => hk.same k (by omega) ((hd k).resolve_right hna)
theorem Disj.next {E1 E1' E2 : Nat → Sv} {A1 A1' A2 : Option Addr} {n1 n1' n2 lo hi c2 : Nat} {w w' : World} {us : List (List Int)} (hd : Disj E1 A1 n1 E2 A2 n2) (h : OwnLE E2 w lo hi A2 n2 c2 us) (hhi : hi ≤ w.heap.size) (hk : KpL E1 A1 n1 w E1' A1' n1' w') : Disj E1' A1' n1' E2 A2 n2 := fun k => by
  by_cases hlt : k < w.heap.size
  · rcases hd k with h1 | h1
    · exact .inl (hk.apart k hlt h1)
    · exact .inr h1
  · exact .inr (h.apart_new (by omega))
theorem KpL.any0 {E F E' : Nat → Sv} {A' : Option Addr} {n' : Nat} {w w' : World} (h : KpL E none 0 w E' A' n' w') : KpL F none 0 w E' A' n' w' :=
  ⟨h.size, fun k hk ha => h.apart k hk ⟨ha.1, fun j hj => absurd hj (by omega)⟩, fun k hk ha => h.same k hk ⟨ha.1, fun j hj => absurd hj (by omega)⟩⟩
/-- insertByRule at any tableau, none too. -/
theorem insRuleX_any (E : Nat → Sv) (A : Option Addr) (n c : Nat) (ls : List (List Int)) (x : Int) (lo : Nat) (w : World) (ho : OwnLE E w lo w.heap.size A n c ls) (h0 : n = 0 → A = none ∧ c = 0) (hlo : lo ≤ w.heap.size) (hn : n ≤ 1099511627776) (hne : ∀ k, k < n → (li ls k).length ≤ 1099511627776) :
    Calls Try.prog 167 #[.slice A n c, .int .i64 x, .func (.func 169) #[] #[]] w fun e w' => ∃ A' n' c' row out E', e = .returned (.tuple #[.slice A' n' c', .int .i64 ((row : Nat) : Int)]) ∧ InsIs ls x out row ∧ OwnLE E' w' lo w'.heap.size A' n' c' out ∧ Below lo w w' ∧ KpL E A n w E' A' n' w' := by
  by_cases hz : n = 0
  · obtain ⟨rfl, rfl⟩ := h0 hz
    subst hz
    obtain rfl : ls = [] := List.eq_nil_of_length_eq_zero ho.1
    refine (insRuleNil_any x w).mono ?_
    rintro e w' ⟨A', c', E', rfl, hi, hE, hb, hk⟩
    exact ⟨A', 1, c', 0, [[x]], E', rfl, hi, hE.wide2 hlo (Nat.le_refl _), hb.mono hlo, hk.any0⟩
  · obtain ⟨g, rfl, _⟩ := ho.place (by omega)
    exact insRuleK_any E g n c ls x lo w ho hlo hn hne
end Go.Proofs.Ytjpoliibljjhnaa

/-
  The document's l1Insert: a list put into an ascending list of lists, unless it is there. Conditions: at most 1000 lists, lengths below 2^40.
-/








namespace Go.Proofs.Ytjpoliibljjhnaa
open Go.RowKit

set_option maxRecDepth 100000 in
theorem wp_append_row (w : World) {o : Oper} {a : Act} {K : Act → World → Prop} {Q : Exit → Act → World → Prop} (s x : Operand)
    (ho : o.op = .call { callee := .builtin .append, args := #[s, x], argTypes := #[23, 23] })
    (lo : Nat) (A : Option Addr) (n c : Nat) (L : List Value) (A2 : Option Addr) (m c2 : Nat) (H : List Value) (hs : a.eval s = .slice A n c) (hx : a.eval x = .slice A2 m c2)
    (hown : w.ownsRow lo 22 1 (.slice A n c) n L) (hH : H.length = m) (hc : 0 < m → ∃ b o, A2 = some ⟨b, o, none⟩ ∧ ∀ k, k < m → w.cell? ⟨b, o + k, none⟩ = H[k]?) (h1 : ∀ u ∈ H, u.oneCell' = true) (hlo : lo ≤ w.heap.size) (hn : n ≤ 100000) (hm : m ≤ 100000)
    (h : ∀ A' c' w', w'.ownsRow lo 22 1 (.slice A' (n + m) c') (n + m) (L ++ H) → w.grownBy w' (rowB A) → Below lo w w' → K (a.put o.dst (.slice A' (n + m) c')) w') :
    o.wp Try.prog a w K Q := by
  obtain ⟨i0, hi, hz0, hz1, hz2⟩ := info_parts Try.infoLs
  by_cases h0 : 0 < m
  · obtain ⟨b, off, rfl, hcc⟩ := hc h0
    refine wp_append_lies w s x 23 ho lo 22 i0 (.slice none 0 0) 1 24 Try.underlying23 hi hz0 hz1 hz2 rfl (by decide) (.slice A n c) n L hs hown ⟨b, off, none⟩ m c2 H hx (by simp [hH]) ?_ h1 h0 (by unfold maxLen; omega) (by omega) hlo w.heap.size rfl ?_
    · intro j u hj
      have hjl : j < H.length := by
        rcases Nat.lt_or_ge j H.length with h | h
        · exact h
        · rw [List.getElem?_eq_none h] at hj; cases hj
      rw [add_pt, hcc j (by omega)]
      exact hj
    · intro g cap w1 ho1 hg1 _ _
      have hg2 := hg1
      rw [ownB] at hg2
      exact h _ _ w1 ho1 hg2 (grow_below hg1 hlo (fun k hk => (hown.lt k hk).1))
  · have hm0 : m = 0 := by omega
    subst hm0
    have hy : H = [] := List.eq_nil_of_length_eq_zero hH
    subst hy
    have hk0 := h A c w (by simpa using hown) (World.grownBy.refl _ _) (Below.refl _ _)
    have hrun : (Builtin.append_ #[23, 23] o.type #[.slice A n c, .slice A2 0 c2]).run Try.prog w = .ok (.slice A n c) w := by
      have hg := hown
      have hl0 : ∀ v, (loadCells v 0).run Try.prog w = .ok #[] w := fun v => by simp [loadCells, loadCellsFrom]
      rcases hg.2 with ⟨e, h0⟩ | ⟨g, cap, cur, e, _, hgg, hnc, _⟩
      · injection e with e1 e2 e3
        subst e1; subst e3; subst h0
        cases A2 <;> simp [Builtin.append_, run_underlying Try.underlying23, sizeOf, typeInfo, hi, Builtin.lenOf, Builtin.firstCells, hl0]
      · injection e with e1 e2 e3
        subst e1; subst e3
        cases A2 <;> simp [Builtin.append_, run_underlying Try.underlying23, sizeOf, typeInfo, hi, Builtin.lenOf, Builtin.firstCells, hnc, storeCells, hl0]
    unfold Oper.wp execOp
    simp only [ho, resolve, invoke, builtin, Sem.run_bind, Sem.run_pure, Result.andThen_ok, List.map_toArray, List.map_cons, List.map_nil, hs, hx, hrun]
    exact hk0
theorem step_append_row (w : World) {ops : Array Oper} {o : Oper} {a : Act} {K : Act → World → Prop} {Q : Exit → Act → World → Prop} {E0 : Prop} (hw : Region.wanted o (yielded ops a.tmps) = true) (s x : Operand)
    (ho : o.op = .call { callee := .builtin .append, args := #[s, x], argTypes := #[23, 23] })
    (lo : Nat) (A : Option Addr) (n c : Nat) (L : List Value) (A2 : Option Addr) (m c2 : Nat) (H : List Value) (hs : a.eval s = .slice A n c) (hx : a.eval x = .slice A2 m c2)
    (hown : w.ownsRow lo 22 1 (.slice A n c) n L) (hH : H.length = m) (hc : 0 < m → ∃ b o, A2 = some ⟨b, o, none⟩ ∧ ∀ k, k < m → w.cell? ⟨b, o + k, none⟩ = H[k]?) (h1 : ∀ u ∈ H, u.oneCell' = true) (hlo : lo ≤ w.heap.size) (hn : n ≤ 100000) (hm : m ≤ 100000)
    (h : ∀ A' c' w', w'.ownsRow lo 22 1 (.slice A' (n + m) c') (n + m) (L ++ H) → w.grownBy w' (rowB A) → Below lo w w' → K (a.put o.dst (.slice A' (n + m) c')) w') :
    if Region.wanted o (yielded ops a.tmps) = true then Oper.wp Try.prog o a w K Q else E0 := by
  rw [if_pos hw]
  exact wp_append_row w s x ho lo A n c L A2 m c2 H hs hx hown hH hc h1 hlo hn hm h
/-- A list put between the lists of a list: where its headers come from. -/
def insE (E : Nat → Sv) (k : Nat) (X : Sv) : Nat → Sv := fun j => if j < k then E j else if j = k then X else E (j - 1)
theorem heads_ins (E : Nat → Sv) {k n : Nat} (X : Sv) (hk : k ≤ n) : heads k E ++ [sv X] ++ (heads n E).drop k = heads (n + 1) (insE E k X) := by
  apply List.ext_getElem?
  intro j
  by_cases h1 : j < k
  · rw [List.append_assoc, List.getElem?_append_left (by rw [heads_len]; exact h1), heads_get _ h1, heads_get _ (by omega)]
    unfold insE; rw [if_pos h1]
  · by_cases h2 : j = k
    · subst h2
      rw [List.append_assoc, List.getElem?_append_right (by rw [heads_len]; omega), heads_len, heads_get _ (by omega)]
      unfold insE; rw [if_neg (by omega), if_pos rfl]
      simp
    · rw [List.getElem?_append_right (by simp [heads_len]; omega)]
      simp only [List.length_append, heads_len, List.length_singleton]
      rw [List.getElem?_drop]
      by_cases h3 : j < n + 1
      · rw [heads_get _ (by omega), heads_get _ h3]
        unfold insE
        rw [if_neg h1, if_neg h2, show k + (j - (k + 1)) = j - 1 by omega]
      · rw [List.getElem?_eq_none (by rw [heads_len]; omega), List.getElem?_eq_none (by rw [heads_len]; omega)]
theorem li_ins {ls : List (List Int)} {xs : List Int} {k : Nat} (hk : k ≤ ls.length) (j : Nat) : li (ls.take k ++ xs :: ls.drop k) j = if j < k then li ls j else if j = k then xs else li ls (j - 1) := by
  unfold li
  simp only [List.getD_eq_getElem?_getD]
  by_cases h1 : j < k
  · rw [if_pos h1, List.getElem?_append_left (by rw [List.length_take]; omega), List.getElem?_take_of_lt h1]
  · rw [if_neg h1, List.getElem?_append_right (by rw [List.length_take]; omega), List.length_take, Nat.min_eq_left hk]
    by_cases h2 : j = k
    · subst h2; simp
    · rw [if_neg h2]
      obtain ⟨d, hd⟩ : ∃ d, j - k = d + 1 := ⟨j - k - 1, by omega⟩
      rw [hd, List.getElem?_cons_succ, List.getElem?_drop, show k + d = j - 1 by omega]
/-- What the new list is, if it lies in a block of its own. -/
theorem OwnLE.ins {E : Nat → Sv} {w : World} {lo hi n c : Nat} {A : Option Addr} {ls : List (List Int)} (h : OwnLE E w lo hi A n c ls) {X : Sv} {xs : List Int} (hx : Own w lo hi X.1 X.2.1 X.2.2 xs) (hap : ∀ b, (sv X).ownBlock = some b → ∀ j, j < n → (sv (E j)).ownBlock ≠ some b)
    {k : Nat} (hk : k ≤ n) {A' : Option Addr} {c' : Nat} (hrow : w.ownsRow hi 22 1 (.slice A' (n + 1) c') (n + 1) (heads k E ++ [sv X] ++ (heads n E).drop k)) (hlo : lo ≤ hi) (hhi : hi ≤ w.heap.size) :
    OwnLE (insE E k X) w lo w.heap.size A' (n + 1) c' (ls.take k ++ xs :: ls.drop k) := by
  have hl := h.1
  rw [heads_ins E X hk] at hrow
  have hE : ∀ j, j < n + 1 → Own w lo hi (insE E k X j).1 (insE E k X j).2.1 (insE E k X j).2.2 (li (ls.take k ++ xs :: ls.drop k) j) := fun j hj => by
    rw [li_ins (by omega)]
    unfold insE
    by_cases h1 : j < k
    · rw [if_pos h1, if_pos h1]; exact h.2.2.2.1 j (by omega)
    · rw [if_neg h1, if_neg h1]
      by_cases h2 : j = k
      · rw [if_pos h2, if_pos h2]; exact hx
      · rw [if_neg h2, if_neg h2]; exact h.2.2.2.1 (j - 1) (by omega)
  refine ⟨by simp [List.length_take]; omega, World.ownsRow.mono_ hrow hlo, fun q hq => (hrow.lt q hq).2, fun j hj => (hE j hj).wide (Nat.le_refl _) hhi, fun j g hj hg e => ?_, fun i j g hij hj hi2 hj2 => ?_⟩
  · have h1 := (hE j hj).lt g hg
    have h2 := (hrow.lt g e).1
    omega
  · unfold insE at hi2 hj2
    by_cases h1 : j < k
    · rw [if_pos h1] at hj2
      rw [if_pos (by omega)] at hi2
      exact h.2.2.2.2.2 i j g hij (by omega) hi2 hj2
    · rw [if_neg h1] at hj2
      by_cases h2 : j = k
      · rw [if_pos h2] at hj2
        rw [if_pos (by omega)] at hi2
        exact hap g hj2 i (by omega) hi2
      · rw [if_neg h2] at hj2
        by_cases h3 : i < k
        · rw [if_pos h3] at hi2
          exact h.2.2.2.2.2 i (j - 1) g (by omega) (by omega) hi2 hj2
        · rw [if_neg h3] at hi2
          by_cases h4 : i = k
          · rw [if_pos h4] at hi2
            exact hap g hi2 (j - 1) (by omega) hj2
          · rw [if_neg h4] at hi2
            exact h.2.2.2.2.2 (i - 1) (j - 1) g (by omega) (by omega) hi2 hj2
theorem OwnLE.formL {E : Nat → Sv} {w : World} {lo hi n c : Nat} {A : Option Addr} {ls : List (List Int)} (h : OwnLE E w lo hi A n c ls) : (A = none ∧ n = 0 ∧ c = 0) ∨ ∃ g, A = some ⟨g, 0, none⟩ ∧ n ≤ c := by
  rcases h.2.1.2 with ⟨e, h0⟩ | ⟨g, cap, cur, e, _, _, hnc, _⟩
  · injection e with e1 e2 e3
    exact .inl ⟨e1, by omega, by omega⟩
  · injection e with e1 e2 e3
    exact .inr ⟨g, e1, by omega⟩
/-- The cells of a part of an owned list of lists. -/
theorem OwnLE.part {E : Nat → Sv} {w : World} {lo hi g n c : Nat} {ls : List (List Int)} (h : OwnLE E w lo hi (some ⟨g, 0, none⟩) n c ls) (k m : Nat) (hkm : k + m ≤ n) : ∀ j, j < m → w.cell? ⟨g, k + j, none⟩ = ((heads n E).drop k)[j]? := fun j hj => by
  rw [h.cellAt (show k + j < n by omega), List.getElem?_drop, heads_get E (by omega)]
theorem below_grown {w0 W w7 : World} {r : Option Nat} (h : Below w0.heap.size w0 W) (hg : W.grownBy w7 r) (hr : ∀ q, r = some q → w0.heap.size ≤ q) : Below w0.heap.size w0 w7 := h.grown hg h.size hr
theorem heads_one (n : Nat) (E : Nat → Sv) : ∀ u ∈ heads n E, u.oneCell' = true := fun u hu => by
  unfold heads at hu
  obtain ⟨k, _, rfl⟩ := List.mem_map.1 hu
  rfl
theorem heads_take (n : Nat) (E : Nat → Sv) {k : Nat} (hk : k ≤ n) : (heads n E).take k = heads k E := by
  apply List.ext_getElem?
  intro j
  by_cases h : j < k
  · rw [List.getElem?_take_of_lt h, heads_get _ (by omega), heads_get _ h]
  · rw [List.getElem?_eq_none (by simp [heads_len]; omega), List.getElem?_eq_none (by rw [heads_len]; omega)]
theorem ret_slice {A : Option Addr} {a b c : Nat} (h : a = b) : Ending.returned (Value.slice A a c) = Ending.returned (Value.slice A b c) := by rw [h]
theorem World.ownsRow.ofBelow {w w' : World} {lo n : Nat} {v : Value} {L : List Value} (h : w.ownsRow lo 22 1 v n L) (hb : Below w.heap.size w w') : w'.ownsRow lo 22 1 v n L := by
  refine ⟨h.1, ?_⟩
  rcases h.2 with h' | ⟨g, cap, cur, e, hlo, hg, rest⟩
  · exact Or.inl h'
  · exact Or.inr ⟨g, cap, cur, e, hlo, (hb.block g (Blk.lt (t := _) hg)).trans hg, rest⟩
set_option maxRecDepth 100000 in
set_option maxHeartbeats 8000000 in
theorem l1Insert_any (E : Nat → Sv) (A A2 : Option Addr) (n c n2 c2 lo : Nat) (ls : List (List Int)) (xs : List Int) (w : World) (ho : OwnLE E w lo w.heap.size A n c ls) (hx : Own w lo w.heap.size A2 n2 c2 xs)
    (hap : ∀ b, (sv ((A2, n2, c2) : Sv)).ownBlock = some b → ∀ j, j < n → (sv (E j)).ownBlock ≠ some b) (hlo : lo ≤ w.heap.size) (hn : n ≤ 1000) (hn2 : n2 ≤ 1000) (hne : ∀ k, k < n → (li ls k).length ≤ 1000) :
    Calls Try.prog 96 #[.slice A n c, .slice A2 n2 c2] w fun e w' => ∃ A' n' c' E', e = .returned (.slice A' n' c') ∧ OwnLE E' w' lo w'.heap.size A' n' c' (insU ls xs) ∧ Below w.heap.size w w' := by
  have HE := Lib.hid ho
  have HX := Lib.hid hx
  have HAP := Lib.hid hap
  have HLO := Lib.hid hlo
  have HNE := Lib.hid hne
  have HL := Lib.hid ho.1
  clear ho hx hap hlo hne
  go_enter Try.func96, Try.ntmps96
  go_wp2_with fail
  go_loopw [5] (fun iv wr => ∃ k : Nat, k ≤ n ∧ iv = .int .i64 k ∧ (∀ j, j < k → lessL (li ls j) xs = true) ∧ Below w.heap.size w wr)
    (fun iv _ => n - (intOf iv).toNat)
  case atStart => exact ⟨0, Nat.zero_le _, rfl, fun j hj => absurd hj (by omega), Below.refl _ _⟩
  case round =>
    obtain ⟨k, hk, rfl, hall, hDb⟩ := hrel
    have HALL := Lib.hid hall
    have HDb := Lib.hid hDb
    clear hall hDb
    by_cases hlt : k < n
    · have hlI : (k : Int) < (n : Int) := by omega
      obtain ⟨g, rfl, hg1, hg2⟩ := HE.out.place (by omega)
      have HGW : Hid (g < w.heap.size) := Lib.hid hg2
      have hEr := HE.out.below HDb.out (Nat.le_refl _)
      have hcE := hEr.cellAt hlt
      have hOE := hEr.2.2.2.1 k hlt
      obtain ⟨⟨A', n', c'⟩, hEi⟩ : ∃ a, a = E k := ⟨_, rfl⟩
      rw [← hEi] at hcE hOE
      have hcell : wr.cell? ⟨g, k, none⟩ = some (.slice A' n' c') := hcE
      have HCL := Lib.hid hcell
      have HOW : Hid (Own wr lo w.heap.size A' n' c' (li ls k)) := Lib.hid hOE
      have hn' : n' ≤ 1000 := by have := HNE.out k hlt; have := hOE.len; have : (E k).2.1 = n' := by rw [← hEi]
                                 simp only at *; omega
      have HLE := Lib.hid (fun u (hd : Drawn wr u) => l1Less_any A' A2 n' c' n2 c2 (li ls k) xs u (hd.si HOW.out.si) (hd.si (HX.out.below HDb.out (Nat.le_refl _)).si) (by omega) (by omega))
      clear hEr hcE hOE hEi hg1 hg2
      by_cases hls : lessL (li ls k) xs = true
      · have HLS := Lib.hid hls
        rw [hls] at HLE
        clear hls
        go_wp2_with (go_at_call 186; (with_reducible refine (HLE.out _ (Drawn.refl _)).mono ?_); rintro e w1 ⟨rfl, hd1⟩; have HD1 := Lib.hid hd1; clear hd1)
        go_roundw
        case rel => exact ⟨k + 1, by omega, by go_num, fun j hj => by
          rcases Nat.lt_or_ge j k with h | h
          · exact HALL.out j h
          · obtain rfl : j = k := by omega
            exact HLS.out, HDb.out.trans (HD1.out.below _)⟩
        case measure => simp [intOf]; omega
      · have hls' : lessL (li ls k) xs = false := by simpa using hls
        have HPL : Hid (plcU ls xs = k) := Lib.hid (plcU_is ls k (by rw [HL.out]; exact hk) HALL.out (.inr hls'))
        have HSM := Lib.hid (fun u (hd : Drawn wr u) => l1Same_any A' A2 n' c' n2 c2 (li ls k) xs u (hd.si HOW.out.si) (hd.si (HX.out.below HDb.out (Nat.le_refl _)).si) (by omega) (by omega))
        rw [hls'] at HLE
        clear hls hls'
        obtain ⟨w0, rfl⟩ : ∃ w0, w0 = wr := ⟨wr, rfl⟩
        by_cases hsm : li ls k = xs
        · have HIN : Hid (insU ls xs = ls) := Lib.hid (by unfold insU; rw [HPL.out, if_pos ⟨by rw [HL.out]; exact hlt, hsm⟩])
          rw [show eqL (li ls k) xs = true from by rw [hsm]; exact eqL_self _] at HSM
          clear hsm
          go_upto_region 4 with (go_at_call 186; (with_reducible refine (HLE.out _ (Drawn.refl _)).mono ?_); rintro e w1 ⟨rfl, hd1⟩; have HD1 := Lib.hid hd1; clear hd1)
          have hcell1 : w1.cell? ⟨g, k, none⟩ = some (.slice A' n' c') := (Below.cell (HD1.out.below w0.heap.size) (p := ⟨g, k, none⟩) (Nat.lt_of_lt_of_le HGW.out HDb.out.size)).trans HCL.out
          clear hcell
          go_wp2_with (go_at_call 187; (with_reducible refine (HSM.out _ HD1.out).mono ?_); rintro e w2 ⟨rfl, hd2⟩; have HD2 := Lib.hid (HD1.out.trans hd2); clear hd2)
          go_ret
          rw [HIN.out]
          exact ⟨_, n, c, E, rfl, (HE.out.below (HDb.out.trans (HD2.out.below _)) (Nat.le_refl _)).wide2 (Nat.le_refl _) (HDb.out.trans (HD2.out.below _)).size, HDb.out.trans (HD2.out.below _)⟩
        · have HIN : Hid (insU ls xs = ls.take k ++ xs :: ls.drop k) := Lib.hid (by unfold insU; rw [HPL.out, if_neg (fun h => hsm h.2)])
          rw [show eqL (li ls k) xs = false from by simp [eqL]; exact hsm] at HSM
          clear hsm
          go_upto_region 4 with (go_at_call 186; (with_reducible refine (HLE.out _ (Drawn.refl _)).mono ?_); rintro e w1 ⟨rfl, hd1⟩; have HD1 := Lib.hid hd1; clear hd1)
          have hcell1 : w1.cell? ⟨g, k, none⟩ = some (.slice A' n' c') := (Below.cell (HD1.out.below w0.heap.size) (p := ⟨g, k, none⟩) (Nat.lt_of_lt_of_le HGW.out HDb.out.size)).trans HCL.out
          clear hcell
          go_upto_region 6 with (go_at_call 187; (with_reducible refine (HSM.out _ HD1.out).mono ?_); rintro e wr ⟨rfl, hd2⟩; have HDb : Hid (Below w.heap.size w wr) := Lib.hid (HDb.out.trans ((HD1.out.trans hd2).below _)); clear hd2)
          have hnc0 : n ≤ c := by
            rcases HE.out.formL with ⟨h, _⟩ | ⟨_, _, h⟩
            · cases h
            · exact h
          have hcn : ¬ c = k := by omega
          have hkc : (k : Int) ≤ (c : Int) := by omega
          have hnc : (n : Int) ≤ (c : Int) := by omega
          have hkn : (k : Int) ≤ (n : Int) := by omega
          clear hcell1
          have HW1 : Hid (Below w.heap.size w (wr.drew.alloc (.cells #[] 22))) := Lib.hid ((HDb.out.drew).alloc HDb.out.drew.size _)
          have HW2 : Hid (Below w.heap.size w ((wr.drew.alloc (.cells #[] 22)).alloc (.cells #[.slice A2 n2 c2] 22))) := Lib.hid (HW1.out.alloc HW1.out.size _)
          have HW3 : Hid (Below w.heap.size w ((wr.drew.alloc (.cells #[.slice A2 n2 c2] 22)).alloc (.cells #[] 22))) := Lib.hid (((HDb.out.drew).alloc HDb.out.drew.size _).alloc (((HDb.out.drew).alloc HDb.out.drew.size _).size) _)
          have HZ : Hid (w.heap.size ≤ wr.heap.size) := Lib.hid HDb.out.size
          have HZ1 : Hid (w.heap.size ≤ wr.heap.size + 1) := Lib.hid (Nat.le_succ_of_le HDb.out.size)
          have HO1 : Hid ((wr.drew.alloc (.cells #[] 22)).ownsRow w.heap.size 22 1 (.slice (some ⟨wr.heap.size, 0, none⟩) 0 0) 0 []) := Lib.hid (World.ownsRow.mono_ (World.ownsRow_lit (e := 22) (size := 1) wr.drew #[] 0 (Nat.le_refl _) (Nat.zero_le _) rfl) HDb.out.size)
          have HO2 : Hid (((wr.drew.alloc (.cells #[] 22)).alloc (.cells #[.slice A2 n2 c2] 22)).ownsRow w.heap.size 22 1 (.slice (some ⟨wr.heap.size, 0, none⟩) 0 0) 0 []) := Lib.hid (World.ownsRow.ofBelow HO1.out (Below.alloc_self _ _))
          have HO3 : Hid (((wr.drew.alloc (.cells #[.slice A2 n2 c2] 22)).alloc (.cells #[] 22)).ownsRow w.heap.size 22 1 (.slice (some ⟨wr.heap.size + 1, 0, none⟩) 0 0) 0 []) := Lib.hid (by
            have h := (World.ownsRow_lit (wr.drew.alloc (.cells #[.slice A2 n2 c2] 22)) (e := 22) (size := 1) #[] 0 (Nat.le_refl _) (Nat.zero_le _) rfl)
            have e : (wr.drew.alloc (.cells #[.slice A2 n2 c2] 22)).heap.size = wr.heap.size + 1 := by first | rfl | simp
            rw [e] at h
            exact World.ownsRow.mono_ h (Nat.le_succ_of_le HDb.out.size))
          have HQ2 : Hid (((wr.drew.alloc (.cells #[] 22)).alloc (.cells #[.slice A2 n2 c2] 22)).cell? ⟨wr.heap.size + 1, 0, none⟩ = some (.slice A2 n2 c2)) := Lib.hid (by
            have h := (Blk.new (wr.drew.alloc (.cells #[] 22)) 22 #[.slice A2 n2 c2]).cell 0
            have e : (wr.drew.alloc (.cells #[] 22)).heap.size = wr.heap.size + 1 := by first | rfl | simp
            rw [e] at h
            exact h)
          have HQ3 : Hid (((wr.drew.alloc (.cells #[.slice A2 n2 c2] 22)).alloc (.cells #[] 22)).cell? ⟨wr.heap.size, 0, none⟩ = some (.slice A2 n2 c2)) := Lib.hid (by
            have h := (((Blk.new wr.drew 22 #[.slice A2 n2 c2]).alloc (.cells #[] 22))).cell 0
            exact h)
          have HER : Hid (∀ W, Below w.heap.size w W → OwnLE E W lo w.heap.size (some ⟨g, 0, none⟩) n c ls) := Lib.hid (fun W h => HE.out.below h (Nat.le_refl _))
          have HXR : Hid (∀ W, Below w.heap.size w W → Own W lo w.heap.size A2 n2 c2 xs) := Lib.hid (fun W h => HX.out.below h (Nat.le_refl _))
          have PART1 : Hid (∀ W, Below w.heap.size w W → ∀ j, j < k → W.cell? ⟨g, 0 + j, none⟩ = (heads k E)[j]?) := Lib.hid (fun W h j hj => by
            rw [(HER.out W h).part 0 k (by omega) j hj, List.drop_zero, ← heads_take n E (show k ≤ n by omega), List.getElem?_take_of_lt hj])
          have PART3 : Hid (∀ W, Below w.heap.size w W → ∀ j, j < n - k → W.cell? ⟨g, k + j, none⟩ = ((heads n E).drop k)[j]?) := Lib.hid (fun W h j hj => (HER.out W h).part k (n - k) (by omega) j hj)
          go_region_law (first
            | (refine step_append_row _ (by first | rfl | kernel_rfl | simp [Region.wanted, yielded]) (.tmp 33) (.tmp 36) (by rfl) w.heap.size _ 0 0 [] _ k _ (heads k E) (by first | rfl | simp [Act.eval] | simp [Act.eval, Act.put]) (by first | rfl | simp [Act.eval] | simp [Act.eval, Act.put]) (by first | exact HO1.out | exact HO2.out | exact HO3.out) (heads_len _ _) (fun _ => ⟨g, 0, rfl, fun j hj => PART1.out _ (by first | exact HW1.out | exact HW2.out | exact HW3.out) j hj⟩) (heads_one _ _) (by first | exact HW1.out.size | exact HW2.out.size | exact HW3.out.size) (by omega) (by omega) ?_
               intro A7 c7 w7 ho7 hg7 hb7
               have HO7 : Hid (w7.ownsRow w.heap.size 22 1 (.slice A7 (0 + k) c7) (0 + k) (heads k E)) := Lib.hid (by simpa using ho7)
               have HB7 : Hid (Below w.heap.size w w7) := Lib.hid (by first | exact below_grown HW1.out hg7 (by rintro q ⟨⟩; exact HZ.out) | exact below_grown HW2.out hg7 (by rintro q ⟨⟩; exact HZ.out) | exact below_grown HW3.out hg7 (by rintro q ⟨⟩; exact HZ1.out))
               have HG7 := Lib.hid hg7
               clear ho7 hg7 hb7)
            | (refine step_append_row _ (by first | rfl | kernel_rfl | simp [Region.wanted, yielded]) (.tmp 37) (.tmp 39) (by rfl) w.heap.size A7 (0 + k) c7 (heads k E) _ 1 _ [.slice A2 n2 c2] (by first | rfl | simp [Act.eval] | simp [Act.eval, Act.put]) (by first | rfl | simp [Act.eval] | simp [Act.eval, Act.put]) (by first | exact HO7.out | exact World.ownsRow.ofBelow HO7.out (Below.alloc_self _ _)) rfl (fun _ => ⟨_, 0, rfl, fun j hj => by
                  obtain rfl : j = 0 := by omega
                  show World.cell? _ _ = some (.slice A2 n2 c2)
                  first
                    | exact (Blk.new w7 22 #[.slice A2 n2 c2]).cell 0
                    | exact (World.cell?_of_block (HG7.out.block _ (by first | (simp; done) | (simp; omega)) (by rw [rowB_some]; intro h; injection h with h; first | (simp at h; done) | (simp at h; omega) | omega))).trans (HQ2.out)
                    | exact (World.cell?_of_block (HG7.out.block _ (by first | (simp; done) | (simp; omega)) (by rw [rowB_some]; intro h; injection h with h; first | (simp at h; done) | (simp at h; omega) | omega))).trans (HQ3.out)⟩) (by simp [Value.oneCell']) (by first | exact HB7.out.size | (have := HB7.out.size; simp; omega)) (by omega) (by omega) ?_
               intro A8 c8 w8 ho8 hg8 hb8
               have HO8 : Hid (w8.ownsRow w.heap.size 22 1 (.slice A8 (0 + k + 1) c8) (0 + k + 1) (heads k E ++ [.slice A2 n2 c2])) := Lib.hid ho8
               have HB8 : Hid (Below w.heap.size w w8) := Lib.hid (by first | exact HB7.out.trans hb8 | exact (HB7.out.alloc HB7.out.size _).trans hb8)
               clear ho8 hg8 hb8)
            | (refine step_append_row _ (by first | rfl | kernel_rfl | simp [Region.wanted, yielded]) (.tmp 40) (.tmp 43) (by rfl) w.heap.size A8 (0 + k + 1) c8 (heads k E ++ [.slice A2 n2 c2]) _ (n - k) _ ((heads n E).drop k) (by first | rfl | simp [Act.eval] | simp [Act.eval, Act.put]) (by first | rfl | simp [Act.eval] | simp [Act.eval, Act.put]) HO8.out (by simp [heads_len]) (fun h0 => ⟨g, k, rfl, fun j hj => PART3.out _ HB8.out j hj⟩) (fun u hu => heads_one n E u (List.mem_of_mem_drop hu)) HB8.out.size (by omega) (by omega) ?_
               intro A9 c9 w9 ho9 hg9 hb9
               have HO9 := Lib.hid ho9
               have HB9 : Hid (Below w.heap.size w w9) := Lib.hid (HB8.out.trans hb9)
               clear ho9 hg9 hb9))
          all_goals
            (go_wp2
             go_ret
             have e9 : 0 + k + 1 + (n - k) = n + 1 := by omega
             have ho9 := HO9.out
             rw [e9] at ho9
             rw [HIN.out]
             have FIN := (HER.out _ HB9.out).ins (X := (A2, n2, c2)) (HXR.out _ HB9.out) HAP.out (show k ≤ n by omega) ho9 HLO.out HB9.out.size
             first
               | exact ⟨A9, n + 1, c9, insE E k (A2, n2, c2), ret_slice (by omega), FIN, HB9.out⟩
               | exact ⟨A9, n + 1, c9, ret_slice (by omega), ⟨insE E k (A2, n2, c2), FIN⟩, HB9.out⟩)
    · have hlI : ¬ (k : Int) < (n : Int) := by omega
      obtain rfl : k = n := by omega
      have HPL : Hid (plcU ls xs = k) := Lib.hid (plcU_is ls k (by rw [HL.out]; exact Nat.le_refl _) HALL.out (.inl HL.out.symm))
      have HIN : Hid (insU ls xs = ls.take k ++ xs :: ls.drop k) := Lib.hid (by unfold insU; rw [HPL.out, if_neg (fun h => by have := h.1; rw [HL.out] at this; omega)])
      rcases HE.out.formL with ⟨rfl, hk0, hc0⟩ | ⟨g, rfl, hnc0⟩
      · subst hk0; subst hc0
        go_upto_region 6 with fail
        have HW1 : Hid (Below w.heap.size w (wr.drew.alloc (.cells #[] 22))) := Lib.hid ((HDb.out.drew).alloc HDb.out.drew.size _)
        have HW2 : Hid (Below w.heap.size w ((wr.drew.alloc (.cells #[] 22)).alloc (.cells #[.slice A2 n2 c2] 22))) := Lib.hid (HW1.out.alloc HW1.out.size _)
        have HW3 : Hid (Below w.heap.size w ((wr.drew.alloc (.cells #[.slice A2 n2 c2] 22)).alloc (.cells #[] 22))) := Lib.hid (((HDb.out.drew).alloc HDb.out.drew.size _).alloc (((HDb.out.drew).alloc HDb.out.drew.size _).size) _)
        have HZ : Hid (w.heap.size ≤ wr.heap.size) := Lib.hid HDb.out.size
        have HZ1 : Hid (w.heap.size ≤ wr.heap.size + 1) := Lib.hid (Nat.le_succ_of_le HDb.out.size)
        have HO1 : Hid ((wr.drew.alloc (.cells #[] 22)).ownsRow w.heap.size 22 1 (.slice (some ⟨wr.heap.size, 0, none⟩) 0 0) 0 []) := Lib.hid (World.ownsRow.mono_ (World.ownsRow_lit (e := 22) (size := 1) wr.drew #[] 0 (Nat.le_refl _) (Nat.zero_le _) rfl) HDb.out.size)
        have HO2 : Hid (((wr.drew.alloc (.cells #[] 22)).alloc (.cells #[.slice A2 n2 c2] 22)).ownsRow w.heap.size 22 1 (.slice (some ⟨wr.heap.size, 0, none⟩) 0 0) 0 []) := Lib.hid (World.ownsRow.ofBelow HO1.out (Below.alloc_self _ _))
        have HO3 : Hid (((wr.drew.alloc (.cells #[.slice A2 n2 c2] 22)).alloc (.cells #[] 22)).ownsRow w.heap.size 22 1 (.slice (some ⟨wr.heap.size + 1, 0, none⟩) 0 0) 0 []) := Lib.hid (by
          have h := (World.ownsRow_lit (wr.drew.alloc (.cells #[.slice A2 n2 c2] 22)) (e := 22) (size := 1) #[] 0 (Nat.le_refl _) (Nat.zero_le _) rfl)
          have e : (wr.drew.alloc (.cells #[.slice A2 n2 c2] 22)).heap.size = wr.heap.size + 1 := by first | rfl | simp
          rw [e] at h
          exact World.ownsRow.mono_ h (Nat.le_succ_of_le HDb.out.size))
        have HQ2 : Hid (((wr.drew.alloc (.cells #[] 22)).alloc (.cells #[.slice A2 n2 c2] 22)).cell? ⟨wr.heap.size + 1, 0, none⟩ = some (.slice A2 n2 c2)) := Lib.hid (by
          have h := (Blk.new (wr.drew.alloc (.cells #[] 22)) 22 #[.slice A2 n2 c2]).cell 0
          have e : (wr.drew.alloc (.cells #[] 22)).heap.size = wr.heap.size + 1 := by first | rfl | simp
          rw [e] at h
          exact h)
        have HQ3 : Hid (((wr.drew.alloc (.cells #[.slice A2 n2 c2] 22)).alloc (.cells #[] 22)).cell? ⟨wr.heap.size, 0, none⟩ = some (.slice A2 n2 c2)) := Lib.hid (by
          have h := (((Blk.new wr.drew 22 #[.slice A2 n2 c2]).alloc (.cells #[] 22))).cell 0
          exact h)
        have HER : Hid (∀ W, Below w.heap.size w W → OwnLE E W lo w.heap.size none 0 0 ls) := Lib.hid (fun W h => HE.out.below h (Nat.le_refl _))
        have HXR : Hid (∀ W, Below w.heap.size w W → Own W lo w.heap.size A2 n2 c2 xs) := Lib.hid (fun W h => HX.out.below h (Nat.le_refl _))
        go_region_law (first
          | (refine step_append_row _ (by first | rfl | kernel_rfl | simp [Region.wanted, yielded]) (.tmp 33) (.tmp 36) (by rfl) w.heap.size _ 0 0 [] _ 0 _ (heads 0 E) (by first | rfl | simp [Act.eval] | simp [Act.eval, Act.put]) (by first | rfl | simp [Act.eval] | simp [Act.eval, Act.put]) (by first | exact HO1.out | exact HO2.out | exact HO3.out) (heads_len _ _) (fun h0 => absurd h0 (by omega)) (heads_one _ _) (by first | exact HW1.out.size | exact HW2.out.size | exact HW3.out.size) (by omega) (by omega) ?_
             intro A7 c7 w7 ho7 hg7 hb7
             have HO7 : Hid (w7.ownsRow w.heap.size 22 1 (.slice A7 (0 + 0) c7) (0 + 0) (heads 0 E)) := Lib.hid (by simpa using ho7)
             have HB7 : Hid (Below w.heap.size w w7) := Lib.hid (by first | exact below_grown HW1.out hg7 (by rintro q ⟨⟩; exact HZ.out) | exact below_grown HW2.out hg7 (by rintro q ⟨⟩; exact HZ.out) | exact below_grown HW3.out hg7 (by rintro q ⟨⟩; exact HZ1.out))
             have HG7 := Lib.hid hg7
             clear ho7 hg7 hb7)
          | (refine step_append_row _ (by first | rfl | kernel_rfl | simp [Region.wanted, yielded]) (.tmp 37) (.tmp 39) (by rfl) w.heap.size A7 (0 + 0) c7 (heads 0 E) _ 1 _ [.slice A2 n2 c2] (by first | rfl | simp [Act.eval] | simp [Act.eval, Act.put]) (by first | rfl | simp [Act.eval] | simp [Act.eval, Act.put]) (by first | exact HO7.out | exact World.ownsRow.ofBelow HO7.out (Below.alloc_self _ _)) rfl (fun _ => ⟨_, 0, rfl, fun j hj => by
                obtain rfl : j = 0 := by omega
                show World.cell? _ _ = some (.slice A2 n2 c2)
                first
                  | exact (Blk.new w7 22 #[.slice A2 n2 c2]).cell 0
                  | exact (World.cell?_of_block (HG7.out.block _ (by first | (simp; done) | (simp; omega)) (by rw [rowB_some]; intro h; injection h with h; first | (simp at h; done) | (simp at h; omega) | omega))).trans (HQ2.out)
                  | exact (World.cell?_of_block (HG7.out.block _ (by first | (simp; done) | (simp; omega)) (by rw [rowB_some]; intro h; injection h with h; first | (simp at h; done) | (simp at h; omega) | omega))).trans (HQ3.out)⟩) (by simp [Value.oneCell']) (by first | exact HB7.out.size | (have := HB7.out.size; simp; omega)) (by omega) (by omega) ?_
             intro A8 c8 w8 ho8 hg8 hb8
             have HO8 : Hid (w8.ownsRow w.heap.size 22 1 (.slice A8 (0 + 0 + 1) c8) (0 + 0 + 1) (heads 0 E ++ [.slice A2 n2 c2])) := Lib.hid ho8
             have HB8 : Hid (Below w.heap.size w w8) := Lib.hid (by first | exact HB7.out.trans hb8 | exact (HB7.out.alloc HB7.out.size _).trans hb8)
             clear ho8 hg8 hb8)
          | (refine step_append_row _ (by first | rfl | kernel_rfl | simp [Region.wanted, yielded]) (.tmp 40) (.tmp 43) (by rfl) w.heap.size A8 (0 + 0 + 1) c8 (heads 0 E ++ [.slice A2 n2 c2]) _ 0 _ ((heads 0 E).drop 0) (by first | rfl | simp [Act.eval] | simp [Act.eval, Act.put]) (by first | rfl | simp [Act.eval] | simp [Act.eval, Act.put]) HO8.out (by simp [heads_len]) (fun h0 => absurd h0 (by omega)) (fun u hu => heads_one 0 E u (List.mem_of_mem_drop hu)) HB8.out.size (by omega) (by omega) ?_
             intro A9 c9 w9 ho9 hg9 hb9
             have HO9 := Lib.hid ho9
             have HB9 : Hid (Below w.heap.size w w9) := Lib.hid (HB8.out.trans hb9)
             clear ho9 hg9 hb9))
        all_goals
          (go_wp2
           go_ret
           have e9 : 0 + 0 + 1 + 0 = 0 + 1 := by omega
           have ho9 := HO9.out
           rw [e9] at ho9
           rw [HIN.out]
           have FIN := (HER.out _ HB9.out).ins (X := (A2, n2, c2)) (HXR.out _ HB9.out) HAP.out (show 0 ≤ 0 by omega) ho9 HLO.out HB9.out.size
           first
             | exact ⟨A9, 0 + 1, c9, insE E 0 (A2, n2, c2), ret_slice (by omega), FIN, HB9.out⟩
             | exact ⟨A9, 0 + 1, c9, ret_slice (by omega), ⟨insE E 0 (A2, n2, c2), FIN⟩, HB9.out⟩)
      · have hkc : (k : Int) ≤ (c : Int) := by omega
        by_cases hcn : c = k
        · subst hcn
          go_upto_region 6 with fail
          have HW1 : Hid (Below w.heap.size w (wr.drew.alloc (.cells #[] 22))) := Lib.hid ((HDb.out.drew).alloc HDb.out.drew.size _)
          have HW2 : Hid (Below w.heap.size w ((wr.drew.alloc (.cells #[] 22)).alloc (.cells #[.slice A2 n2 c2] 22))) := Lib.hid (HW1.out.alloc HW1.out.size _)
          have HW3 : Hid (Below w.heap.size w ((wr.drew.alloc (.cells #[.slice A2 n2 c2] 22)).alloc (.cells #[] 22))) := Lib.hid (((HDb.out.drew).alloc HDb.out.drew.size _).alloc (((HDb.out.drew).alloc HDb.out.drew.size _).size) _)
          have HZ : Hid (w.heap.size ≤ wr.heap.size) := Lib.hid HDb.out.size
          have HZ1 : Hid (w.heap.size ≤ wr.heap.size + 1) := Lib.hid (Nat.le_succ_of_le HDb.out.size)
          have HO1 : Hid ((wr.drew.alloc (.cells #[] 22)).ownsRow w.heap.size 22 1 (.slice (some ⟨wr.heap.size, 0, none⟩) 0 0) 0 []) := Lib.hid (World.ownsRow.mono_ (World.ownsRow_lit (e := 22) (size := 1) wr.drew #[] 0 (Nat.le_refl _) (Nat.zero_le _) rfl) HDb.out.size)
          have HO2 : Hid (((wr.drew.alloc (.cells #[] 22)).alloc (.cells #[.slice A2 n2 c2] 22)).ownsRow w.heap.size 22 1 (.slice (some ⟨wr.heap.size, 0, none⟩) 0 0) 0 []) := Lib.hid (World.ownsRow.ofBelow HO1.out (Below.alloc_self _ _))
          have HO3 : Hid (((wr.drew.alloc (.cells #[.slice A2 n2 c2] 22)).alloc (.cells #[] 22)).ownsRow w.heap.size 22 1 (.slice (some ⟨wr.heap.size + 1, 0, none⟩) 0 0) 0 []) := Lib.hid (by
            have h := (World.ownsRow_lit (wr.drew.alloc (.cells #[.slice A2 n2 c2] 22)) (e := 22) (size := 1) #[] 0 (Nat.le_refl _) (Nat.zero_le _) rfl)
            have e : (wr.drew.alloc (.cells #[.slice A2 n2 c2] 22)).heap.size = wr.heap.size + 1 := by first | rfl | simp
            rw [e] at h
            exact World.ownsRow.mono_ h (Nat.le_succ_of_le HDb.out.size))
          have HQ2 : Hid (((wr.drew.alloc (.cells #[] 22)).alloc (.cells #[.slice A2 n2 c2] 22)).cell? ⟨wr.heap.size + 1, 0, none⟩ = some (.slice A2 n2 c2)) := Lib.hid (by
            have h := (Blk.new (wr.drew.alloc (.cells #[] 22)) 22 #[.slice A2 n2 c2]).cell 0
            have e : (wr.drew.alloc (.cells #[] 22)).heap.size = wr.heap.size + 1 := by first | rfl | simp
            rw [e] at h
            exact h)
          have HQ3 : Hid (((wr.drew.alloc (.cells #[.slice A2 n2 c2] 22)).alloc (.cells #[] 22)).cell? ⟨wr.heap.size, 0, none⟩ = some (.slice A2 n2 c2)) := Lib.hid (by
            have h := (((Blk.new wr.drew 22 #[.slice A2 n2 c2]).alloc (.cells #[] 22))).cell 0
            exact h)
          have HER : Hid (∀ W, Below w.heap.size w W → OwnLE E W lo w.heap.size (some ⟨g, 0, none⟩) c c ls) := Lib.hid (fun W h => HE.out.below h (Nat.le_refl _))
          have HXR : Hid (∀ W, Below w.heap.size w W → Own W lo w.heap.size A2 n2 c2 xs) := Lib.hid (fun W h => HX.out.below h (Nat.le_refl _))
          have PART1 : Hid (∀ W, Below w.heap.size w W → ∀ j, j < c → W.cell? ⟨g, 0 + j, none⟩ = (heads c E)[j]?) := Lib.hid (fun W h j hj => by
            rw [(HER.out W h).part 0 c (by omega) j hj, List.drop_zero, ← heads_take c E (show c ≤ c by omega), List.getElem?_take_of_lt hj])
          have PART3 : Hid (∀ W, Below w.heap.size w W → ∀ j, j < c - c → W.cell? ⟨g, c + j, none⟩ = ((heads c E).drop c)[j]?) := Lib.hid (fun W h j hj => (HER.out W h).part c (c - c) (by omega) j hj)
          go_region_law (first
            | (refine step_append_row _ (by first | rfl | kernel_rfl | simp [Region.wanted, yielded]) (.tmp 33) (.tmp 36) (by rfl) w.heap.size _ 0 0 [] _ c _ (heads c E) (by first | rfl | simp [Act.eval] | simp [Act.eval, Act.put]) (by first | rfl | simp [Act.eval] | simp [Act.eval, Act.put]) (by first | exact HO1.out | exact HO2.out | exact HO3.out) (heads_len _ _) (fun _ => ⟨g, 0, rfl, fun j hj => PART1.out _ (by first | exact HW1.out | exact HW2.out | exact HW3.out) j hj⟩) (heads_one _ _) (by first | exact HW1.out.size | exact HW2.out.size | exact HW3.out.size) (by omega) (by omega) ?_
               intro A7 c7 w7 ho7 hg7 hb7
               have HO7 : Hid (w7.ownsRow w.heap.size 22 1 (.slice A7 (0 + c) c7) (0 + c) (heads c E)) := Lib.hid (by simpa using ho7)
               have HB7 : Hid (Below w.heap.size w w7) := Lib.hid (by first | exact below_grown HW1.out hg7 (by rintro q ⟨⟩; exact HZ.out) | exact below_grown HW2.out hg7 (by rintro q ⟨⟩; exact HZ.out) | exact below_grown HW3.out hg7 (by rintro q ⟨⟩; exact HZ1.out))
               have HG7 := Lib.hid hg7
               clear ho7 hg7 hb7)
            | (refine step_append_row _ (by first | rfl | kernel_rfl | simp [Region.wanted, yielded]) (.tmp 37) (.tmp 39) (by rfl) w.heap.size A7 (0 + c) c7 (heads c E) _ 1 _ [.slice A2 n2 c2] (by first | rfl | simp [Act.eval] | simp [Act.eval, Act.put]) (by first | rfl | simp [Act.eval] | simp [Act.eval, Act.put]) (by first | exact HO7.out | exact World.ownsRow.ofBelow HO7.out (Below.alloc_self _ _)) rfl (fun _ => ⟨_, 0, rfl, fun j hj => by
                  obtain rfl : j = 0 := by omega
                  show World.cell? _ _ = some (.slice A2 n2 c2)
                  first
                    | exact (Blk.new w7 22 #[.slice A2 n2 c2]).cell 0
                    | exact (World.cell?_of_block (HG7.out.block _ (by first | (simp; done) | (simp; omega)) (by rw [rowB_some]; intro h; injection h with h; first | (simp at h; done) | (simp at h; omega) | omega))).trans (HQ2.out)
                    | exact (World.cell?_of_block (HG7.out.block _ (by first | (simp; done) | (simp; omega)) (by rw [rowB_some]; intro h; injection h with h; first | (simp at h; done) | (simp at h; omega) | omega))).trans (HQ3.out)⟩) (by simp [Value.oneCell']) (by first | exact HB7.out.size | (have := HB7.out.size; simp; omega)) (by omega) (by omega) ?_
               intro A8 c8 w8 ho8 hg8 hb8
               have HO8 : Hid (w8.ownsRow w.heap.size 22 1 (.slice A8 (0 + c + 1) c8) (0 + c + 1) (heads c E ++ [.slice A2 n2 c2])) := Lib.hid ho8
               have HB8 : Hid (Below w.heap.size w w8) := Lib.hid (by first | exact HB7.out.trans hb8 | exact (HB7.out.alloc HB7.out.size _).trans hb8)
               clear ho8 hg8 hb8)
            | (refine step_append_row _ (by first | rfl | kernel_rfl | simp [Region.wanted, yielded]) (.tmp 40) (.tmp 43) (by rfl) w.heap.size A8 (0 + c + 1) c8 (heads c E ++ [.slice A2 n2 c2]) _ 0 _ ((heads c E).drop c) (by first | rfl | simp [Act.eval] | simp [Act.eval, Act.put]) (by first | rfl | simp [Act.eval] | simp [Act.eval, Act.put]) HO8.out (by simp [heads_len]) (fun h0 => absurd h0 (by omega)) (fun u hu => heads_one c E u (List.mem_of_mem_drop hu)) HB8.out.size (by omega) (by omega) ?_
               intro A9 c9 w9 ho9 hg9 hb9
               have HO9 := Lib.hid ho9
               have HB9 : Hid (Below w.heap.size w w9) := Lib.hid (HB8.out.trans hb9)
               clear ho9 hg9 hb9))
          all_goals
            (go_wp2
             go_ret
             have e9 : 0 + c + 1 + 0 = c + 1 := by omega
             have ho9 := HO9.out
             rw [e9] at ho9
             rw [HIN.out]
             have FIN := (HER.out _ HB9.out).ins (X := (A2, n2, c2)) (HXR.out _ HB9.out) HAP.out (show c ≤ c by omega) ho9 HLO.out HB9.out.size
             first
               | exact ⟨A9, c + 1, c9, insE E c (A2, n2, c2), ret_slice (by omega), FIN, HB9.out⟩
               | exact ⟨A9, c + 1, c9, ret_slice (by omega), ⟨insE E c (A2, n2, c2), FIN⟩, HB9.out⟩)
        · go_upto_region 6 with fail
          have HW1 : Hid (Below w.heap.size w (wr.drew.alloc (.cells #[] 22))) := Lib.hid ((HDb.out.drew).alloc HDb.out.drew.size _)
          have HW2 : Hid (Below w.heap.size w ((wr.drew.alloc (.cells #[] 22)).alloc (.cells #[.slice A2 n2 c2] 22))) := Lib.hid (HW1.out.alloc HW1.out.size _)
          have HW3 : Hid (Below w.heap.size w ((wr.drew.alloc (.cells #[.slice A2 n2 c2] 22)).alloc (.cells #[] 22))) := Lib.hid (((HDb.out.drew).alloc HDb.out.drew.size _).alloc (((HDb.out.drew).alloc HDb.out.drew.size _).size) _)
          have HZ : Hid (w.heap.size ≤ wr.heap.size) := Lib.hid HDb.out.size
          have HZ1 : Hid (w.heap.size ≤ wr.heap.size + 1) := Lib.hid (Nat.le_succ_of_le HDb.out.size)
          have HO1 : Hid ((wr.drew.alloc (.cells #[] 22)).ownsRow w.heap.size 22 1 (.slice (some ⟨wr.heap.size, 0, none⟩) 0 0) 0 []) := Lib.hid (World.ownsRow.mono_ (World.ownsRow_lit (e := 22) (size := 1) wr.drew #[] 0 (Nat.le_refl _) (Nat.zero_le _) rfl) HDb.out.size)
          have HO2 : Hid (((wr.drew.alloc (.cells #[] 22)).alloc (.cells #[.slice A2 n2 c2] 22)).ownsRow w.heap.size 22 1 (.slice (some ⟨wr.heap.size, 0, none⟩) 0 0) 0 []) := Lib.hid (World.ownsRow.ofBelow HO1.out (Below.alloc_self _ _))
          have HO3 : Hid (((wr.drew.alloc (.cells #[.slice A2 n2 c2] 22)).alloc (.cells #[] 22)).ownsRow w.heap.size 22 1 (.slice (some ⟨wr.heap.size + 1, 0, none⟩) 0 0) 0 []) := Lib.hid (by
            have h := (World.ownsRow_lit (wr.drew.alloc (.cells #[.slice A2 n2 c2] 22)) (e := 22) (size := 1) #[] 0 (Nat.le_refl _) (Nat.zero_le _) rfl)
            have e : (wr.drew.alloc (.cells #[.slice A2 n2 c2] 22)).heap.size = wr.heap.size + 1 := by first | rfl | simp
            rw [e] at h
            exact World.ownsRow.mono_ h (Nat.le_succ_of_le HDb.out.size))
          have HQ2 : Hid (((wr.drew.alloc (.cells #[] 22)).alloc (.cells #[.slice A2 n2 c2] 22)).cell? ⟨wr.heap.size + 1, 0, none⟩ = some (.slice A2 n2 c2)) := Lib.hid (by
            have h := (Blk.new (wr.drew.alloc (.cells #[] 22)) 22 #[.slice A2 n2 c2]).cell 0
            have e : (wr.drew.alloc (.cells #[] 22)).heap.size = wr.heap.size + 1 := by first | rfl | simp
            rw [e] at h
            exact h)
          have HQ3 : Hid (((wr.drew.alloc (.cells #[.slice A2 n2 c2] 22)).alloc (.cells #[] 22)).cell? ⟨wr.heap.size, 0, none⟩ = some (.slice A2 n2 c2)) := Lib.hid (by
            have h := (((Blk.new wr.drew 22 #[.slice A2 n2 c2]).alloc (.cells #[] 22))).cell 0
            exact h)
          have HER : Hid (∀ W, Below w.heap.size w W → OwnLE E W lo w.heap.size (some ⟨g, 0, none⟩) k c ls) := Lib.hid (fun W h => HE.out.below h (Nat.le_refl _))
          have HXR : Hid (∀ W, Below w.heap.size w W → Own W lo w.heap.size A2 n2 c2 xs) := Lib.hid (fun W h => HX.out.below h (Nat.le_refl _))
          have PART1 : Hid (∀ W, Below w.heap.size w W → ∀ j, j < k → W.cell? ⟨g, 0 + j, none⟩ = (heads k E)[j]?) := Lib.hid (fun W h j hj => by
            rw [(HER.out W h).part 0 k (by omega) j hj, List.drop_zero, ← heads_take k E (show k ≤ k by omega), List.getElem?_take_of_lt hj])
          have PART3 : Hid (∀ W, Below w.heap.size w W → ∀ j, j < k - k → W.cell? ⟨g, k + j, none⟩ = ((heads k E).drop k)[j]?) := Lib.hid (fun W h j hj => (HER.out W h).part k (k - k) (by omega) j hj)
          go_region_law (first
            | (refine step_append_row _ (by first | rfl | kernel_rfl | simp [Region.wanted, yielded]) (.tmp 33) (.tmp 36) (by rfl) w.heap.size _ 0 0 [] _ k _ (heads k E) (by first | rfl | simp [Act.eval] | simp [Act.eval, Act.put]) (by first | rfl | simp [Act.eval] | simp [Act.eval, Act.put]) (by first | exact HO1.out | exact HO2.out | exact HO3.out) (heads_len _ _) (fun _ => ⟨g, 0, rfl, fun j hj => PART1.out _ (by first | exact HW1.out | exact HW2.out | exact HW3.out) j hj⟩) (heads_one _ _) (by first | exact HW1.out.size | exact HW2.out.size | exact HW3.out.size) (by omega) (by omega) ?_
               intro A7 c7 w7 ho7 hg7 hb7
               have HO7 : Hid (w7.ownsRow w.heap.size 22 1 (.slice A7 (0 + k) c7) (0 + k) (heads k E)) := Lib.hid (by simpa using ho7)
               have HB7 : Hid (Below w.heap.size w w7) := Lib.hid (by first | exact below_grown HW1.out hg7 (by rintro q ⟨⟩; exact HZ.out) | exact below_grown HW2.out hg7 (by rintro q ⟨⟩; exact HZ.out) | exact below_grown HW3.out hg7 (by rintro q ⟨⟩; exact HZ1.out))
               have HG7 := Lib.hid hg7
               clear ho7 hg7 hb7)
            | (refine step_append_row _ (by first | rfl | kernel_rfl | simp [Region.wanted, yielded]) (.tmp 37) (.tmp 39) (by rfl) w.heap.size A7 (0 + k) c7 (heads k E) _ 1 _ [.slice A2 n2 c2] (by first | rfl | simp [Act.eval] | simp [Act.eval, Act.put]) (by first | rfl | simp [Act.eval] | simp [Act.eval, Act.put]) (by first | exact HO7.out | exact World.ownsRow.ofBelow HO7.out (Below.alloc_self _ _)) rfl (fun _ => ⟨_, 0, rfl, fun j hj => by
                  obtain rfl : j = 0 := by omega
                  show World.cell? _ _ = some (.slice A2 n2 c2)
                  first
                    | exact (Blk.new w7 22 #[.slice A2 n2 c2]).cell 0
                    | exact (World.cell?_of_block (HG7.out.block _ (by first | (simp; done) | (simp; omega)) (by rw [rowB_some]; intro h; injection h with h; first | (simp at h; done) | (simp at h; omega) | omega))).trans (HQ2.out)
                    | exact (World.cell?_of_block (HG7.out.block _ (by first | (simp; done) | (simp; omega)) (by rw [rowB_some]; intro h; injection h with h; first | (simp at h; done) | (simp at h; omega) | omega))).trans (HQ3.out)⟩) (by simp [Value.oneCell']) (by first | exact HB7.out.size | (have := HB7.out.size; simp; omega)) (by omega) (by omega) ?_
               intro A8 c8 w8 ho8 hg8 hb8
               have HO8 : Hid (w8.ownsRow w.heap.size 22 1 (.slice A8 (0 + k + 1) c8) (0 + k + 1) (heads k E ++ [.slice A2 n2 c2])) := Lib.hid ho8
               have HB8 : Hid (Below w.heap.size w w8) := Lib.hid (by first | exact HB7.out.trans hb8 | exact (HB7.out.alloc HB7.out.size _).trans hb8)
               clear ho8 hg8 hb8)
            | (refine step_append_row _ (by first | rfl | kernel_rfl | simp [Region.wanted, yielded]) (.tmp 40) (.tmp 43) (by rfl) w.heap.size A8 (0 + k + 1) c8 (heads k E ++ [.slice A2 n2 c2]) _ 0 _ ((heads k E).drop k) (by first | rfl | simp [Act.eval] | simp [Act.eval, Act.put]) (by first | rfl | simp [Act.eval] | simp [Act.eval, Act.put]) HO8.out (by simp [heads_len]) (fun h0 => absurd h0 (by omega)) (fun u hu => heads_one k E u (List.mem_of_mem_drop hu)) HB8.out.size (by omega) (by omega) ?_
               intro A9 c9 w9 ho9 hg9 hb9
               have HO9 := Lib.hid ho9
               have HB9 : Hid (Below w.heap.size w w9) := Lib.hid (HB8.out.trans hb9)
               clear ho9 hg9 hb9))
          all_goals
            (go_wp2
             go_ret
             have e9 : 0 + k + 1 + 0 = k + 1 := by omega
             have ho9 := HO9.out
             rw [e9] at ho9
             rw [HIN.out]
             have FIN := (HER.out _ HB9.out).ins (X := (A2, n2, c2)) (HXR.out _ HB9.out) HAP.out (show k ≤ k by omega) ho9 HLO.out HB9.out.size
             first
               | exact ⟨A9, k + 1, c9, insE E k (A2, n2, c2), ret_slice (by omega), FIN, HB9.out⟩
               | exact ⟨A9, k + 1, c9, ret_slice (by omega), ⟨insE E k (A2, n2, c2), FIN⟩, HB9.out⟩)
end Go.Proofs.Ytjpoliibljjhnaa

/-
  The document's TransitionOf. Conditions: lengths below 2^40.
-/





namespace Go.Proofs.Ytjpoliibljjhnaa
open Go.RowKit

set_option maxRecDepth 100000 in
set_option maxHeartbeats 4000000 in
theorem specTrans_any (A : Option Addr) (n c : Nat) (xs : List Int) (w : World) (hs : SI w A n xs) (hnc : n ≤ c) (hn : n ≤ 1099511627776) :
    Calls Try.prog 32 #[.slice A n c] w fun e w' => FreshKV w w' e (trK xs) (trV xs) (trO xs) (trB xs) := by
  have HLX := Lib.hid hs.1
  have HDS := Lib.hid (specDescents_any A n c xs w hs hnc hn)
  cases hu : trB xs with
  | false =>
    have HE := Lib.hid (tr_no hu)
    have HD0 := Lib.hid (trB_len.1 hu)
    clear hs hu
    go_enter Try.func32, Try.ntmps32
    go_wp2_with (go_at_call 103; (with_reducible refine HDS.out.mono ?_); rintro e w1 ⟨A1, n1, c1, rfl, ho1, hb1⟩
                 obtain rfl : n1 = 0 := by rw [← ho1.len]; exact HD0.out
                 have HB1 := Lib.hid hb1
                 clear ho1 hb1)
    go_returns
    rw [HE.out.1, HE.out.2.1, HE.out.2.2]
    exact ⟨none, 0, 0, none, 0, 0, rfl, Own.nil _ _ _, OwnL.nil _ _ _, HB1.out⟩
  | true =>
    have HE := Lib.hid (tr_yes hu)
    obtain ⟨hpp, hlast, hr1, hd1⟩ := tr_facts hu
    obtain ⟨hrs, hsn⟩ := trS_facts hu
    have hN0 : (descPerm xs).length ≠ 0 := fun e => by rw [trB_len.2 e] at hu; cases hu
    have hsd : trS xs = lastLt xs (nth xs (trR xs)) xs.length := rfl
    obtain ⟨r, hr⟩ : ∃ r, r = trR xs := ⟨_, rfl⟩
    obtain ⟨s, hse⟩ : ∃ s, s = trS xs := ⟨_, rfl⟩
    rw [← hr] at hlast hr1 hd1 hrs hsd HE
    rw [← hse] at hrs hsn hsd HE
    have HPP := Lib.hid hpp
    have HN7 : Hid (n ≤ 7) := Lib.hid (by have := hpp.2.1; have := HLX.out; omega)
    have hn7 := HN7.out
    rw [HLX.out] at hr1 hsn hsd
    have HLA := Lib.hid hlast
    have HSD := Lib.hid hsd
    have HD1 := Lib.hid hd1
    have HRS : Hid (r < s ∧ s < n) := Lib.hid ⟨hrs, hsn⟩
    have hN0' := Lib.hid hN0
    have HS := Lib.hid hs
    have HMA : Hid (∀ u, Below w.heap.size w u → ∀ k, k < n → ∃ b o, A = some ⟨b, o, none⟩ ∧ u.cell? ⟨b, o + k, none⟩ = some (.int .i64 (nth xs k))) := Lib.hid (fun u hu k hk => by
      obtain ⟨b, o, e, _, hc⟩ := (hs.below hu (Nat.le_refl _)).at_ (show 0 < n by omega)
      exact ⟨b, o, e, hc k hk⟩)
    clear hu hpp hlast hd1 hr hse hsd hN0 hs
    obtain ⟨V, hV⟩ : ∃ V, V = nth xs r := ⟨_, rfl⟩
    have HV := Lib.hid hV
    clear hV
    obtain ⟨b, o, rfl, _⟩ := HMA.out w (Below.refl _ _) r (by omega)
    have HCX : Hid (∀ u, Below w.heap.size w u → ∀ k, k < n → u.cell? ⟨b, o + k, none⟩ = some (.int .i64 (nth xs k))) := Lib.hid (fun u hu k hk => by
      obtain ⟨b', o', e, h⟩ := HMA.out u hu k hk
      injection e with e; injection e with e1 e2
      subst e1; subst e2
      exact h)
    clear HMA
    go_enter Try.func32, Try.ntmps32
    go_upto_region 2 with (first
      | (go_at_call 103; (with_reducible refine HDS.out.mono ?_); rintro e w1 ⟨A1, n1, c1, rfl, ho1, hb1⟩
         have HO1 := Lib.hid ho1.si
         have HN1 : Hid (n1 = (descPerm xs).length) := Lib.hid ho1.len.symm
         have HB1 := Lib.hid hb1
         clear ho1 hb1))
    have hn10 : 0 < n1 := by rw [HN1.out]; have := hN0'.out; omega
    have hn1b : n1 ≤ 1099511627775 := by rw [HN1.out]; exact descPerm_small xs
    have hne : ¬ (n1 : Int) = 0 := by omega
    have hnb : ((n1 : Int) == 0) = false := by simp; omega
    obtain ⟨b1, o1, rfl, _, hc1⟩ := HO1.out.at_ hn10
    have hcl := hc1 (n1 - 1) (by omega)
    rw [HN1.out, HLA.out, ← HN1.out] at hcl
    obtain ⟨m1, hm1⟩ : ∃ m1, m1 = n1 - 1 := ⟨_, rfl⟩
    rw [← hm1] at hcl
    have hwm : IntKind.i64.wrap ((n1 : Int) - 1) = (m1 : Int) := by rw [show (n1 : Int) - 1 = (m1 : Int) by omega]; exact IntWalk.i64_in _ (by omega)
    have hmI : (m1 : Int) < (n1 : Int) := by omega
    have hmE : (n1 : Int) - 1 = (m1 : Int) := by omega
    clear hc1 hm1
    go_wp2_with fail
    go_loopw [8, 9] (fun sv jv wr => ∃ (j t : Nat), r < j ∧ j ≤ n ∧ jv = .int .i64 j ∧ sv = .int .i64 t ∧ t < n ∧ (j = r + 1 ∧ t = r + 1 ∨ r + 2 ≤ j ∧ t = lastLt xs V j) ∧ Below w.heap.size w wr)
      (fun _ jv _ => n - (intOf jv).toNat)
    case atStart => exact ⟨r + 1, r + 1, by omega, by omega, by go_num, by go_num, by omega, .inl ⟨rfl, rfl⟩, HB1.out⟩
    case round =>
      obtain ⟨j, t, hrj, hjn, rfl, rfl, htn, hjt, hb⟩ := hrel
      have HB := Lib.hid hb
      have HJT := Lib.hid hjt
      clear hb hjt
      by_cases hlt : j < n
      · have hjI : (j : Int) < (n : Int) := by omega
        have hcj := HCX.out _ HB.out j hlt
        have hcr := HCX.out _ HB.out r (by omega)
        rw [← HV.out] at hcr
        have hrI : (r : Int) < (n : Int) := by omega
        obtain ⟨x, hx⟩ : ∃ x, x = nth xs j := ⟨_, rfl⟩
        rw [← hx] at hcj
        have HX := Lib.hid hx
        clear hx
        by_cases hxv : x < V
        · have HXV := Lib.hid hxv
          go_wp2_with fail
          go_quiet (fail)
          go_wp2
          go_roundw
          case rel => exact ⟨j + 1, j, by omega, by omega, by go_num, rfl, by omega, .inr ⟨by omega, (lastLt_hit (by rw [← HX.out]; exact HXV.out)).symm⟩, drewN_belowT HB.out _⟩
          case measure => simp [intOf]; omega
        · have HXV : Hid (¬ x < V) := Lib.hid hxv
          go_wp2_with fail
          go_quiet (fail)
          go_wp2
          go_roundw
          case rel => exact ⟨j + 1, t, by omega, by omega, by go_num, rfl, htn, by
            rcases HJT.out with ⟨h1, h2⟩ | ⟨h1, h2⟩
            · exact absurd (show x < V by rw [HX.out, h1, HV.out]; exact HD1.out) (by have := HXV.out; omega)
            · exact .inr ⟨by omega, by rw [lastLt_miss (by rw [← HX.out]; have := HXV.out; omega)]; exact h2⟩, drewN_belowT HB.out _⟩
          case measure => simp [intOf]; omega
      · have hjI : ¬ (j : Int) < (n : Int) := by omega
        obtain rfl : j = n := by omega
        have hts : t = s := by
          rcases HJT.out with ⟨h1, h2⟩ | ⟨h1, h2⟩
          · have := HRS.out; omega
          · rw [h2, HSD.out, HV.out]
        subst hts
        have HSWX := Lib.hid (l1Swap_any (some ⟨b, o, none⟩) j c r t xs wr (HS.out.below HB.out (Nat.le_refl _)) (by have := HRS.out; omega) htn (by have := HRS.out; omega) (by have := HN7.out; omega))
        have HPV := Lib.hid (swap_pp HPP.out HRS.out.1 (by rw [HLX.out]; exact HRS.out.2))
        have HLV : Hid ((swapL xs r t).length = j) := Lib.hid (by rw [swapL_len]; exact HLX.out)
        obtain ⟨vs, hvs⟩ : ∃ vs, vs = swapL xs r t := ⟨_, rfl⟩
        rw [← hvs] at HSWX HPV HLV HE
        clear hvs
        obtain ⟨n, rfl⟩ : ∃ n, n = j := ⟨j, rfl⟩
        have HRN : Hid (r < n) := Lib.hid (by have := HRS.out; omega)
        have HL := HLV
        go_upto_region 13 with (first
          | (go_at_call 83; (with_reducible refine HSWX.out.mono ?_); rintro e wv ⟨Av, nv, cv, rfl, hov, hbv⟩
             obtain rfl : nv = n := by rw [← hov.len]; exact HL.out
             have HOV := Lib.hid hov
             have HBV : Hid (Below w.heap.size w wv) := Lib.hid (HB.out.trans (hbv.mono HB.out.size))
             clear hov hbv))
        obtain ⟨wz, hwz⟩ : ∃ wz, wz = wv.alloc (.cells #[] 22) := ⟨_, rfl⟩
        have HBz : Hid (Below w.heap.size w wz) := Lib.hid (by rw [hwz]; exact HBV.out.alloc HBV.out.size _)
        have HOz : Hid (OwnL wz w.heap.size wz.heap.size (some ⟨wv.heap.size, 0, none⟩) 0 0 []) := Lib.hid (by rw [hwz]; exact (OwnL.empty wv).wide HBV.out.size (by simp))
        have HVz : Hid (Own wz w.heap.size wv.heap.size Av nv cv vs) := Lib.hid (by
          rw [hwz]
          exact (HOV.out.below (Below.alloc_self _ _) (Nat.le_refl _)).wide HB.out.size (Nat.le_refl _))
        have HZz : Hid (wv.heap.size ≤ wz.heap.size) := Lib.hid (by rw [hwz]; simp)
        rw [← hwz]
        clear hwz
        obtain ⟨n, rfl⟩ : ∃ n, n = nv := ⟨nv, rfl⟩
        clear HB
        go_wp2_with fail
        go_loopw [11, 12] (fun ov qv wr => ∃ (p : Nat) (A1 : Option Addr) (n1 c1 : Nat), p ≤ r ∧ qv = .int .i64 p ∧ ov = .slice A1 n1 c1 ∧ OwnL wr w.heap.size wr.heap.size A1 n1 c1 (covQ vs r p) ∧ Below w.heap.size w wr ∧ Below wz.heap.size wz wr)
          (fun _ qv _ => r - (intOf qv).toNat)
        case atStart => exact ⟨0, _, 0, 0, Nat.zero_le _, rfl, rfl, HOz.out, HBz.out, Below.refl _ _⟩
        case round =>
          obtain ⟨p, A1, n1, c1, hpr, rfl, rfl, ho, hb, hbb⟩ := hrel
          obtain ⟨E1, he⟩ := ho
          have HE1 := Lib.hid he
          have HB := Lib.hid hb
          have HBB := Lib.hid hbb
          have HVW : Hid (Own wr w.heap.size wv.heap.size Av n cv vs) := Lib.hid (HVz.out.below HBB.out HZz.out)
          have HZW : Hid (wv.heap.size ≤ wr.heap.size) := Lib.hid (Nat.le_trans HZz.out HBB.out.size)
          clear he hb hbb
          have hr7 : r ≤ 7 := by have := HRN.out; omega
          by_cases hjl : p < r
          · have hjI : (p : Int) < (r : Int) := by omega
            have HJL := Lib.hid hjl
            have HSWP := Lib.hid (l1Swap_any Av n cv p r vs wr HVW.out.si (by have := HRN.out; omega) (by have := HRN.out; omega) (by omega) (by have := HN7.out; omega))
            obtain ⟨z, hz⟩ : ∃ z, z = lenL (swapL vs p r) := ⟨_, rfl⟩
            obtain ⟨q, hq⟩ : ∃ q, q = lenL vs := ⟨_, rfl⟩
            have hqb : 0 ≤ q ∧ q ≤ 49 := by have := lenL_bounds (xs := vs) (by have := HN7.out; have := HL.out; omega); rw [← hq] at this; exact this
            have HZ := Lib.hid hz.symm
            have HQ := Lib.hid hq.symm
            have hwq : IntKind.i64.wrap (q + 1) = q + 1 := IntWalk.i64_in _ (by omega)
            clear hz hq
            by_cases hcv : z = q + 1
            · have HCV : Hid (covB vs p r = true) := Lib.hid (by unfold covB; rw [HZ.out, HQ.out]; simp [hcv])
              have HNX : Hid (covQ vs r (p + 1) = insU (covQ vs r p) (swapL vs p r)) := Lib.hid (by
                show (if covB vs p r = true then _ else _) = _
                rw [if_pos HCV.out])
              have HSM := Lib.hid (covQ_len vs r p)
              have HRW : Hid (∀ k, (li (covQ vs r p) k).length ≤ 1000) := Lib.hid (fun k => li_len_of (m := 1000) (fun z hz => by rw [covQ_row hz, HL.out]; have := HN7.out; omega) k)
              subst hcv
              go_wp2_with (first
                | (go_at_call 83; (with_reducible refine HSWP.out.mono ?_); rintro e w3 ⟨A3, n3, c3, rfl, ho3, hb3⟩
                   obtain rfl : n3 = n := by rw [← ho3.len, swapL_len]; exact HL.out
                   have HO3 := Lib.hid ho3
                   have HB3 := Lib.hid hb3
                   have HL3 := Lib.hid (l1Length_any A3 n3 c3 (swapL vs p r) w3 ho3.si HN7.out)
                   clear ho3 hb3)
                | (go_at_call 72; (with_reducible refine HL3.out.mono ?_); rintro e w4 ⟨rfl, hb4⟩; rw [HZ.out]; have HB4 : Hid (Below wr.heap.size wr w4) := Lib.hid (HB3.out.trans (hb4.mono HB3.out.size)); have HX4 := Lib.hid (HO3.out.below hb4 (Nat.le_refl _)); have HZ4 := Lib.hid hb4.size
                   have HL4 := Lib.hid (l1Length_any Av n3 cv vs w4 (HVW.out.below HB4.out HZW.out).si HN7.out); clear hb4)
                | (go_at_call 72; (with_reducible refine HL4.out.mono ?_); rintro e w5 ⟨rfl, hb5⟩; rw [HQ.out]; have HB5 : Hid (Below wr.heap.size wr w5) := Lib.hid (HB4.out.trans (hb5.mono HB4.out.size)); have HX5 : Hid (Own w5 wr.heap.size w5.heap.size A3 n3 c3 (swapL vs p r)) := Lib.hid ((HX4.out.below (hb5.mono HZ4.out) (Nat.le_refl _)).wide (Nat.le_refl _) (Nat.le_trans HZ4.out hb5.size))
                   have HEX5 : Hid (OwnLE E1 w5 w.heap.size w5.heap.size A1 n1 c1 (covQ vs r p)) := Lib.hid ((HE1.out.below HB5.out (Nat.le_refl _)).wide2 (Nat.le_refl _) HB5.out.size)
                   have HXW : Hid (Own w5 w.heap.size w5.heap.size A3 n3 c3 (swapL vs p r)) := Lib.hid (HX5.out.wide HB.out.size (Nat.le_refl _))
                   have HAP5 := Lib.hid (fun b hb => ((HE1.out.below HB5.out (Nat.le_refl _)).apart_hi HX5.out (Nat.le_refl _) b hb).2)
                   have HSZ5 : Hid (w.heap.size ≤ w5.heap.size) := Lib.hid (Nat.le_trans HB.out.size HB5.out.size)
                   have HFEW : Hid (n1 ≤ 1000) := Lib.hid (by have := HE1.out.1; have := HSM.out; have := HRN.out; have := HN7.out; omega)
                   have HN1000 : Hid (n3 ≤ 1000) := Lib.hid (by have := HN7.out; omega)
                   have HRW5 : Hid (∀ k, k < n1 → (li (covQ vs r p) k).length ≤ 1000) := Lib.hid (fun k _ => HRW.out k)
                   have HINS := Lib.hid (l1Insert_any E1 A1 A3 n1 c1 n3 c3 w.heap.size (covQ vs r p) (swapL vs p r) w5 HEX5.out HXW.out HAP5.out HSZ5.out HFEW.out HN1000.out HRW5.out)
                   clear hb5)
                | (go_at_call 96; (with_reducible refine HINS.out.mono ?_); rintro e w6 ⟨A6, n6, c6, E6, rfl, ho6, hb6⟩; have HO6 := Lib.hid ho6; have HB6 := Lib.hid hb6; clear ho6 hb6)
                | fail)
              go_roundw
              case rel => exact ⟨p + 1, A6, n6, c6, by have := HJL.out; omega, by go_num, rfl, by rw [HNX.out]; exact ⟨E6, HO6.out⟩, HB.out.trans ((HB5.out.trans (HB6.out.mono HB5.out.size)).mono HB.out.size), HBB.out.trans ((HB5.out.trans (HB6.out.mono HB5.out.size)).mono HBB.out.size)⟩
              case measure => have := HJL.out; simp [intOf]; omega
            · have HCV : Hid (covB vs p r = false) := Lib.hid (by unfold covB; rw [HZ.out, HQ.out]; simpa using hcv)
              have HNX : Hid (covQ vs r (p + 1) = covQ vs r p) := Lib.hid (by
                show (if covB vs p r = true then _ else _) = _
                rw [if_neg (by rw [HCV.out]; decide)])
              go_wp2_with (first
                | (go_at_call 83; (with_reducible refine HSWP.out.mono ?_); rintro e w3 ⟨A3, n3, c3, rfl, ho3, hb3⟩
                   obtain rfl : n3 = n := by rw [← ho3.len, swapL_len]; exact HL.out
                   have HO3 := Lib.hid ho3
                   have HB3 := Lib.hid hb3
                   have HL3 := Lib.hid (l1Length_any A3 n3 c3 (swapL vs p r) w3 ho3.si HN7.out)
                   clear ho3 hb3)
                | (go_at_call 72; (with_reducible refine HL3.out.mono ?_); rintro e w4 ⟨rfl, hb4⟩; rw [HZ.out]; have HB4 : Hid (Below wr.heap.size wr w4) := Lib.hid (HB3.out.trans (hb4.mono HB3.out.size))
                   have HL4 := Lib.hid (l1Length_any Av n3 cv vs w4 (HVW.out.below HB4.out HZW.out).si HN7.out); clear hb4)
                | (go_at_call 72; (with_reducible refine HL4.out.mono ?_); rintro e w5 ⟨rfl, hb5⟩; rw [HQ.out]; have HB5 : Hid (Below wr.heap.size wr w5) := Lib.hid (HB4.out.trans (hb5.mono HB4.out.size)); clear hb5)
                | fail)
              go_roundw
              case rel => exact ⟨p + 1, A1, n1, c1, by have := HJL.out; omega, by go_num, rfl, by rw [HNX.out]; exact ⟨E1, (HE1.out.below HB5.out (Nat.le_refl _)).wide2 (Nat.le_refl _) HB5.out.size⟩, HB.out.trans (HB5.out.mono HB.out.size), HBB.out.trans (HB5.out.mono HBB.out.size)⟩
              case measure => have := HJL.out; simp [intOf]; omega
          · have hjI : ¬ (p : Int) < (r : Int) := by omega
            obtain rfl : p = r := by omega
            go_wp2
            go_returns
            rw [HE.out.1, HE.out.2.1, HE.out.2.2]
            exact ⟨Av, n, cv, A1, n1, c1, rfl, HVW.out.wide (Nat.le_refl _) HZW.out, ⟨E1, HE1.out⟩, HB.out⟩
end Go.Proofs.Ytjpoliibljjhnaa

/-
  The order of permutations: the specification's side. Conditions: lengths below 2^40.
-/

namespace Go.Proofs.Ytjpoliibljjhnaa
open Go.RowKit

/-- Does the first list keep the ranks of the second. -/
def belowP (us vs : List Int) (n : Nat) : Prop := ∀ r, r ≤ n → ∀ c : Nat, c ≤ n → rankN vs (c : Int) r ≤ rankN us (c : Int) r
def belowB (us vs : List Int) (n : Nat) : Bool := (List.range (n + 1)).all fun r => (List.range (n + 1)).all fun (c : Nat) => decide (rankN vs (c : Int) r ≤ rankN us (c : Int) r)
theorem belowB_iff (us vs : List Int) (n : Nat) : belowB us vs n = true ↔ belowP us vs n := by
  simp [belowB, belowP, Nat.lt_succ_iff]
theorem belowB_true {us vs : List Int} {n : Nat} (h : belowP us vs n) : belowB us vs n = true := (belowB_iff us vs n).2 h
theorem belowB_false {us vs : List Int} {n : Nat} (h : ¬ belowP us vs n) : belowB us vs n = false := by
  cases hb : belowB us vs n with
  | false => rfl
  | true => exact absurd ((belowB_iff us vs n).1 hb) h

/-- What IsBelowPerm answers. -/
def belowPerm (us vs : List Int) : Bool := isPermB us && (isPermB vs && (decide (us.length = vs.length) && belowB us vs us.length))
theorem belowPerm_1 {us vs : List Int} (h : isPermB us = false) : belowPerm us vs = false := by unfold belowPerm; rw [h]; rfl
theorem belowPerm_2 {us vs : List Int} (h : isPermB vs = false) : belowPerm us vs = false := by unfold belowPerm; rw [h]; simp
theorem belowPerm_3 {us vs : List Int} (h : us.length ≠ vs.length) : belowPerm us vs = false := by unfold belowPerm; simp [h]
theorem belowPerm_4 {us vs : List Int} (h1 : isPermB us = true) (h2 : isPermB vs = true) (h3 : us.length = vs.length) : belowPerm us vs = belowB us vs us.length := by unfold belowPerm; simp [h1, h2, h3]
end Go.Proofs.Ytjpoliibljjhnaa

/-
  Contracts of the program's EmbedPerm, TrimPerm, RankAt. Conditions: lengths below 2^40.
-/


namespace Go.Proofs.Ytjpoliibljjhnaa
open Go.RowKit

theorem trimN_fill {xs : List Int} (h7 : xs.length ≤ 7) : ∀ k, k ≤ xs.length → trimN (fillA xs xs.length) k = trimN xs k := by
  intro k
  induction k with
  | zero => intro _; rfl
  | succ k ih => intro hk; unfold trimN; rw [ih (by omega), fillA_lt (by omega) (by omega)]

set_option maxHeartbeats 1000000 in
theorem implTrim_any (A : Option Addr) (n c : Nat) (xs : List Int) (w : World) (hs : SI w A n xs) (hn : n ≤ 1099511627776) :
    Calls Try.prog 107 #[.slice A n c] w fun e w' => Fresh w w' e (trimPerm xs) := by
  have hl := hs.1
  cases hu : isPermB xs with
  | false =>
    have HE := Lib.hid (trimPerm_no hu)
    have HU := Lib.hid hu
    clear hu
    go_enter Try.func107, Try.ntmps107
    go_wp2_with fail
    refine (arrayOf_x c HU.out hs hn).mono ?_
    rintro e w1 ⟨l, rfl, -, hb1⟩
    go_wp2
    go_ret
    rw [HE.out]
    exact Fresh.nil_ret (hb1.alloc hb1.size _)
  | true =>
    have HE := Lib.hid (trimPerm_yes hu)
    have HU := Lib.hid hu
    have HL := Lib.hid hl
    have hpos : 1 ≤ n := by have := (isPermB_P hu).1; omega
    have h7 : n ≤ 7 := by have := (isPermB_P hu).2.1; omega
    clear hu hl
    go_enter Try.func107, Try.ntmps107
    go_wp2_with fail
    refine (arrayOf_x c HU.out hs hn).mono ?_
    rintro e w1 ⟨l, rfl, hlf, hb1⟩
    have HF := Lib.hid (hlf rfl)
    clear hlf
    have hK := Blk.new w1 107 (arrC l)
    have hb2 : Below w.heap.size w (w1.alloc (.cells (arrC l) 107)) := hb1.alloc hb1.size _
    go_wp2
    obtain ⟨g, hg⟩ : ∃ g, g = w1.heap.size := ⟨_, rfl⟩
    rw [← hg] at hK ⊢
    generalize w1.alloc (.cells (arrC l) 107) = w2 at *
    clear hg
    have HK := Lib.hid hK
    clear hK
    go_loop [5] (fun v => ∃ k : Nat, k + 1 ≤ n ∧ v = .int .i64 ((k : Int) + 1) ∧ trimN l (k + 1) = trimN l n)
      (fun v => (intOf v).toNat)
    case atStart => exact ⟨n - 1, by omega, by go_num, by rw [show n - 1 + 1 = n from by omega]⟩
    case round =>
      obtain ⟨k, hk, rfl, htr⟩ := hrel
      have HT := Lib.hid htr
      have hck : w2.cell? ⟨g, k, none⟩ = some (.int .i64 (nth l k)) := (HK.out.cell _).trans (arrC_get l k (by omega))
      obtain ⟨x, hx⟩ : ∃ x, x = nth l k := ⟨_, rfl⟩
      rw [← hx] at hck
      have HX := Lib.hid hx
      clear htr hx
      have stop : ∀ (w4 : World) (e : Ending), trimN l (k + 1) = k + 1 → Fresh w2 w4 e (l.take (k + 1)) → Fresh w w4 e (trimPerm xs) := by
        intro w4 e h1 h2
        have e2 := HT.out
        have e1 := HF.out
        have e3 := HL.out
        have e4 := trimN_fill (xs := xs) (by omega) n (by omega)
        rw [e3, ← e1, ← e2, h1] at e4
        rw [HE.out, e3, ← e4]
        have e5 := fill_take_short (xs := xs) (k := k + 1) (by omega) (by omega)
        rw [e3, ← e1] at e5
        rw [← e5]
        exact Fresh.after hb2 h2
      have STOP := Lib.hid stop
      clear stop
      by_cases h0 : 0 < k
      · by_cases hxk : x = (k : Int)
        · subst hxk
          go_wp2
          go_round
          case rel =>
            have e1 := HX.out
            have e2 := HT.out
            rw [trimN_hit h0 e1.symm] at e2
            exact ⟨k - 1, by omega, by go_num, by rw [show k - 1 + 1 = k from by omega]; exact e2⟩
          case measure => simp only [intOf]; omega
        · have hxb : (x == (k : Int)) = false := by simpa using hxk
          have HX2 := Lib.hid hxk
          clear hxk
          have hsl : Calls Try.prog 100 #[arr l, .int .i64 ((k : Int) + 1)] w2 (fun e w' => Fresh w2 w' e (l.take (k + 1))) := list_any l (k + 1) w2 (by rw [HF.out, fillA_len]) (by omega)
          go_wp2_with (refine wpList_load_blk rfl 107 (.tmp 3) rfl g rfl 107 (arrC l) 7 3 HK.out Try.undArr Try.infoArr ?_)
          refine hsl.mono ?_
          intro e w4 hfr
          obtain ⟨A4, n4, c4, rfl, ho4, hb4⟩ := hfr
          go_wp2
          go_ret
          exact STOP.out _ _ (trimN_miss (by have := HX.out; have := HX2.out; rintro ⟨_, h⟩; omega)) ⟨A4, n4, c4, rfl, ho4, hb4⟩
      · have hk0 : k = 0 := by omega
        subst hk0
        have hsl : Calls Try.prog 100 #[arr l, .int .i64 1] w2 (fun e w' => Fresh w2 w' e (l.take 1)) := list_any l 1 w2 (by rw [HF.out, fillA_len]) (by omega)
        go_wp2_with (refine wpList_load_blk rfl 107 (.tmp 3) rfl g rfl 107 (arrC l) 7 3 HK.out Try.undArr Try.infoArr ?_)
        refine hsl.mono ?_
        intro e w4 hfr
        obtain ⟨A4, n4, c4, rfl, ho4, hb4⟩ := hfr
        go_wp2
        go_ret
        exact STOP.out _ _ (trimN_miss (by rintro ⟨h, _⟩; omega)) ⟨A4, n4, c4, rfl, ho4, hb4⟩

set_option maxHeartbeats 1000000 in
theorem rank_any (l : List Int) (r : Nat) (x : Int) (w : World) (hr : r ≤ 7) (_hl : l.length = 7) :
    Calls Try.prog 161 #[arr l, .int .i64 r, .int .i64 x] w fun e w' => e = .returned (.int .i64 (rankN l x r : Int)) ∧ Below w.heap.size w w' := by
  have hb := Blk.new w 107 (arrC l)
  have HBk := Lib.hid hb
  clear hb _hl
  have hsl := fun wx => sliceArr_to ⟨w.heap.size, 0, none⟩ r hr wx
  go_enter Try.func161, Try.ntmps161
  go_wp2
  go_loop [7, 13] (fun v i => ∃ k : Nat, k ≤ r ∧ i = .int .i64 k ∧ v = .int .i64 (rankN l x k : Int))
    (fun _ i => r - (intOf i).toNat)
  case atStart => exact ⟨0, Nat.zero_le _, rfl, rfl⟩
  case round =>
    obtain ⟨k, hk, rfl, rfl⟩ := hrel
    by_cases hlt : k < r
    · have hck : (w.alloc (.cells (arrC l) 107)).cell? ⟨w.heap.size, k, none⟩ = some (.int .i64 (nth l k)) := (HBk.out.cell _).trans (arrC_get l k (by omega))
      obtain ⟨y, hy⟩ : ∃ y, y = nth l k := ⟨_, rfl⟩
      rw [← hy] at hck
      have HY := Lib.hid hy
      have hq := rankN_le l x k
      obtain ⟨q, hqe⟩ : ∃ q, q = rankN l x k := ⟨_, rfl⟩
      rw [← hqe] at hq ⊢
      have HQ := Lib.hid hqe
      clear hy hqe
      by_cases hxy : y < x
      · go_wp2
        go_round
        case rel =>
          have e1 := HY.out
          have e2 := HQ.out
          exact ⟨k + 1, by omega, by go_num, by rw [rankN_hit (by omega), ← e2]; go_num⟩
        case measure => simp [intOf]; omega
      · go_wp2
        go_round
        case rel =>
          have e1 := HY.out
          have e2 := HQ.out
          exact ⟨k + 1, by omega, by go_num, by rw [rankN_miss (by omega), ← e2]⟩
        case measure => simp [intOf]; omega
    · have hkr : k = r := by omega
      subst hkr
      go_wp2
      go_ret
      exact ⟨rfl, Below.alloc_self _ _⟩

set_option maxHeartbeats 2000000 in
theorem implRank_any (A : Option Addr) (n c : Nat) (xs : List Int) (r x : Int) (w : World) (hs : SI w A n xs) (hn : n ≤ 1099511627776) :
    Calls Try.prog 216 #[.slice A n c, .int .i64 r, .int .i64 x] w fun e w' => e = .returned (.int .i64 (rankPerm xs r x)) ∧ Below w.heap.size w w' := by
  have hl := hs.1
  cases hu : isPermB xs with
  | false =>
    have HE := Lib.hid (rankPerm_no (xs := xs) (r := r) (c := x) (by rintro ⟨h, _⟩; rw [hu] at h; cases h))
    have HU := Lib.hid hu
    clear hu
    go_enter Try.func216, Try.ntmps216
    go_wp2_with fail
    refine (arrayOf_x c HU.out hs hn).mono ?_
    rintro e w1 ⟨l, rfl, -, hb1⟩
    go_wp2
    go_ret
    exact ⟨ret_int HE.out.symm, hb1.alloc hb1.size _⟩
  | true =>
    have HU := Lib.hid hu
    have HL := Lib.hid hl
    have h7 : n ≤ 7 := by have := (isPermB_P hu).2.1; omega
    clear hu hl
    by_cases hr0 : r < 0
    · have HE := Lib.hid (rankPerm_no (xs := xs) (r := r) (c := x) (by rintro ⟨_, h1, h2, _⟩; omega))
      go_enter Try.func216, Try.ntmps216
      go_wp2_with fail
      refine (arrayOf_x c HU.out hs hn).mono ?_
      rintro e w1 ⟨l, rfl, -, hb1⟩
      go_wp2
      go_ret
      exact ⟨ret_int HE.out.symm, hb1.alloc hb1.size _⟩
    · by_cases hr1 : (n : Int) < r
      · have HE := Lib.hid (rankPerm_no (xs := xs) (r := r) (c := x) (by have := HL.out; rintro ⟨_, h1, h2, _⟩; omega))
        go_enter Try.func216, Try.ntmps216
        go_wp2_with fail
        refine (arrayOf_x c HU.out hs hn).mono ?_
        rintro e w1 ⟨l, rfl, -, hb1⟩
        go_wp2
        go_ret
        exact ⟨ret_int HE.out.symm, hb1.alloc hb1.size _⟩
      · obtain ⟨m, rfl⟩ : ∃ m : Nat, r = (m : Int) := ⟨r.toNat, by omega⟩
        by_cases hx0 : x < 0
        · have HE := Lib.hid (rankPerm_no (xs := xs) (r := (m : Int)) (c := x) (by rintro ⟨_, _, _, h, _⟩; omega))
          go_enter Try.func216, Try.ntmps216
          go_wp2_with fail
          refine (arrayOf_x c HU.out hs hn).mono ?_
          rintro e w1 ⟨l, rfl, -, hb1⟩
          go_wp2
          go_ret
          exact ⟨ret_int HE.out.symm, hb1.alloc hb1.size _⟩
        · by_cases hx1 : (n : Int) < x
          · have HE := Lib.hid (rankPerm_no (xs := xs) (r := (m : Int)) (c := x) (by have := HL.out; rintro ⟨_, _, _, _, h⟩; omega))
            go_enter Try.func216, Try.ntmps216
            go_wp2_with fail
            refine (arrayOf_x c HU.out hs hn).mono ?_
            rintro e w1 ⟨l, rfl, -, hb1⟩
            go_wp2
            go_ret
            exact ⟨ret_int HE.out.symm, hb1.alloc hb1.size _⟩
          · have HE := Lib.hid (rankPerm_yes (r := m) (c := x) HU.out (by have := HL.out; omega) (by omega) (by have := HL.out; omega))
            go_enter Try.func216, Try.ntmps216
            go_wp2_with fail
            refine (arrayOf_x c HU.out hs hn).mono ?_
            rintro e w1 ⟨l, rfl, hlf, hb1⟩
            have HF := Lib.hid (hlf rfl)
            clear hlf
            have hK := Blk.new w1 107 (arrC l)
            go_wp2_with (refine wpList_load_blk rfl 107 (.tmp 7) rfl w1.heap.size rfl 107 (arrC l) 7 3 hK Try.undArr Try.infoArr ?_)
            have hb2 : Below w.heap.size w (w1.alloc (.cells (arrC l) 107)) := hb1.alloc hb1.size _
            generalize w1.alloc (.cells (arrC l) 107) = w2 at *
            refine (rank_any l m x w2 (by omega) (by rw [HF.out, fillA_len])).mono ?_
            rintro e w4 ⟨rfl, hb4⟩
            have HB4 := Lib.hid (hb2.trans (hb4.mono hb2.size))
            clear hb4 hb2 hK
            have e1 : rankN l x m = rankN xs x m := rankN_congr x m (fun t ht => by
              rw [HF.out]; exact fillA_lt (by omega) (by omega))
            rw [e1]
            clear e1
            go_wp2
            go_ret
            exact ⟨ret_int HE.out.symm, HB4.out⟩
end Go.Proofs.Ytjpoliibljjhnaa

/-
  The order of permutations: the program's side. A test that draws its order and holds two calls that make memory. Conditions: lengths below 2^40.
-/


namespace Go.Proofs.Ytjpoliibljjhnaa
open Go.RowKit

section
variable {P : Program} {ops : Array Oper} {C : World → Prop} {Q : Act → Prop} {a : Act} {o : Oper} {rest : List Oper}
theorem wp_region_class {id : Nat} {Q : Exit → Act → World → Prop} {w : World} {l : List Oper} (C : World → Prop) (hm : P.follows .mixedOrders = true) (hB : Region.lexB .any l.toArray = true) (hC : C w.drew)
    (h : wpQuiet P l.toArray C (fun a' => ∀ w', C w' → Q .normal a' w') l a) : (Code.region id l.toArray true).wp P Q a w :=
  wp_region_quiet hm hB hC (by simpa using h)
theorem q_move (hg : o.guard = none) (x : Operand) (ho : o.op = .move x) (h : wpQuiet P ops C Q rest (a.put o.dst (a.eval x))) : wpQuiet P ops C Q (o :: rest) a := by
  refine wpQuiet_step fun K hK => ?_
  simp only [Region.wanted, hg, if_true]
  refine ⟨a.eval x, fun w _ => ?_, hK _ h⟩
  unfold Oper.quietAt execOp
  simp only [ho]
  exact ⟨rfl, rfl⟩
theorem q_load (hg : o.guard = none) (ty : TypeId) (x : Operand) (ho : o.op = .load ty x) (g : Nat) (hx : a.eval x = .pointer (some ⟨g, 0, none⟩)) (t : TypeId) (cs : Array Value) (n : Nat) (e : TypeId)
    (hb : ∀ w, C w → Blk w g t cs) (hu : P.underlying ty = some (.array n e)) (hi : (P.info? ty).map (·.size) = some cs.size) (h : wpQuiet P ops C Q rest (a.put o.dst (.agg cs))) : wpQuiet P ops C Q (o :: rest) a := by
  refine wpQuiet_step fun K hK => ?_
  simp only [Region.wanted, hg, if_true]
  refine ⟨.agg cs, fun w hw => ?_, hK _ h⟩
  unfold Oper.quietAt execOp
  simp only [ho, hx, Instr.loadAt, Instr.sureAddr, Sem.run_bind, Sem.run_pure, Result.andThen_ok, run_loadVar_row w g t ty cs (0, 0) _ (hb w hw) hu rfl hi]
  exact ⟨rfl, rfl⟩
end
/-- Worlds in which nothing has turned that was there. -/
def After (wr w' : World) : Prop := Below wr.heap.size wr w'
theorem After.blk {wr w' : World} {g t : Nat} {cs : Array Value} (h : Blk wr g t cs) (ha : After wr w') : Blk w' g t cs := h.below ha h.lt

set_option maxHeartbeats 4000000 in
theorem implBelow_in (A A' : Option Addr) (n c c' : Nat) (us vs : List Int) (w : World) (hs : SI w A n us) (hs' : SI w A' n vs) (hn : n ≤ 1099511627776) (hu : isPermB us = true) (hv : isPermB vs = true) :
    Calls Try.prog 70 #[.slice A n c, .slice A' n c'] w fun e w' => e = .returned (.bool (belowB us vs n)) ∧ Below w.heap.size w w' := by
  have HU := Lib.hid hu
  have HV := Lib.hid hv
  have hl := hs.1
  have hl' := hs'.1
  have HL := Lib.hid (And.intro hl hl')
  have h7 : n ≤ 7 := by have := (isPermB_P hu).2.1; omega
  clear hu hv hl hl'
  go_enter Try.func70, Try.ntmps70
  go_wp2_with fail
  refine (arrayOf_x c HU.out hs hn).mono ?_
  rintro e w1 ⟨l, rfl, hlf, hb1⟩
  have HF := Lib.hid (hlf rfl)
  have hbx : Below w.heap.size w (w1.alloc (.cells (arrC l) 107)) := hb1.alloc hb1.size _
  have hK := Blk.new w1 107 (arrC l)
  clear hlf
  go_wp2_with fail
  obtain ⟨g1, hg1⟩ : ∃ g1, g1 = w1.heap.size := ⟨_, rfl⟩
  rw [← hg1] at hK ⊢
  clear hg1
  generalize w1.alloc (.cells (arrC l) 107) = w2 at *
  refine (arrayOf_x c' HV.out (hs'.below hbx (Nat.le_refl _)) hn).mono ?_
  rintro e w3 ⟨l', rfl, hlf', hb3⟩
  have HF' := Lib.hid (hlf' rfl)
  have hK3 := (hK.below hb3 hK.lt).alloc (.cells (arrC l') 107)
  have hK' := Blk.new w3 107 (arrC l')
  have hby : Below w.heap.size w (w3.alloc (.cells (arrC l') 107)) := (hbx.trans (hb3.mono hbx.size)).alloc ((hbx.trans (hb3.mono hbx.size)).size) _
  clear hlf' hK
  go_wp2
  obtain ⟨g2, hg2⟩ : ∃ g2, g2 = w3.heap.size := ⟨_, rfl⟩
  rw [← hg2] at hK' ⊢
  clear hg2
  generalize w3.alloc (.cells (arrC l') 107) = w4 at *
  clear hbx hb3 hb1 hs hs'
  have e1 : ∀ (x : Int) (r : Nat), r ≤ n → rankN l x r = rankN us x r := fun x r hr => rankN_congr x r (fun t ht => by rw [HF.out]; exact fillA_lt (by omega) (by omega))
  have e2 : ∀ (x : Int) (r : Nat), r ≤ n → rankN l' x r = rankN vs x r := fun x r hr => rankN_congr x r (fun t ht => by rw [HF'.out]; exact fillA_lt (by omega) (by omega))
  have E1 := Lib.hid e1
  have E2 := Lib.hid e2
  have HL7 : Hid (l.length = 7 ∧ l'.length = 7) := Lib.hid ⟨by rw [HF.out, fillA_len], by rw [HF'.out, fillA_len]⟩
  clear e1 e2
  go_loopw [37] (fun i wr => ∃ r : Nat, r ≤ n + 1 ∧ i = .int .i64 r ∧ (∀ r', r' < r → ∀ x : Nat, x ≤ n → rankN vs (x : Int) r' ≤ rankN us (x : Int) r') ∧ Blk wr g1 107 (arrC l) ∧ Blk wr g2 107 (arrC l') ∧ Below w.heap.size w wr)
    (fun i _ => n + 1 - (intOf i).toNat)
  case atStart => exact ⟨0, Nat.zero_le _, rfl, fun r' h => absurd h (by omega), hK3, hK', hby⟩
  case round =>
    obtain ⟨r, hr, rfl, hall, hb1, hb2, hbel⟩ := hrel
    have HA := Lib.hid hall
    have HB1 := Lib.hid hb1
    have HB2 := Lib.hid hb2
    have HB := Lib.hid hbel
    clear hall hb1 hb2 hbel hK3 hK' hby
    by_cases hlt : r ≤ n
    · have hrI : (r : Int) < (n : Int) + 1 := by omega
      go_wp2
      go_loopw [43] (fun i wr => ∃ x : Nat, x ≤ n + 1 ∧ i = .int .i64 x ∧ (∀ x' : Nat, x' < x → rankN vs (x' : Int) r ≤ rankN us (x' : Int) r) ∧ Blk wr g1 107 (arrC l) ∧ Blk wr g2 107 (arrC l') ∧ Below w.heap.size w wr)
        (fun i _ => n + 1 - (intOf i).toNat)
      case atStart => exact ⟨0, Nat.zero_le _, rfl, fun x' h => absurd h (by omega), HB1.out, HB2.out, HB.out⟩
      case round =>
        obtain ⟨x, hx, rfl, hall2, hc1, hc2, hbel2⟩ := hrel
        have HA2 := Lib.hid hall2
        have HC1 := Lib.hid hc1
        have HC2 := Lib.hid hc2
        have HBB := Lib.hid hbel2
        clear hall2 hc1 hc2 hbel2
        by_cases hxl : x ≤ n
        · have hxI : (x : Int) < (n : Int) + 1 := by omega
          obtain ⟨p, hp⟩ : ∃ p, p = rankN us (x : Int) r := ⟨_, rfl⟩
          obtain ⟨q, hq⟩ : ∃ q, q = rankN vs (x : Int) r := ⟨_, rfl⟩
          have call1 : ∀ w', After wr w' → Calls Try.prog 161 #[arr l, .int .i64 r, .int .i64 x] w' (fun e w'' => e = .returned (.int .i64 p) ∧ After wr w'') := fun w' hw' =>
            (rank_any l r x w' (by omega) HL7.out.1).mono fun e w'' ⟨he, hb⟩ => ⟨by rw [he, E1.out _ _ hlt, ← hp], hw'.trans (hb.mono hw'.size)⟩
          have call2 : ∀ w', After wr w' → Calls Try.prog 161 #[arr l', .int .i64 r, .int .i64 x] w' (fun e w'' => e = .returned (.int .i64 q) ∧ After wr w'') := fun w' hw' =>
            (rank_any l' r x w' (by omega) HL7.out.2).mono fun e w'' ⟨he, hb⟩ => ⟨by rw [he, E2.out _ _ hlt, ← hq], hw'.trans (hb.mono hw'.size)⟩
          have HP := Lib.hid hp
          have HQ := Lib.hid hq
          have CA1 := Lib.hid call1
          have CA2 := Lib.hid call2
          clear hp hq call1 call2
          go_wp2_with fail
          refine wp_region_class (After wr) (by kernel_rfl) (by kernel_rfl) (Below.refl _ _).drew ?_
          refine q_load rfl 107 (.tmp 5) rfl g1 rfl 107 (arrC l) 7 3 (fun w' h => After.blk HC1.out h) Try.undArr Try.infoArr ?_
          refine q_move rfl _ rfl ?_
          refine q_move rfl _ rfl ?_
          refine wpQuiet_step (fun K hK => ?_)
          go_simp
          refine ⟨.int .i64 p, fun w' hw' => ?_, hK _ ?_⟩
          · exact CA1.out w' hw'
          · clear hK K
            refine q_load rfl 107 (.tmp 7) rfl g2 rfl 107 (arrC l') 7 3 (fun w' h => After.blk HC2.out h) Try.undArr Try.infoArr ?_
            refine q_move rfl _ rfl ?_
            refine q_move rfl _ rfl ?_
            refine wpQuiet_step (fun K hK => ?_)
            go_simp
            refine ⟨.int .i64 q, fun w' hw' => ?_, hK _ ?_⟩
            · exact CA2.out w' hw'
            · clear hK K
              refine wpQuiet_step (fun K hK => ?_)
              go_simp
              refine ⟨.bool (decide (p < q)), fun w' _ => rfl, hK _ ?_⟩
              clear hK K
              refine wpQuiet_nil ?_
              intro w5 hw5
              have HC15 := Lib.hid (After.blk HC1.out hw5)
              have HC25 := Lib.hid (After.blk HC2.out hw5)
              have HB5 := Lib.hid (HBB.out.trans (Below.mono hw5 HBB.out.size))
              clear hw5
              by_cases hpq : p < q
              · have hd : decide (p < q) = true := by simpa using hpq
                rw [hd]
                have HPQ := Lib.hid hpq
                clear hd hpq
                go_wp2
                go_ret
                refine ⟨ret_bool (belowB_false (fun h => ?_)).symm, HB5.out⟩
                have := h r hlt x hxl
                have e1 := HP.out
                have e2 := HQ.out
                have e3 := HPQ.out
                omega
              · have hd : decide (p < q) = false := by simpa using hpq
                rw [hd]
                have HPQ := Lib.hid hpq
                clear hd hpq
                go_wp2
                go_roundw
                case rel => exact ⟨x + 1, by omega, by go_num, fun x' h => by
                  rcases Nat.lt_or_ge x' x with h1 | h1
                  · exact HA2.out x' h1
                  · obtain rfl : x' = x := by omega
                    have e1 := HP.out
                    have e2 := HQ.out
                    have e3 := HPQ.out
                    omega, HC15.out, HC25.out, HB5.out⟩
                case measure => simp [intOf]; omega
        · have hxn : x = n + 1 := by omega
          subst hxn
          go_wp2
          go_roundw
          case rel => exact ⟨r + 1, by omega, by go_num, fun r' h x' hx' => by
            rcases Nat.lt_or_ge r' r with h1 | h1
            · exact HA.out r' h1 x' hx'
            · obtain rfl : r' = r := by omega
              exact HA2.out x' (by omega), HC1.out, HC2.out, HBB.out⟩
          case measure => simp [intOf]; omega
    · have hrn : r = n + 1 := by omega
      subst hrn
      go_wp2
      go_ret
      exact ⟨ret_bool (belowB_true (fun r' h x hx => HA.out r' (by omega) x hx)).symm, HB.out⟩

set_option maxHeartbeats 2000000 in
theorem implBelow_any (A A' : Option Addr) (n c n' c' : Nat) (us vs : List Int) (w : World) (hs : SI w A n us) (hs' : SI w A' n' vs) (hn : n ≤ 1099511627776) (hn' : n' ≤ 1099511627776) :
    Calls Try.prog 70 #[.slice A n c, .slice A' n' c'] w fun e w' => e = .returned (.bool (belowPerm us vs)) ∧ Below w.heap.size w w' := by
  have hl := hs.1
  have hl' := hs'.1
  cases hu : isPermB us with
  | true =>
    cases hv : isPermB vs with
    | true =>
      by_cases hnn : n = n'
      · subst hnn
        rw [belowPerm_4 hu hv (by omega), hl]
        exact implBelow_in A A' n c c' us vs w hs hs' hn hu hv
      · have hne' : ¬ (n : Int) = (n' : Int) := by omega
        have HE := Lib.hid (belowPerm_3 (us := us) (vs := vs) (by omega))
        have HU := Lib.hid hu
        have HV := Lib.hid hv
        clear hu hv hl hl'
        go_enter Try.func70, Try.ntmps70
        go_wp2_with fail
        refine (arrayOf_x c HU.out hs hn).mono ?_
        rintro e w1 ⟨l, rfl, -, hb1⟩
        have hbx : Below w.heap.size w (w1.alloc (.cells (arrC l) 107)) := hb1.alloc hb1.size _
        go_wp2_with fail
        generalize w1.alloc (.cells (arrC l) 107) = w2 at *
        refine (arrayOf_x c' HV.out (hs'.below hbx (Nat.le_refl _)) hn').mono ?_
        rintro e w3 ⟨l', rfl, -, hb3⟩
        go_wp2
        go_ret
        exact ⟨ret_bool HE.out.symm, ((hbx.trans (hb3.mono hbx.size)).alloc ((hbx.trans (hb3.mono hbx.size)).size) _)⟩
    | false =>
      have HE := Lib.hid (belowPerm_2 (us := us) hv)
      have HU := Lib.hid hu
      have HV := Lib.hid hv
      clear hu hv hl hl'
      go_enter Try.func70, Try.ntmps70
      go_wp2_with fail
      refine (arrayOf_x c HU.out hs hn).mono ?_
      rintro e w1 ⟨l, rfl, -, hb1⟩
      have hbx : Below w.heap.size w (w1.alloc (.cells (arrC l) 107)) := hb1.alloc hb1.size _
      go_wp2_with fail
      generalize w1.alloc (.cells (arrC l) 107) = w2 at *
      refine (arrayOf_x c' HV.out (hs'.below hbx (Nat.le_refl _)) hn').mono ?_
      rintro e w3 ⟨l', rfl, -, hb3⟩
      go_wp2
      go_ret
      exact ⟨ret_bool HE.out.symm, ((hbx.trans (hb3.mono hbx.size)).alloc ((hbx.trans (hb3.mono hbx.size)).size) _)⟩
  | false =>
    obtain ⟨b, hv⟩ : ∃ b, isPermB vs = b := ⟨_, rfl⟩
    have HE := Lib.hid (belowPerm_1 (vs := vs) hu)
    have HU := Lib.hid hu
    have HV := Lib.hid hv
    clear hu hv hl hl'
    go_enter Try.func70, Try.ntmps70
    go_wp2_with fail
    refine (arrayOf_x c HU.out hs hn).mono ?_
    rintro e w1 ⟨l, rfl, -, hb1⟩
    have hbx : Below w.heap.size w (w1.alloc (.cells (arrC l) 107)) := hb1.alloc hb1.size _
    go_wp2_with fail
    generalize w1.alloc (.cells (arrC l) 107) = w2 at *
    refine (arrayOf_x c' HV.out (hs'.below hbx (Nat.le_refl _)) hn').mono ?_
    rintro e w3 ⟨l', rfl, -, hb3⟩
    go_wp2
    go_ret
    exact ⟨ret_bool HE.out.symm, ((hbx.trans (hb3.mono hbx.size)).alloc ((hbx.trans (hb3.mono hbx.size)).size) _)⟩
end Go.Proofs.Ytjpoliibljjhnaa

/-
  The program's test of a cover. Conditions: places below the permutation's size.
-/




namespace Go.Proofs.Ytjpoliibljjhnaa
open Go.RowKit

theorem fill_swap {xs : List Int} {i j : Nat} (hij : i < j) (hj : j < xs.length) (h7 : xs.length ≤ 7) : swapL (fillA xs xs.length) i j = fillA (swapL xs i j) xs.length := by
  apply List.ext_getElem (by rw [swapL_len, fillA_len, fillA_len])
  intro t h1 h2
  rw [swapL_len, fillA_len] at h1
  rw [← nth_get (by rw [swapL_len, fillA_len]; exact h1), ← nth_get (by rw [fillA_len]; exact h1), swapL_nth (by rw [fillA_len]; omega) (by rw [fillA_len]; omega) (by rw [fillA_len]; exact h1), fillA_lt (show i < xs.length by omega) (by omega), fillA_lt hj (by omega), fillA_nth xs _ t h1, fillA_nth (swapL xs i j) _ t h1]
  by_cases ht : t < xs.length
  · rw [if_pos ht, if_pos ht, swapL_nth (by omega) hj ht]
  · rw [if_neg ht, if_neg ht, if_neg (by omega), if_neg (by omega)]
theorem cov_fill {xs : List Int} (h : isPermP xs) {i j : Nat} (hij : i < j) (hj : j < xs.length) : covB xs i j = decide (invSum (swapL (fillA xs xs.length) i j) 7 = invSum (fillA xs xs.length) 7 + 1) := by
  have h7 := h.2.1
  have e := invSum_fill (swap_pp h hij hj)
  rw [swapL_len] at e
  rw [fill_swap hij hj h7, invSum_fill h, e]
  rfl

set_option maxHeartbeats 2000000 in
theorem isCovered_any (xs : List Int) (h : isPermP xs) (i j : Nat) (w : World) (hij : i < j) (hj : j < xs.length) :
    Calls Try.prog 98 #[arr (fillA xs xs.length), .int .i64 i, .int .i64 j] w fun e w' => e = .returned (.bool (covB xs i j)) ∧ Below w.heap.size w w' := by
  rw [cov_fill h hij hj]
  have h7 := h.2.1
  obtain ⟨l, hl⟩ : ∃ l, l = fillA xs xs.length := ⟨_, rfl⟩
  have hll : l.length = 7 := by rw [hl, fillA_len]
  rw [← hl]
  obtain ⟨p, hp⟩ : ∃ p, p = invSum (swapL l i j) 7 := ⟨_, rfl⟩
  obtain ⟨q, hq⟩ : ∃ q, q = invSum l 7 := ⟨_, rfl⟩
  have hqb : 0 ≤ q ∧ q ≤ 1000 := by have := invSum_bounds l 7; rw [← hq] at this; omega
  obtain ⟨w1, hw1⟩ : ∃ w1, w1 = w.alloc (.cells (arrC l) 107) := ⟨_, rfl⟩
  have HK : Hid (Blk w1 w.heap.size 107 (arrC l)) := Lib.hid (by rw [hw1]; exact Blk.new w _ _)
  have HB1 : Hid (Below w.heap.size w w1) := Lib.hid (by rw [hw1]; exact Below.alloc_self _ _)
  have HW := Lib.hid hw1
  have call1 : ∀ w', After w1 w' → Calls Try.prog 99 #[arr l, .int .i64 i, .int .i64 j] w' (fun e w'' => e = .returned (arr (swapL l i j)) ∧ After w1 w'') := fun w' hw' =>
    (exchanged_any l i j w' (by omega) (by omega) (by omega) hll).mono fun e w'' ⟨he, hb⟩ => ⟨he, hw'.trans (hb.mono hw'.size)⟩
  have call2 : ∀ w', After w1 w' → Calls Try.prog 189 #[arr (swapL l i j)] w' (fun e w'' => e = .returned (.int .i64 p) ∧ After w1 w'') := fun w' hw' =>
    (length_any (swapL l i j) w').mono fun e w'' ⟨he, hb⟩ => ⟨by rw [he, ← hp], hw'.trans (hb.mono hw'.size)⟩
  have call3 : ∀ w', After w1 w' → Calls Try.prog 189 #[arr l] w' (fun e w'' => e = .returned (.int .i64 q) ∧ After w1 w'') := fun w' hw' =>
    (length_any l w').mono fun e w'' ⟨he, hb⟩ => ⟨by rw [he, ← hq], hw'.trans (hb.mono hw'.size)⟩
  rw [← hp, ← hq]
  have CA1 := Lib.hid call1
  have CA2 := Lib.hid call2
  have CA3 := Lib.hid call3
  have hwq : IntKind.i64.wrap (q + 1) = q + 1 := IntWalk.i64_in _ (by omega)
  have HWQ := Lib.hid hwq
  clear hp hq call1 call2 call3 hl hll hwq hw1 h h7
  obtain ⟨r, hr⟩ : ∃ r, r = swapL l i j := ⟨_, rfl⟩
  rw [← hr] at CA1 CA2
  clear hr
  go_enter Try.func98, Try.ntmps98
  go_upto_region 1 with fail
  rw [← HW.out]
  refine wp_region_class (After w1) (by kernel_rfl) (by kernel_rfl) (Below.refl _ _).drew ?_
  refine q_load rfl 107 (.tmp 3) rfl w.heap.size rfl 107 (arrC l) 7 3 (fun w' h => After.blk HK.out h) Try.undArr Try.infoArr ?_
  refine q_move rfl _ rfl ?_
  refine q_move rfl _ rfl ?_
  refine wpQuiet_step (fun K hK => ?_)
  go_simp
  refine ⟨arr r, fun w' hw' => ?_, hK _ ?_⟩
  · exact CA1.out w' hw'
  clear hK K
  refine wpQuiet_step (fun K hK => ?_)
  go_simp
  refine ⟨.int .i64 p, fun w' hw' => ?_, hK _ ?_⟩
  · exact CA2.out w' hw'
  clear hK K
  refine q_load rfl 107 (.tmp 3) rfl w.heap.size rfl 107 (arrC l) 7 3 (fun w' h => After.blk HK.out h) Try.undArr Try.infoArr ?_
  refine wpQuiet_step (fun K hK => ?_)
  go_simp
  refine ⟨.int .i64 q, fun w' hw' => ?_, hK _ ?_⟩
  · exact CA3.out w' hw'
  clear hK K
  refine wpQuiet_step (fun K hK => ?_)
  go_simp
  refine ⟨_, fun w' _ => rfl, hK _ ?_⟩
  clear hK K
  refine wpQuiet_step (fun K hK => ?_)
  go_simp
  refine ⟨_, fun w' _ => rfl, hK _ ?_⟩
  clear hK K
  refine wpQuiet_step (fun K hK => ?_)
  go_simp
  refine ⟨_, fun w' _ => rfl, hK _ ?_⟩
  clear hK K
  refine wpQuiet_nil ?_
  intro w5 hw5
  have HB5 := Lib.hid (HB1.out.trans (Below.mono hw5 HB1.out.size))
  clear hw5
  go_wp2
  go_ret
  exact ⟨ret_bool (by rw [HWQ.out]; rfl), HB5.out⟩
end Go.Proofs.Ytjpoliibljjhnaa

/-
  The library's sort: the worlds that it passes through, in the words of slices that a call owns. Plain lemmas. No conditions.
-/



namespace Go.Proofs.Ytjpoliibljjhnaa
open Go.RowKit

theorem ix_lt {n : Nat} (h : 0 < n) (i : Nat) : (if i < n then i else 0) < n := by split <;> omega
/-- A number as a place among the first n. -/
def ix (n i : Nat) : Nat := if i < n then i else 0
theorem ix_of {n i : Nat} (h : i < n) : ix n i = i := if_pos h
theorem ix_in {n : Nat} (h : 0 < n) (i : Nat) : ix n i < n := ix_lt h i

theorem sortWorld_block (enc : Nat → List Value) (size : Nat) (w : World) (g m : Nat) (dk : Array Nat) (os : Array Obj) {cur : Array Value} {e : TypeId} {fr : Nat × Nat} (h : w.heap[g]? = some (.cells cur e fr)) :
    (sortWorldK enc size w g 0 m dk os).heap[g]? = some (.cells (Go.Sort.putCells id 0 (Go.Sort.flatK enc size dk) cur) e fr) := by
  have hlt : g < w.heap.size := by
    rcases Nat.lt_or_ge g w.heap.size with h1 | h1
    · exact h1
    · rw [Array.getElem?_eq_none h1] at h; cases h
  unfold sortWorldK
  rw [Go.Sort.heap_grow_old _ _ (by rw [show (Go.Sort.putRowK enc size (Go.Sort.ahead w m) g 0 dk).heap.size = w.heap.size by simp [Go.Sort.putRowK, Go.Sort.ahead]]; exact hlt)]
  simp [Go.Sort.putRowK, Go.Sort.putRow, Go.Sort.mapBlock, Go.Sort.ahead, Array.getElem?_modify, h, Go.Sort.onCells]
theorem sortWorld_grown (enc : Nat → List Value) (size : Nat) (w : World) (g m : Nat) (dk : Array Nat) (os : Array Obj) : w.grownBy (sortWorldK enc size w g 0 m dk os) (some g) := by
  refine ⟨rfl, rfl, rfl, by simp [sortWorldK, Go.Sort.putRowK, Go.Sort.ahead], fun k hk hne => ?_⟩
  unfold sortWorldK
  rw [Go.Sort.heap_grow_old _ _ (by rw [show (Go.Sort.putRowK enc size (Go.Sort.ahead w m) g 0 dk).heap.size = w.heap.size by simp [Go.Sort.putRowK, Go.Sort.ahead]]; exact hk)]
  have hgk : g ≠ k := fun e => hne (by rw [e])
  simp [Go.Sort.putRowK, Go.Sort.putRow, Go.Sort.mapBlock, Go.Sort.ahead, Array.getElem?_modify, hgk]
/-- The row that the sort leaves is owned as the one that came. -/
theorem sortWorld_owns {w : World} {base size n c g : Nat} {e : TypeId} {xs : List Value} {enc : Nat → List Value} (h : w.ownsRow base e size (.slice (some ⟨g, 0, none⟩) n c) n xs) (m : Nat) (dk : Array Nat) (os : Array Obj) (hd : dk.size = n) :
    (sortWorldK enc size w g 0 m dk os).ownsRow base e size (.slice (some ⟨g, 0, none⟩) n c) n (Go.Sort.flatK enc size dk).toList := by
  obtain ⟨_, h2⟩ := h
  rcases h2 with ⟨hx, _⟩ | ⟨g', cap, cur, hv, hlo, hg, hnc, hcm, hcs, htake⟩
  · cases hx
  · simp only [Value.slice.injEq, Option.some.injEq, Addr.mk.injEq, and_true, true_and] at hv
    obtain ⟨rfl, rfl⟩ := hv
    refine ⟨by simp [hd], .inr ⟨g, c, _, rfl, hlo, sortWorld_block enc size w g m dk os hg, hnc, hcm, by simp [Go.Sort.putCells, hcs], ?_⟩⟩
    apply List.ext_getElem?
    intro j
    have hle : n * size ≤ cur.size := by rw [hcs]; exact Nat.mul_le_mul_right _ hnc
    by_cases hj : j < n * size
    · rw [List.getElem?_take_of_lt hj]
      simp only [Array.getElem?_toList, Go.Sort.putCells, Array.getElem?_mapIdx]
      rw [Array.getElem?_eq_getElem (show j < cur.size by omega), Option.map_some, if_pos ⟨Nat.zero_le _, by simp [hd]; omega⟩, Array.getElem?_eq_getElem (show j < (Go.Sort.flatK enc size dk).size by simp [hd]; omega), Nat.sub_zero, getElem!_pos (Go.Sort.flatK enc size dk) j (by simp [hd]; omega)]
      rfl
    · rw [List.getElem?_eq_none (by simp; omega), List.getElem?_eq_none (by simp [hd]; omega)]
/-- What an owned row holds, in the sort's words. -/
theorem holds_of_owns {w : World} {base size n c g : Nat} {e : TypeId} {xs : List Value} {enc : Nat → List Value} (h : w.ownsRow base e size (.slice (some ⟨g, 0, none⟩) n c) n xs) (d : Array Nat) (hx : xs = (Go.Sort.flatK enc size d).toList) : Go.Sort.HoldsK enc size w g 0 d := by
  intro j hj
  subst hx
  refine ⟨?_, h.frozenAt _⟩
  have hl := h.1
  simp at hl
  rw [Nat.zero_add, h.cellAt j (by rw [← hl]; simpa using hj)]
  simp only [Array.getElem?_toList]
  rw [Array.getElem?_eq_getElem hj, getElem!_pos (Go.Sort.flatK enc size d) j hj]
  rfl
/-- What was sorted, as lists: the places of the numbers in their new order. -/
theorem sorted_lists {n : Nat} {lt : Nat → Nat → Bool} {dk : Array Nat} (hp : Go.Sort.PermIn 0 (Array.range n).size (Array.range n) dk) (hs : Go.Sort.SortedIn lt 0 (Array.range n).size dk) :
    dk.size = n ∧ dk.toList.Perm (List.range n) ∧ dk.toList.Pairwise (fun i j => lt j i = false) := by
  obtain ⟨h1, _, h3⟩ := hp
  have hsz : dk.size = n := by simpa using h1
  refine ⟨hsz, ?_, ?_⟩
  · have e1 : dk.extract 0 (Array.range n).size = dk := by
      rw [Array.size_range, ← hsz]; simp
    have e2 : (Array.range n).extract 0 (Array.range n).size = Array.range n := by simp
    rw [e1, e2] at h3
    simpa using h3
  · rw [List.pairwise_iff_getElem]
    intro i j hi hj hij
    simp at hi hj
    have := hs i j (Nat.zero_le _) hij (by rw [Array.size_range]; omega)
    rw [getElem!_pos dk i (by omega), getElem!_pos dk j (by omega)] at this
    simpa using this
end Go.Proofs.Ytjpoliibljjhnaa

/-
  slices.SortFunc over lists of numbers by slices.Compare: a permutation in ascending order, in the slice's own blocks. Conditions: lengths below 2^40.
-/






namespace Go.Proofs.Ytjpoliibljjhnaa
open Go.RowKit

/-- The order as the library's sort wants it. -/
theorem swo_cmpL (f : Nat → List Int) : Go.Sort.SWO (ltOf fun i j : Nat => cmpL (f i) (f j)) where
  irrefl i := by
    show decide (cmpL (f i) (f i) < 0) = false
    rw [cmpL_self]; rfl
  trans i j k h1 h2 := by
    have h1 : cmpL (f i) (f j) < 0 := of_decide_eq_true h1
    have h2 : cmpL (f j) (f k) < 0 := of_decide_eq_true h2
    exact decide_eq_true (cmpL_tr h1 h2)
  ntrans i j k h1 h2 := by
    have h1 : ¬ cmpL (f i) (f j) < 0 := of_decide_eq_false h1
    have h2 : ¬ cmpL (f j) (f k) < 0 := of_decide_eq_false h2
    refine decide_eq_false (fun h3 : cmpL (f i) (f k) < 0 => ?_)
    by_cases e : cmpL (f i) (f j) = 0
    · rw [cmpL_eq e] at h3; exact h2 h3
    · have h4 : cmpL (f j) (f i) < 0 := by rw [cmpL_swap (f i) (f j)]; omega
      exact h2 (cmpL_tr h4 h3)
theorem sortWorld_one (enc : Nat → Value) (w : World) (b off m : Nat) (dk : Array Nat) (os : Array Obj) : sortWorld enc w b off m dk os = sortWorldK (fun x => [enc x]) 1 w b off m dk os := by
  unfold sortWorld sortWorldK Go.Sort.putRowK Go.Sort.putRow
  have e : Go.Sort.putCells enc off dk = Go.Sort.putCells id off (Go.Sort.flatK (fun x => [enc x]) 1 dk) := by
    funext c
    unfold Go.Sort.putCells
    apply Array.ext
    · simp
    · intro i h1 h2
      simp only [Array.getElem_mapIdx]
      have hs : (Go.Sort.flatK (fun x => [enc x]) 1 dk).size = dk.size := by simp
      by_cases h : off ≤ i ∧ i < off + dk.size
      · rw [if_pos h, if_pos (by rw [hs]; exact h), Go.Sort.get_flatK (fun x => [enc x]) 1 dk (i - off) (by omega)]
        simp [Nat.mod_one]
      · rw [if_neg h, if_neg (by rw [hs]; exact h)]
  rw [e]
theorem holds_one {enc : Nat → Value} {w : World} {b off : Nat} {d : Array Nat} (h : Go.Sort.HoldsK (fun x => [enc x]) 1 w b off d) : Go.Sort.Holds enc w b off d := by
  intro j hj
  have := h j (by simpa using hj)
  rw [Go.Sort.get_flatK (fun x => [enc x]) 1 d j (by omega)] at this
  simpa [Nat.mod_one] using this
theorem flat1 (dk : Array Nat) (enc : Nat → Value) (f : Nat → Value) (henc : ∀ k, k < dk.size → enc dk[k]! = f k) : (Go.Sort.flatK (fun x => [enc x]) 1 dk).toList = (List.range dk.size).map f := by
  apply List.ext_getElem?
  intro j
  by_cases hj : j < dk.size * 1
  · rw [Array.getElem?_toList, Array.getElem?_eq_getElem (by simpa using hj), ← getElem!_pos (Go.Sort.flatK (fun x => [enc x]) 1 dk) j (by simpa using hj), Go.Sort.get_flatK (fun x => [enc x]) 1 dk j hj]
    have hj' : j < dk.size := by omega
    have h2 := henc j hj'
    rw [getElem!_pos dk j hj'] at h2
    simp [Nat.mod_one, hj', h2]
  · rw [List.getElem?_eq_none (by simp; omega), List.getElem?_eq_none (by simp; omega)]
theorem row1_eq' {w : World} {base n c : Nat} {A : Option Addr} {e : TypeId} {xs ys : List Value} (h : w.ownsRow base e 1 (.slice A n c) n xs) (hx : xs = ys) : w.ownsRow base e 1 (.slice A n c) n ys := hx ▸ h

set_option maxHeartbeats 1000000 in
/-- At least one list. -/
theorem sortLists_own (E : Nat → Sv) (g n c lo hi : Nat) (ts : List (List Int)) (w : World) (h : OwnLE E w lo hi (some ⟨g, 0, none⟩) n c ts) (h0 : 0 < n) (hn : n ≤ 1099511627776) (hlen : ∀ k, k < n → (li ts k).length ≤ 1099511627776) :
    Calls Try.prog 101 #[.slice (some ⟨g, 0, none⟩) n c, .func (.func 102) #[] #[]] w fun e w' => e = .returned (.tuple #[]) ∧
      ∃ us : List (List Int), us.Perm ts ∧ us.Pairwise (fun a b => 0 ≤ cmpL b a) ∧ OwnL w' lo hi (some ⟨g, 0, none⟩) n c us ∧ w.grownBy w' (some g) := by
  obtain ⟨hl, ho, hh, he, hne, hdd⟩ := h
  have hg : g < w.heap.size := (ho.lt g rfl).2
  obtain ⟨enc, henc⟩ : ∃ enc : Nat → Value, enc = fun i => sv (E (ix n i)) := ⟨_, rfl⟩
  have h1 : OneCell enc := fun x => by rw [henc]; rfl
  have hcells : heads n E = (Go.Sort.flatK (fun x => [enc x]) 1 (Array.range n)).toList := by
    rw [flat1 (Array.range n) enc (fun k => sv (E k)) (fun k hk => by
      rw [Array.size_range] at hk
      rw [getElem!_pos _ k (by simpa using hk), henc]
      simp [ix_of hk]), Array.size_range]
    rfl
  have hH := holds_one (holds_of_owns (enc := fun x => [enc x]) ho (Array.range n) hcells)
  have hcmp : CmpLays1 Try.prog 102 #[] enc (fun i j => cmpL (li ts (ix n i)) (li ts (ix n j))) g 0 (Array.range n).size w := fun m os dk hd x y => by
    rw [sortWorld_one]
    have gg := sortWorld_grown (fun x => [enc x]) 1 w g m dk os
    have own : ∀ k, k < n → Own (sortWorldK (fun x => [enc x]) 1 w g 0 m dk os) lo hi (E k).1 (E k).2.1 (E k).2.2 (li ts k) := fun k hk => (he k hk).kept gg (fun b hb e2 => hne k b hk hb e2)
    have s1 := (own _ (ix_in h0 x))
    have s2 := (own _ (ix_in h0 y))
    have hc := sliceCompare_any (E (ix n x)).1 (E (ix n y)).1 (E (ix n x)).2.1 (E (ix n x)).2.2 (E (ix n y)).2.1 (E (ix n y)).2.2 _ _ _ s1.si s2.si (by rw [← s1.len]; exact hlen _ (ix_in h0 x)) (by rw [← s2.len]; exact hlen _ (ix_in h0 y))
    simp only [Array.append_empty]
    have e1 : enc x = .slice (E (ix n x)).1 (E (ix n x)).2.1 (E (ix n x)).2.2 := by rw [henc]; rfl
    have e2 : enc y = .slice (E (ix n y)).1 (E (ix n y)).2.1 (E (ix n y)).2.2 := by rw [henc]; rfl
    rw [e1, e2]
    refine hc.mono ?_
    rintro e w' ⟨e1, e2⟩
    exact ⟨e1, Grew.of_drawn e2⟩
  have eg : ∀ args w, (callFunc 102 args).run Try.prog w = .ok (.enter 102 args) w := enters_of Try.func102 (by kernel_rfl) rfl
  have hcon := Any.slices_SortFunc Try.sortL enc h1 (fun i j => cmpL (li ts (ix n i)) (li ts (ix n j))) (swo_cmpL fun i => li ts (ix n i)) 102 #[] g 0 c (Array.range n) w eg hcmp hH hg (by rw [Array.size_range]; omega)
  change Calls Try.prog 101 _ _ _ at hcon
  rw [Array.size_range] at hcon
  refine hcon.mono ?_
  rintro e w' ⟨rfl, dk, m, os, hp, hs, rfl⟩
  rw [sortWorld_one]
  obtain ⟨hsz, hperm, hsort⟩ := sorted_lists (by rw [Array.size_range]; exact hp) (by rw [Array.size_range]; exact hs)
  have gg := sortWorld_grown (fun x => [enc x]) 1 w g m dk os
  have hin : ∀ k, k < n → dk[k]! < n := fun k hk => by
    have : dk[k]! ∈ dk.toList := by
      rw [getElem!_pos dk k (by omega)]
      exact Array.getElem_mem_toList _
    have := hperm.mem_iff.1 this
    simpa using this
  have hinj : ∀ i j, i < j → j < n → dk[i]! ≠ dk[j]! := fun i j hij hj e => by
    have hnd : dk.toList.Nodup := hperm.nodup_iff.2 List.nodup_range
    rw [getElem!_pos dk i (by omega), getElem!_pos dk j (by omega)] at e
    have := (List.nodup_iff_pairwise_ne.1 hnd)
    rw [List.pairwise_iff_getElem] at this
    exact this i j (by simp; omega) (by simp; omega) hij (by simpa using e)
  obtain ⟨us, hus⟩ : ∃ us, us = dk.toList.map (li ts) := ⟨_, rfl⟩
  have hul : us.length = n := by rw [hus]; simp [hsz]
  have htm : ∀ k, k < n → li us k = li ts dk[k]! := fun k hk => by
    rw [hus, getElem!_pos dk k (by omega)]
    rw [li_get (by simp; omega)]
    simp
  refine ⟨rfl, us, ?_, ?_, ⟨fun k => E dk[k]!, hul, ?_, hh, fun j hj => ?_, fun j b hj hb => hne _ b (hin j hj) hb, fun i j b hij hj hb e2 => ?_⟩, gg⟩
  · have e1 : ts = (List.range n).map (li ts) := by
      apply List.ext_getElem (by simp [hl])
      intro k hk1 hk2
      simp [li_get hk1]
    rw [hus]
    have := hperm.map (li ts)
    rwa [← e1] at this
  · rw [hus, List.pairwise_map]
    refine hsort.imp_of_mem ?_
    intro i j hi hj hlt
    have hi := hperm.mem_iff.1 hi
    have hj := hperm.mem_iff.1 hj
    simp at hi hj
    have hlt : ¬ cmpL (li ts (ix n j)) (li ts (ix n i)) < 0 := of_decide_eq_false hlt
    rw [ix_of hi, ix_of hj] at hlt
    omega
  · have o2 := sortWorld_owns (enc := fun x => [enc x]) ho m dk os hsz
    refine row1_eq' o2 ?_
    rw [flat1 dk enc (fun k => sv (E dk[k]!)) (fun k hk => by
      rw [henc]
      simp only [ix_of (hin k (by omega))]), hsz]
    rfl
  · rw [htm j hj]
    exact (he _ (hin j hj)).kept gg (fun b hb e2 => hne _ b (hin j hj) hb e2)
  · have hd := hinj i j hij hj
    rcases Nat.lt_or_ge dk[i]! dk[j]! with hlt | hge
    · exact hdd _ _ b hlt (hin j hj) hb e2
    · exact hdd _ _ b (by omega) (hin i (by omega)) e2 hb
/-- At no list. -/
theorem sortLists_none (A : Option Addr) (c : Nat) (fv : Value) (w : World) :
    Calls Try.prog 101 #[.slice A 0 c, fv] w fun e w' => e = .returned (.tuple #[]) ∧ w' = w :=
  AnyF.slices_SortFunc_none { Try.sortL with } A c fv w
/-- Whatever their number. -/
theorem sortLists_any (E : Nat → Sv) (A : Option Addr) (n c lo : Nat) (ts : List (List Int)) (w : World) (h : OwnLE E w lo w.heap.size A n c ts) (hlo : lo ≤ w.heap.size) (hn : n ≤ 1099511627776) (hlen : ∀ k, k < n → (li ts k).length ≤ 1099511627776) :
    Calls Try.prog 101 #[.slice A n c, .func (.func 102) #[] #[]] w fun e w' => e = .returned (.tuple #[]) ∧
      ∃ us : List (List Int), us.Perm ts ∧ us.Pairwise (fun a b => 0 ≤ cmpL b a) ∧ OwnL w' lo w'.heap.size A n c us ∧ Below lo w w' := by
  by_cases h0 : 0 < n
  · obtain ⟨g, rfl, hg1, hg2⟩ := h.place h0
    refine (sortLists_own E g n c lo w.heap.size ts w h h0 hn hlen).mono ?_
    rintro e w' ⟨rfl, us, hp, hs, ho, hg⟩
    exact ⟨rfl, us, hp, hs, ho.wide (Nat.le_refl _) hg.size, (Below.refl w.heap.size w |>.mono hlo).grown hg hlo (by rintro q ⟨⟩; exact hg1)⟩
  · obtain rfl : n = 0 := by omega
    refine (sortLists_none A c _ w).mono ?_
    rintro e w' ⟨rfl, rfl⟩
    obtain rfl : ts = [] := List.eq_nil_of_length_eq_zero h.1
    exact ⟨rfl, [], List.Perm.refl _, List.Pairwise.nil, ⟨E, h⟩, Below.refl _ _ |>.mono hlo⟩
end Go.Proofs.Ytjpoliibljjhnaa

/-
  The program's TransitionOf. Conditions: lengths below 2^40.
-/







namespace Go.Proofs.Ytjpoliibljjhnaa
open Go.RowKit

/-- The sort, and that it changes its own block alone. -/
theorem sortLists_gr (E : Nat → Sv) (A : Option Addr) (n c lo : Nat) (ts : List (List Int)) (w : World) (h : OwnLE E w lo w.heap.size A n c ts) (hlo : lo ≤ w.heap.size) (hn : n ≤ 1099511627776) (hlen : ∀ k, k < n → (li ts k).length ≤ 1099511627776) :
    Calls Try.prog 101 #[.slice A n c, .func (.func 102) #[] #[]] w fun e w' => e = .returned (.tuple #[]) ∧
      ∃ us : List (List Int), us.Perm ts ∧ us.Pairwise (fun a b => 0 ≤ cmpL b a) ∧ OwnL w' lo w'.heap.size A n c us ∧ Below lo w w' ∧ w.grownBy w' (rowB A) := by
  by_cases h0 : 0 < n
  · obtain ⟨g, rfl, hg1, hg2⟩ := h.place h0
    refine (sortLists_own E g n c lo w.heap.size ts w h h0 hn hlen).mono ?_
    rintro e w' ⟨rfl, us, hp, hs, ho, hg⟩
    exact ⟨rfl, us, hp, hs, ho.wide (Nat.le_refl _) hg.size, (Below.refl w.heap.size w |>.mono hlo).grown hg hlo (by rintro q ⟨⟩; exact hg1), hg⟩
  · obtain rfl : n = 0 := by omega
    refine (sortLists_none A c _ w).mono ?_
    rintro e w' ⟨rfl, rfl⟩
    obtain rfl : ts = [] := List.eq_nil_of_length_eq_zero h.1
    exact ⟨rfl, [], List.Perm.refl _, List.Pairwise.nil, ⟨E, h⟩, Below.refl _ _ |>.mono hlo, World.grownBy.refl _ _⟩
set_option maxRecDepth 100000 in
set_option maxHeartbeats 4000000 in
theorem implTrans_any (A : Option Addr) (n c : Nat) (xs : List Int) (w : World) (hs : SI w A n xs) (hn : n ≤ 1099511627776) :
    Calls Try.prog 33 #[.slice A n c] w fun e w' => FreshKVD w w' e (trK xs) (trV xs) (trO xs) (trB xs) := by
  have HLX := Lib.hid hs.1
  have HDS := Lib.hid (implDescents_any A n c xs w hs hn)
  cases hu : trB xs with
  | false =>
    have HE := Lib.hid (tr_no hu)
    have HD0 := Lib.hid (trB_len.1 hu)
    clear hs hu
    go_enter Try.func33, Try.ntmps33
    go_wp2_with (go_at_call 104; (with_reducible refine HDS.out.mono ?_); rintro e w1 ⟨A1, n1, c1, rfl, ho1, hb1⟩
                 obtain rfl : n1 = 0 := by rw [← ho1.len]; exact HD0.out
                 have HB1 := Lib.hid hb1
                 clear ho1 hb1)
    go_returns
    rw [HE.out.1, HE.out.2.1, HE.out.2.2]
    exact ⟨none, 0, 0, none, 0, 0, w1.heap.size, rfl, OwnL.nil _ _ _, Own.nil _ _ _, HB1.out.size, Nat.le_refl _, HB1.out, by simp, by simp, by simp⟩
  | true =>
    have HE := Lib.hid (tr_yes hu)
    obtain ⟨hpp, hlast, hr1, hd1⟩ := tr_facts hu
    obtain ⟨hrs, hsn⟩ := trS_facts hu
    have hN0 : (descPerm xs).length ≠ 0 := fun e => by rw [trB_len.2 e] at hu; cases hu
    have hsd : trS xs = lastLt xs (nth xs (trR xs)) xs.length := rfl
    obtain ⟨r, hr⟩ : ∃ r, r = trR xs := ⟨_, rfl⟩
    obtain ⟨s, hse⟩ : ∃ s, s = trS xs := ⟨_, rfl⟩
    rw [← hr] at hlast hr1 hd1 hrs hsd HE
    rw [← hse] at hrs hsn hsd HE
    have HPP := Lib.hid hpp
    have HN7 : Hid (n ≤ 7) := Lib.hid (by have := hpp.2.1; have := HLX.out; omega)
    have hn7 := HN7.out
    rw [HLX.out] at hr1 hsn hsd
    have HLA := Lib.hid hlast
    have HSD := Lib.hid hsd
    have HD1 := Lib.hid hd1
    have HRS : Hid (r < s ∧ s < n) := Lib.hid ⟨hrs, hsn⟩
    have HRN : Hid (r < n) := Lib.hid (by omega)
    have hN0' := Lib.hid hN0
    have HS := Lib.hid hs
    have HMA : Hid (∀ u, Below w.heap.size w u → ∀ k, k < n → ∃ b o, A = some ⟨b, o, none⟩ ∧ u.cell? ⟨b, o + k, none⟩ = some (.int .i64 (nth xs k))) := Lib.hid (fun u hu k hk => by
      obtain ⟨b, o, e, _, hc⟩ := (hs.below hu (Nat.le_refl _)).at_ (show 0 < n by omega)
      exact ⟨b, o, e, hc k hk⟩)
    have hpb := isPermB_true hpp
    have HAO := Lib.hid (fun u (hu : Below w.heap.size w u) => arrayOf_x c hpb (hs.below hu (Nat.le_refl _)) hn)
    have HLV : Hid ((swapL xs r s).length = n) := Lib.hid (by rw [swapL_len]; exact HLX.out)
    have HPV := Lib.hid (swap_pp hpp hrs (by rw [HLX.out]; exact hsn))
    have HFV : Hid (swapL (fillA xs n) r s = fillA (swapL xs r s) n) := Lib.hid (by
      have h := fill_swapG (xs := xs) hrs (by rw [HLX.out]; exact hsn) (by rw [HLX.out]; exact hn7)
      rwa [HLX.out] at h)
    clear hu hpp hlast hd1 hr hse hsd hN0 hs hpb
    obtain ⟨V, hV⟩ : ∃ V, V = nth xs r := ⟨_, rfl⟩
    have HV := Lib.hid hV
    clear hV
    obtain ⟨b, o, rfl, _⟩ := HMA.out w (Below.refl _ _) r (by omega)
    have HCX : Hid (∀ u, Below w.heap.size w u → ∀ k, k < n → u.cell? ⟨b, o + k, none⟩ = some (.int .i64 (nth xs k))) := Lib.hid (fun u hu k hk => by
      obtain ⟨b', o', e, h⟩ := HMA.out u hu k hk
      injection e with e; injection e with e1 e2
      subst e1; subst e2
      exact h)
    clear HMA
    go_enter Try.func33, Try.ntmps33
    go_upto_region 2 with (first
      | (go_at_call 104; (with_reducible refine HDS.out.mono ?_); rintro e w1 ⟨A1, n1, c1, rfl, ho1, hb1⟩
         have HO1 := Lib.hid ho1.si
         have HN1 : Hid (n1 = (descPerm xs).length) := Lib.hid ho1.len.symm
         have HB1 := Lib.hid hb1
         clear ho1 hb1))
    have hn10 : 0 < n1 := by rw [HN1.out]; have := hN0'.out; omega
    have hn1b : n1 ≤ 1099511627775 := by rw [HN1.out]; exact descPerm_small xs
    have hne : ¬ (n1 : Int) = 0 := by omega
    have hnb : ((n1 : Int) == 0) = false := by simp; omega
    obtain ⟨b1, o1, rfl, _, hc1⟩ := HO1.out.at_ hn10
    have hcl := hc1 (n1 - 1) (by omega)
    rw [HN1.out, HLA.out, ← HN1.out] at hcl
    obtain ⟨m1, hm1⟩ : ∃ m1, m1 = n1 - 1 := ⟨_, rfl⟩
    rw [← hm1] at hcl
    have hwm : IntKind.i64.wrap ((n1 : Int) - 1) = (m1 : Int) := by rw [show (n1 : Int) - 1 = (m1 : Int) by omega]; exact IntWalk.i64_in _ (by omega)
    have hmI : (m1 : Int) < (n1 : Int) := by omega
    have hmE : (n1 : Int) - 1 = (m1 : Int) := by omega
    clear hc1 hm1
    go_wp2_with fail
    go_loopw [8] (fun sv wr => ∃ t : Nat, r < t ∧ t < n ∧ sv = .int .i64 t ∧ lastLt xs V (t + 1) = lastLt xs V n ∧ Below w.heap.size w wr)
      (fun sv _ => (intOf sv).toNat)
    case atStart => exact ⟨n - 1, by omega, by omega, by first | go_num | (congr 1; rw [show (n : Int) - 1 = ((n - 1 : Nat) : Int) by omega]; go_num), by rw [show n - 1 + 1 = n by omega], HB1.out⟩
    case round =>
      obtain ⟨t, hrt, htn, rfl, hlt, hb⟩ := hrel
      have HB := Lib.hid hb
      have HLT := Lib.hid hlt
      clear hb hlt
      have hcj := HCX.out _ HB.out t htn
      have hcr := HCX.out _ HB.out r (by omega)
      rw [← HV.out] at hcr
      have htI : (t : Int) < (n : Int) := by omega
      have hrI : (r : Int) < (n : Int) := by omega
      obtain ⟨x, hx⟩ : ∃ x, x = nth xs t := ⟨_, rfl⟩
      rw [← hx] at hcj
      have HX := Lib.hid hx
      clear hx
      by_cases hxv : V ≤ x
      · have HXV : Hid (V ≤ x) := Lib.hid hxv
        have hge : x ≥ V := hxv
        have HT1 : Hid (r + 1 < t) := Lib.hid (by
          rcases Nat.lt_or_ge (r + 1) t with h | h
          · exact h
          · have e : t = r + 1 := by omega
            have h1 := HD1.out
            rw [← HV.out, ← e, ← HX.out] at h1
            omega)
        obtain ⟨t', rfl⟩ : ∃ t', t = t' + 1 := ⟨t - 1, by omega⟩
        go_wp2_with fail
        go_quiet (fail)
        go_wp2
        go_roundw
        case rel => exact ⟨t', by have := HT1.out; omega, by omega, by first | go_num | (congr 1; omega), by rw [← HLT.out, lastLt_miss (k := t' + 1) (by rw [← HX.out]; have := HXV.out; omega)], drewN_belowT HB.out _⟩
        case measure => first | (simp [intOf]; done) | (simp [intOf]; omega)
      · have HXV : Hid (x < V) := Lib.hid (by omega)
        have hge : ¬ x ≥ V := hxv
        have hts : t = s := by rw [HSD.out, ← HV.out, ← HLT.out, lastLt_hit (by rw [← HX.out]; exact HXV.out)]
        subst hts
        go_wp2_with fail
        go_quiet (fail)
        go_wp2_with fail
        refine (HAO.out _ (drewN_belowT HB.out _)).mono ?_
        rintro e w2 ⟨l, rfl, hlf, hb2⟩
        have HF : Hid (l = fillA xs n) := Lib.hid (by first | exact hlf rfl | exact hlf trivial)
        have hb2' : Below w.heap.size w w2 := (drewN_belowT HB.out _).trans (hb2.mono (drewN_belowT HB.out _).size)
        have HB2 := Lib.hid hb2'
        clear hlf hb2 hb2' hcj hcr
        have hFl : l = fillA xs n := HF.out
        have hll : l.length = 7 := by rw [hFl, fillA_len]
        have HEXV := Lib.hid (fun u => exchanged_any l r t u (by omega) (by omega) (by omega) hll)
        have hlv : swapL l r t = fillA (swapL xs r t) n := by rw [hFl]; exact HFV.out
        rw [hlv] at HEXV
        obtain ⟨vs, hvs⟩ : ∃ vs, vs = swapL xs r t := ⟨_, rfl⟩
        rw [← hvs] at HEXV HPV HLV HE
        obtain ⟨lv, hlv2⟩ : ∃ lv, lv = fillA vs vs.length := ⟨_, rfl⟩
        have hlv3 : fillA vs n = lv := by rw [hlv2, HLV.out]
        rw [hlv3] at HEXV
        have HLVF := Lib.hid hlv2
        have HLV7 : Hid (lv.length = 7) := Lib.hid (by rw [hlv2, fillA_len])
        have HCV : Hid (∀ (q : Nat) u, q < r → Calls Try.prog 98 #[arr lv, .int .i64 q, .int .i64 r] u fun e w' => e = .returned (.bool (covB vs q r)) ∧ Below u.heap.size u w') := Lib.hid (fun q u hq => by rw [HLVF.out]; exact isCovered_any vs HPV.out q r u hq (by rw [HLV.out]; exact HRN.out))
        have HEX : Hid (∀ (q : Nat) u, q < r → Calls Try.prog 99 #[arr lv, .int .i64 q, .int .i64 r] u fun e w' => e = .returned (arr (swapL lv q r)) ∧ Below u.heap.size u w') := Lib.hid (fun q u hq => exchanged_any lv q r u (by omega) (by omega) (by omega) HLV7.out)
        have HLI : Hid (∀ (q : Nat) u, q < r → Calls Try.prog 100 #[arr (swapL lv q r), .int .i64 n] u fun e w' => Fresh u w' e (swapL vs q r)) := Lib.hid (fun q u hq => by
          have h := list_any (swapL lv q r) n u (by rw [swapL_len]; exact HLV7.out) HN7.out
          have e : (swapL lv q r).take n = swapL vs q r := by
            rw [HLVF.out, fill_swap hq (by rw [HLV.out]; exact HRN.out) (by rw [HLV.out]; exact HN7.out), ← HLV.out]
            have := fill_take_len (xs := swapL vs q r) (by rw [swapL_len, HLV.out]; exact HN7.out)
            rwa [swapL_len] at this
          rwa [e] at h)
        have HLIV : Hid (∀ u, Calls Try.prog 100 #[arr lv, .int .i64 n] u fun e w' => Fresh u w' e vs) := Lib.hid (fun u => by
          have h := list_any lv n u HLV7.out HN7.out
          have e : lv.take n = vs := by
            rw [HLVF.out, ← HLV.out]
            exact fill_take_len (xs := vs) (by rw [HLV.out]; exact HN7.out)
          rwa [e] at h)
        clear hFl hlv hvs hlv2 hlv3 hll
        go_upto_region 9 with fail
        obtain ⟨ga, hga⟩ : ∃ ga, ga = w2.heap.size := ⟨_, rfl⟩
        have HBA : Hid (Below w.heap.size w (w2.alloc (.cells (arrC l) 107))) := Lib.hid (HB2.out.alloc HB2.out.size _)
        have HKA : Hid (Blk (w2.alloc (.cells (arrC l) 107)) ga 107 (arrC l)) := Lib.hid (by rw [hga]; exact Blk.new w2 _ _)
        rw [← hga]
        clear hga
        generalize w2.alloc (.cells (arrC l) 107) = w3 at *
        go_upto_region 10 with (first
          | (refine wpList_load_blk rfl 107 (.tmp 9) rfl ga rfl 107 (arrC l) 7 3 HKA.out Try.undArr Try.infoArr ?_)
          | (go_at_call 99; (with_reducible refine (HEXV.out _).mono ?_); rintro e w4 ⟨rfl, hb4⟩; have HB4 : Hid (Below w.heap.size w w4) := Lib.hid (HBA.out.trans (hb4.mono HBA.out.size)); clear hb4))
        obtain ⟨g, hg⟩ : ∃ g, g = w4.heap.size := ⟨_, rfl⟩
        have HB5 : Hid (Below w.heap.size w (w4.alloc (.cells (arrC lv) 107))) := Lib.hid (HB4.out.alloc HB4.out.size _)
        have HK5 : Hid (Blk (w4.alloc (.cells (arrC lv) 107)) g 107 (arrC lv)) := Lib.hid (by rw [hg]; exact Blk.new w4 _ _)
        rw [← hg]
        clear hg
        generalize w4.alloc (.cells (arrC lv) 107) = w5 at *
        clear HB HKA HBA HB4 HB2
        go_wp2_with fail
        go_loopw [12, 49] (fun sv qv wr => ∃ (q : Nat) (A1 : Option Addr) (n1 c1 : Nat) (E1 : Nat → Sv), q ≤ r ∧ qv = .int .i64 q ∧ sv = .slice A1 n1 c1 ∧ OwnLE E1 wr w.heap.size wr.heap.size A1 n1 c1 (covR vs r q) ∧ Apart E1 A1 n1 g ∧ Blk wr g 107 (arrC lv) ∧ Below w.heap.size w wr)
          (fun _ qv _ => r - (intOf qv).toNat)
        case atStart => exact ⟨0, none, 0, 0, fun _ => (none, 0, 0), Nat.zero_le _, rfl, rfl, OwnLE.nil _ _ _ _, ⟨(fun h => by cases h), fun j hj => absurd hj (by omega)⟩, HK5.out, HB5.out⟩
        case round =>
          obtain ⟨q, A1, n1, c1, E1, hqr, rfl, rfl, he, hap, hk, hb⟩ := hrel
          have HE1 := Lib.hid he
          have HAP := Lib.hid hap
          have HK := Lib.hid hk
          have HB := Lib.hid hb
          clear he hap hk hb
          by_cases hil : q < r
          · have hiI : (q : Int) < (r : Int) := by omega
            have HIL := Lib.hid hil
            have HCC := Lib.hid (fun u => HCV.out q u HIL.out)
            have HXC := Lib.hid (fun u => HEX.out q u HIL.out)
            have HLC := Lib.hid (fun u => HLI.out q u HIL.out)
            cases hcv : covB vs q r with
            | true =>
              rw [hcv] at HCC
              have HNX : Hid (covR vs r (q + 1) = (covR vs r q) ++ [swapL vs q r]) := Lib.hid (by
                show (if covB vs q r = true then _ else _) = _
                rw [if_pos hcv])
              have HN1 : Hid (n1 ≤ 1000) := Lib.hid (by have h1 := HE1.out.1; have h3 := covR_len vs r q; have := HIL.out; have := HRN.out; have := HN7.out; omega)
              clear hcv
              go_upto_region 15 with (first
                | (refine wpList_load_blk rfl 107 (.tmp 11) rfl g rfl 107 (arrC lv) 7 3 HK.out Try.undArr Try.infoArr ?_)
                | (go_at_call 98; (with_reducible refine (HCC.out _).mono ?_); rintro e w3 ⟨rfl, hb3⟩; have HK3 := Lib.hid (HK.out.below hb3 HK.out.lt); have HB3 := Lib.hid hb3; clear hb3))
              go_wp2_with (first
                | (refine wpList_load_blk rfl 107 (.tmp 11) rfl g rfl 107 (arrC lv) 7 3 HK3.out Try.undArr Try.infoArr ?_)
                | (go_at_call 99; (with_reducible refine (HXC.out _).mono ?_); rintro e w4 ⟨rfl, hb4⟩; have HB4 : Hid (Below wr.heap.size wr w4) := Lib.hid (HB3.out.trans (hb4.mono HB3.out.size)); clear hb4)
                | (go_at_call 100; (with_reducible refine (HLC.out _).mono ?_); rintro e w5 ⟨A5, n5, c5, rfl, ho5, hb5⟩
                   have HO5 := Lib.hid ho5
                   have HB5 : Hid (Below wr.heap.size wr w5) := Lib.hid (HB4.out.trans (hb5.mono HB4.out.size))
                   have HS5 : Hid (wr.heap.size ≤ w4.heap.size ∧ w4.heap.size ≤ w5.heap.size ∧ w.heap.size ≤ wr.heap.size) := Lib.hid ⟨HB4.out.size, hb5.size, HB.out.size⟩
                   have HK5 := Lib.hid (HK.out.below HB5.out HK.out.lt)
                   clear ho5 hb5)
                | (at_builtin; refine wpList_appendLE rfl (.tmp 56) (.tmp 64) rfl w.heap.size wr.heap.size A1 n1 c1 (covR vs r q) w4.heap.size w5.heap.size A5 n5 c5 (swapL vs q r) rfl rfl (HE1.out.below HB5.out (Nat.le_refl _)) HO5.out (by have := HS5.out; omega) (HE1.out.apart_hi HO5.out HS5.out.1) (Nat.le_refl _) HB5.out.size (by have := HS5.out; omega) (by have := HN1.out; omega) ?_
                   intro A6 c6 w6 he6 hat6 hg6 hb6
                   have HE6 := Lib.hid he6
                   have HB6 : Hid (Below w.heap.size w w6) := Lib.hid ((HB.out.trans (HB5.out.mono HB.out.size)).trans hb6)
                   have hk6 := KpL.snoc (E := E1) (n := n1) (nb := n5) (cb := c5) (B := A5) HB5.out hg6 (fun q hq => by have h1 := (HO5.out.row_lt' hq).1; have h2 := HS5.out; omega) hat6
                   have HAP6 := Lib.hid (hk6.apart g HK.out.lt HAP.out)
                   have HK6 : Hid (Blk w6 g 107 (arrC lv)) := Lib.hid ((hk6.same g HK.out.lt HAP.out).trans HK.out)
                   clear he6 hat6 hg6 hb6 hk6))
              go_roundw
              case rel => exact ⟨q + 1, A6, n1 + 1, c6, _, by have := HIL.out; omega, by go_num, rfl, by rw [HNX.out]; exact HE6.out, HAP6.out, HK6.out, HB6.out⟩
              case measure => have := HIL.out; simp [intOf]; omega
            | false =>
              rw [hcv] at HCC
              have HNX : Hid (covR vs r (q + 1) = covR vs r q) := Lib.hid (by
                show (if covB vs q r = true then _ else _) = _
                rw [if_neg (by rw [hcv]; decide)])
              clear hcv
              go_wp2_with (first
                | (refine wpList_load_blk rfl 107 (.tmp 11) rfl g rfl 107 (arrC lv) 7 3 HK.out Try.undArr Try.infoArr ?_)
                | (go_at_call 98; (with_reducible refine (HCC.out _).mono ?_); rintro e w3 ⟨rfl, hb3⟩; have HK3 := Lib.hid (HK.out.below hb3 HK.out.lt); have HB3 := Lib.hid hb3; clear hb3))
              go_roundw
              case rel => exact ⟨q + 1, A1, n1, c1, E1, by have := HIL.out; omega, by go_num, rfl, by rw [HNX.out]; exact (HE1.out.below HB3.out (Nat.le_refl _)).wide2 (Nat.le_refl _) HB3.out.size, HAP.out, HK3.out, HB.out.trans (HB3.out.mono HB.out.size)⟩
              case measure => have := HIL.out; simp [intOf]; omega
          · have hiI : ¬ (q : Int) < (r : Int) := by omega
            obtain rfl : q = r := by omega
            have HRW : Hid (∀ k, k < n1 → (li (covR vs q q) k).length ≤ 1099511627776) := Lib.hid (fun k _ => li_len_of (m := 1099511627776) (fun z hz => by rw [covR_row hz, HLV.out]; have := HN7.out; omega) k)
            have HN1' : Hid (n1 ≤ 1099511627776) := Lib.hid (by have h1 := HE1.out.1; have h3 := covR_len vs q q; have := HRN.out; omega)
            have HSRT := Lib.hid (sortLists_gr E1 A1 n1 c1 w.heap.size (covR vs q q) wr HE1.out HB.out.size HN1'.out HRW.out)
            go_wp2_with (first
              | (go_at_call 101; (with_reducible refine HSRT.out.mono ?_); rintro e w6 ⟨rfl, us, hp6, hs6, ho6, hb6, hg6⟩
                 have HP6 := Lib.hid hp6
                 have HS6 := Lib.hid hs6
                 have HO6 := Lib.hid ho6
                 have HB6 : Hid (Below w.heap.size w w6) := Lib.hid (HB.out.trans hb6)
                 have HK6 : Hid (Blk w6 g 107 (arrC lv)) := Lib.hid ((hg6.block g HK.out.lt (fun e => HAP.out.1 e.symm)).trans HK.out)
                 clear hp6 hs6 ho6 hb6 hg6)
              | (refine wpList_load_blk rfl 107 (.tmp 11) rfl g rfl 107 (arrC lv) 7 3 HK6.out Try.undArr Try.infoArr ?_)
              | (go_at_call 100; (with_reducible refine (HLIV.out _).mono ?_); rintro e w7 ⟨A7, n7, c7, rfl, ho7, hb7⟩
                 have HO7 := Lib.hid ho7
                 have HO67 := Lib.hid (HO6.out.below hb7 (Nat.le_refl _))
                 have HB7 : Hid (Below w.heap.size w w7) := Lib.hid (HB6.out.trans (hb7.mono HB6.out.size))
                 have HZ7 := Lib.hid hb7.size
                 clear ho7 hb7))
            go_returns
            rw [HE.out.1, HE.out.2.1, HE.out.2.2]
            have e1 : us = covQ vs q q := covQ_sorted HPV.out (by rw [HLV.out]; exact HRN.out) HP6.out HS6.out
            rw [← e1]
            refine ⟨A7, n7, c7, A1, n1, c1, w6.heap.size, rfl, HO67.out, HO7.out, HB6.out.size, HZ7.out, HB7.out, by rw [HLV.out]; exact HN7.out, ?_, ?_⟩
            · rw [e1]; have := covQ_len vs q q; have := HRN.out; have := HN7.out; omega
            · intro z hz; rw [e1] at hz; rw [covQ_row hz, HLV.out]; exact HN7.out
end Go.Proofs.Ytjpoliibljjhnaa

/-
  Opening a slice of integers that came in; closed facts of this dump. No conditions.
-/




namespace Go.Proofs.Ytjpoliibljjhnaa
open Go.ChangeShapes Go.WideShapes Go.ChangeAt Go.RowKit

theorem own : ownKnob Try.prog.godebug = none := by kernel_rfl
theorem laidOut : laidOutB Try.prog = true := by kernel_rfl

/-- What an opened slice of integers gives: it reads as its numbers. -/
theorem SI.of_cells {w : World} {a : Addr} {n : Nat} {zs : List Int} (hl : n ≤ zs.length) (hc : ∀ i, i < zs.length → w.cell? (a.add i) = some (.int .i64 (zs.getD i 0))) : SI w (some a) n (zs.take n) := by
  refine ⟨by simp; omega, fun hn => ?_⟩
  obtain ⟨b, o, s⟩ := a
  have h0 := hc 0 (by omega)
  have hs : s = none := by simpa [Addr.add] using World.cell?_spot h0
  subst hs
  refine ⟨b, o, rfl, block_lt_of_cell (a := ⟨b, o, none⟩) (by simpa [Addr.add] using h0), fun k hk => ?_⟩
  rw [nth_take hk, ← add_pt]
  exact hc k (by omega)

/-- Every number fits an int. -/
def Fits (xs : List Int) : Prop := ∀ x ∈ xs, -9223372036854775808 ≤ x ∧ x ≤ 9223372036854775807
theorem SI.of_trod {H : Type} {enc : TypeId × Value → H} {W : World} {q : Nat} {f : Nat → Bool} {a0 : Option Addr} {len0 cap0 : Nat} {d : DataW H} {p : List MemPlace}
    (h0 : DataW.Trod enc Try.prog W q f true 22 (.slice a0 len0 cap0) d p) : ∃ xs, SI W a0 len0 xs ∧ Fits xs := by
  obtain ⟨fuel, hf⟩ := h0
  rcases open_ints Try.underlying22 Try.underlying3 (by kernel_rfl) hf with ⟨hcs, _⟩ | ⟨x, l, c, zs, hcs, _, hl, hm, hz, _, hcell, hwz⟩
  · simp [Value.cells] at hcs
    obtain ⟨rfl, rfl, rfl⟩ := hcs
    exact ⟨[], SI.nil _ _, fun x hx => by cases hx⟩
  · simp [Value.cells] at hcs
    obtain ⟨rfl, rfl, rfl⟩ := hcs
    exact ⟨_, SI.of_cells (by rw [hz]; split <;> omega) hcell, fun n hn => bounds_i64 (hwz n (List.mem_of_mem_take hn))⟩
end Go.Proofs.Ytjpoliibljjhnaa

/-
  Opening a slice of slices of numbers that came in. No conditions.
-/



namespace Go.Proofs.Ytjpoliibljjhnaa
open Go.ChangeShapes Go.WideShapes Go.ChangeAt Go.RowKit

theorem LS.of_trod {H : Type} {enc : TypeId × Value → H} {W : World} {q : Nat} {a0 : Option Addr} {len0 cap0 : Nat} {d : DataW H} {p : List MemPlace}
    (h0 : DataW.Trod enc Try.prog W q (fun _ => true) true 23 (.slice a0 len0 cap0) d p) : ∃ ls, LS W a0 len0 ls ∧ len0 ≤ 9223372036854775807 ∧ (∀ k, k < len0 → (li ls k).length ≤ 9223372036854775807) := by
  obtain ⟨fuel, hf⟩ := h0
  rcases Go.Deep.open_int_rows Try.underlying23 Try.underlying22 Try.underlying3 (by kernel_rfl) (by kernel_rfl) hf with ⟨hcs, _⟩ | ⟨a, len, cap, A, L, C, Z, hcs, hb, hl, hm, _, hx⟩
  · simp [Value.cells] at hcs
    obtain ⟨rfl, rfl, rfl⟩ := hcs
    exact ⟨[], LS.nil _ _, by omega, fun k hk => absurd hk (by omega)⟩
  · simp [Value.cells] at hcs
    obtain ⟨rfl, rfl, rfl⟩ := hcs
    refine ⟨(List.range len0).map fun r => (Z r).take (L r), ⟨by simp, fun hn => ?_⟩, by unfold maxLen at hm; omega, fun k hk => ?_⟩
    · obtain ⟨b, o, s⟩ := a
      have h1 := (hx 0 (by omega)).1
      have hs : s = none := by simpa [Addr.add] using World.cell?_spot h1
      subst hs
      refine ⟨b, o, rfl, block_lt_of_cell (a := ⟨b, o, none⟩) (by simpa [Addr.add] using h1), fun k hk => ?_⟩
      obtain ⟨h1, h2, h3, h4, _, h6, h7⟩ := hx k (by omega)
      rw [add_pt] at h1
      have et : li ((List.range len0).map fun r => (Z r).take (L r)) k = (Z k).take (L k) := by simp [li, List.getD, hk]
      rw [et]
      refine ⟨A k, L k, C k, h1, ?_, h2, fun h => by have := h6 h; omega⟩
      cases hA : A k with
      | none =>
        have := h6 hA
        have hL : L k = 0 := by omega
        rw [hL, List.take_zero]
        exact SI.nil _ _
      | some x =>
        obtain ⟨_, h8⟩ := h7 x hA
        exact SI.of_cells (by omega) fun i hi => h8 i (by omega)
    · have et : li ((List.range len0).map fun r => (Z r).take (L r)) k = (Z k).take (L k) := by simp [li, List.getD, hk]
      obtain ⟨_, h2, h3, _⟩ := hx k (by omega)
      rw [et, List.length_take]
      unfold maxLen at h3
      omega
end Go.Proofs.Ytjpoliibljjhnaa

/-
  The walk of FnExactTransitionOf: for every input the law returns true. No conditions.
-/





namespace Go.Proofs.Ytjpoliibljjhnaa
open Go.ChangeShapes Go.WideShapes Go.ChangeAt Go.RowKit

theorem endS_sm {ls : List (List Int)} {z : Int} (h1 : ls.length ≤ 7) (h2 : ∀ t ∈ ls, t.length ≤ 7) (h0 : 0 ≤ z) (hz : z ≤ 10) (k : Nat) : 0 ≤ endS (ls.take k) z ∧ endS (ls.take k) z ≤ 20000 := by
  have hb := endS_bound (ls.take k) z (fun t ht => Nat.le_trans (h2 t (List.mem_of_mem_take ht)) (by decide))
  have hl : (ls.take k).length ≤ ls.length := by rw [List.length_take]; omega
  omega
set_option maxHeartbeats 4000000 in
theorem walk_TransitionOf (A0 : Option Addr) (n0 c0 : Nat) (xs : List Int) (w : World) (hs0 : SI w A0 n0 xs) (_hfit0 : Fits xs) :
    Calls Try.prog 7 #[.slice A0 n0 c0] w fun e w' => e = .returned (.bool true) ∧ Below w.heap.size w w' := by
  by_cases hbig0 : 1048576 < n0
  · go_enter Try.func7, Try.ntmps7
    go_wp2
    go_ret
    exact ⟨rfl, Below.refl _ _⟩
  have HN0 := Lib.hid (show n0 ≤ 1048576 by omega)
  have HB0 := Lib.hid (Below.refl w.heap.size w)
  obtain ⟨bb, hbb⟩ : ∃ bb, bb = trB xs := ⟨_, rfl⟩
  obtain ⟨kk, hkk⟩ : ∃ kk, kk = trK xs := ⟨_, rfl⟩
  obtain ⟨Vs, hVE⟩ : ∃ Vs, Vs = trV xs := ⟨_, rfl⟩
  obtain ⟨O, hOE⟩ : ∃ O, O = trO xs := ⟨_, rfl⟩
  have HVE := Lib.hid hVE.symm
  have HOE := Lib.hid hOE.symm
  clear hVE hOE
  go_enter Try.func7, Try.ntmps7
  go_wp2_with fail
  refine (toIntS_fr _ _ _ xs _ (hs0.below HB0.out (Nat.le_refl _)) (by have := HN0.out; omega)).mono ?_
  rintro e w1 ⟨Ap, np, cp, rfl, ho, hb⟩
  have hsz := hb.size
  have HB1 := Lib.hid (HB0.out.trans (hb.mono HB0.out.size))
  have Op_1 := Lib.hid ho
  have Lp_1 := Lib.hid (Nat.le_refl w1.heap.size)
  have Ep : np ≤ 1048576 := by have := ho.len; have := hs0.1; have := HN0.out; omega
  clear HB0 hb hsz ho
  go_wp2_with fail
  refine (specTrans_any _ _ _ xs _ Op_1.out.si Op_1.out.cap (by omega)).mono ?_
  rintro e w2 ⟨AW1, nW1, cW1, AW2, nW2, cW2, rfl, h1, h2, hb⟩
  rw [HVE.out] at h1
  rw [HOE.out] at h2
  rw [← hkk, ← hbb]
  have hsz := hb.size
  have HB2 := Lib.hid (HB1.out.trans (hb.mono HB1.out.size))
  have Op_2 := Lib.hid (Op_1.out.below hb Lp_1.out)
  have Lp_2 := Lib.hid (Nat.le_trans Lp_1.out hsz)
  have OW1_2 := Lib.hid h1
  have LW1_2 := Lib.hid (Nat.le_refl w2.heap.size)
  have OW2_2 := Lib.hid h2
  have LW2_2 := Lib.hid (Nat.le_refl w2.heap.size)
  clear Op_1 Lp_1 HB1 hb hsz h1 h2
  have SW : Hid (w.heap.size ≤ w2.heap.size) := Lib.hid HB2.out.size
  go_wp2_with fail
  refine (toIntS_fr _ _ _ xs _ (hs0.below HB2.out (Nat.le_refl _)) (by have := HN0.out; omega)).mono ?_
  rintro e w3 ⟨Ax, nx, cx, rfl, ho, hb⟩
  have hsz := hb.size
  have HB3 := Lib.hid (HB2.out.trans (hb.mono HB2.out.size))
  have OW1_3 := Lib.hid (OW1_2.out.below hb LW1_2.out)
  have LW1_3 := Lib.hid (Nat.le_trans LW1_2.out hsz)
  have OW2_3 := Lib.hid (OW2_2.out.below hb LW2_2.out)
  have LW2_3 := Lib.hid (Nat.le_trans LW2_2.out hsz)
  have hszx := hsz
  have Ox_3 := Lib.hid ho
  have Lx_3 := Lib.hid (Nat.le_refl w3.heap.size)
  have Ex : nx ≤ 1048576 := by have := ho.len; have := hs0.1; have := HN0.out; omega
  clear OW1_2 LW1_2 OW2_2 LW2_2 HB2 hb hsz ho
  have Sx : Hid (w.heap.size ≤ w3.heap.size) := Lib.hid HB3.out.size
  have GWx : Hid (w2.heap.size ≤ w3.heap.size) := Lib.hid hszx
  go_wp2_with fail
  refine (implTrans_any _ _ _ xs _ Ox_3.out.si (by omega)).mono ?_
  rintro e w4 ⟨AV1, nV1, cV1, AV2, nV2, cV2, midV, rfl, h2, h1, hm1, hm2, hb, hv7, hl7, hz7⟩
  rw [HVE.out] at h1 hv7
  rw [HOE.out] at h2 hl7 hz7
  rw [← hkk, ← hbb]
  have hsz := hb.size
  have HB4 := Lib.hid (HB3.out.trans (hb.mono HB3.out.size))
  have OW1_4 := Lib.hid (OW1_3.out.below hb LW1_3.out)
  have LW1_4 := Lib.hid (Nat.le_trans LW1_3.out hsz)
  have OW2_4 := Lib.hid (OW2_3.out.below hb LW2_3.out)
  have LW2_4 := Lib.hid (Nat.le_trans LW2_3.out hsz)
  have Ox_4 := Lib.hid (Ox_3.out.below hb Lx_3.out)
  have Lx_4 := Lib.hid (Nat.le_trans Lx_3.out hsz)
  have OV1_4 := Lib.hid h1
  have LV1_4 := Lib.hid (Nat.le_refl w4.heap.size)
  have OV2_4 := Lib.hid h2
  have LV2_4 := Lib.hid (hm2)
  have MV : Hid (w3.heap.size ≤ midV) := Lib.hid hm1
  have EV1 : nV1 ≤ 7 := by have := h1.len; omega
  have EV2 : nV2 ≤ 7 := by have := h2.len; omega
  have HZ7 := Lib.hid hz7
  have HL7 := Lib.hid hl7
  have EW1 : nW1 ≤ 7 := by have := OW1_4.out.len; omega
  have EW2 : nW2 ≤ 7 := by have := OW2_4.out.len; omega
  have FO : Hid (∀ k, (li O k).length ≤ 1099511627776) := Lib.hid (fun k => Nat.le_trans (li_len_of hz7 k) (by decide))
  clear OW1_3 LW1_3 OW2_3 LW2_3 Ox_3 Lx_3 HB3 hb hsz h1 h2 hm1 hm2 hv7 hl7 hz7
  go_wp2_with fail
  refine (eqIntS_any _ _ _ _ _ _ Vs Vs _ OV1_4.out.si OW1_4.out.si (by omega) (by omega)).mono ?_
  rintro e w5 ⟨rfl, hd⟩
  rw [eqL_self]
  have hb : Below w4.heap.size w4 w5 := hd.below _
  have hsz := hb.size
  have HB5 := Lib.hid (HB4.out.trans (hb.mono HB4.out.size))
  have OW1_5 := Lib.hid (OW1_4.out.below hb LW1_4.out)
  have LW1_5 := Lib.hid (Nat.le_trans LW1_4.out hsz)
  have OW2_5 := Lib.hid (OW2_4.out.below hb LW2_4.out)
  have LW2_5 := Lib.hid (Nat.le_trans LW2_4.out hsz)
  have Ox_5 := Lib.hid (Ox_4.out.below hb Lx_4.out)
  have Lx_5 := Lib.hid (Nat.le_trans Lx_4.out hsz)
  have OV1_5 := Lib.hid (OV1_4.out.below hb LV1_4.out)
  have LV1_5 := Lib.hid (Nat.le_trans LV1_4.out hsz)
  have OV2_5 := Lib.hid (OV2_4.out.below hb LV2_4.out)
  have LV2_5 := Lib.hid (Nat.le_trans LV2_4.out hsz)
  clear OW1_4 LW1_4 OW2_4 LW2_4 Ox_4 Lx_4 OV1_4 LV1_4 OV2_4 LV2_4 HB4 hb hsz hd
  go_wp2_with fail
  refine (eqIntSS_any _ _ _ _ _ _ O O _ OV2_5.out.si OW2_5.out.si (by omega) (by omega) (fun k _ => FO.out k) (fun k _ => FO.out k)).mono ?_
  rintro e w6 ⟨rfl, hd⟩
  rw [eqLs_self]
  have hb : Below w5.heap.size w5 w6 := hd.below _
  have hsz := hb.size
  have HB6 := Lib.hid (HB5.out.trans (hb.mono HB5.out.size))
  have OW1_6 := Lib.hid (OW1_5.out.below hb LW1_5.out)
  have LW1_6 := Lib.hid (Nat.le_trans LW1_5.out hsz)
  have OW2_6 := Lib.hid (OW2_5.out.below hb LW2_5.out)
  have LW2_6 := Lib.hid (Nat.le_trans LW2_5.out hsz)
  have Ox_6 := Lib.hid (Ox_5.out.below hb Lx_5.out)
  have Lx_6 := Lib.hid (Nat.le_trans Lx_5.out hsz)
  have OV1_6 := Lib.hid (OV1_5.out.below hb LV1_5.out)
  have LV1_6 := Lib.hid (Nat.le_trans LV1_5.out hsz)
  have OV2_6 := Lib.hid (OV2_5.out.below hb LV2_5.out)
  have LV2_6 := Lib.hid (Nat.le_trans LV2_5.out hsz)
  clear OW1_5 LW1_5 OW2_5 LW2_5 Ox_5 Lx_5 OV1_5 LV1_5 OV2_5 LV2_5 HB5 hb hsz hd
  go_wp2_with fail
  refine (toIntS_fr _ _ _ xs _ (hs0.below HB6.out (Nat.le_refl _)) (by have := HN0.out; omega)).mono ?_
  rintro e w7 ⟨Ay, ny, cy, rfl, ho, hb⟩
  have hsz := hb.size
  have HB7 := Lib.hid (HB6.out.trans (hb.mono HB6.out.size))
  have OW1_7 := Lib.hid (OW1_6.out.below hb LW1_6.out)
  have LW1_7 := Lib.hid (Nat.le_trans LW1_6.out hsz)
  have OW2_7 := Lib.hid (OW2_6.out.below hb LW2_6.out)
  have LW2_7 := Lib.hid (Nat.le_trans LW2_6.out hsz)
  have Ox_7 := Lib.hid (Ox_6.out.below hb Lx_6.out)
  have Lx_7 := Lib.hid (Nat.le_trans Lx_6.out hsz)
  have OV1_7 := Lib.hid (OV1_6.out.below hb LV1_6.out)
  have LV1_7 := Lib.hid (Nat.le_trans LV1_6.out hsz)
  have OV2_7 := Lib.hid (OV2_6.out.below hb LV2_6.out)
  have LV2_7 := Lib.hid (Nat.le_trans LV2_6.out hsz)
  have Oy_7 := Lib.hid ho
  have Ly_7 := Lib.hid (Nat.le_refl w7.heap.size)
  have Ey : ny ≤ 1048576 := by have := ho.len; have := hs0.1; have := HN0.out; omega
  clear OW1_6 LW1_6 OW2_6 LW2_6 Ox_6 Lx_6 OV1_6 LV1_6 OV2_6 LV2_6 HB6 hb hsz ho
  go_wp2_with fail
  refine (eqIntS_any _ _ _ _ _ _ xs xs _ Ox_7.out.si Oy_7.out.si (by omega) (by omega)).mono ?_
  rintro e w8 ⟨rfl, hd⟩
  rw [eqL_self]
  have hb : Below w7.heap.size w7 w8 := hd.below _
  have hsz := hb.size
  have HB8 := Lib.hid (HB7.out.trans (hb.mono HB7.out.size))
  have OW1_8 := Lib.hid (OW1_7.out.below hb LW1_7.out)
  have LW1_8 := Lib.hid (Nat.le_trans LW1_7.out hsz)
  have OW2_8 := Lib.hid (OW2_7.out.below hb LW2_7.out)
  have LW2_8 := Lib.hid (Nat.le_trans LW2_7.out hsz)
  have Ox_8 := Lib.hid (Ox_7.out.below hb Lx_7.out)
  have Lx_8 := Lib.hid (Nat.le_trans Lx_7.out hsz)
  have OV1_8 := Lib.hid (OV1_7.out.below hb LV1_7.out)
  have LV1_8 := Lib.hid (Nat.le_trans LV1_7.out hsz)
  have OV2_8 := Lib.hid (OV2_7.out.below hb LV2_7.out)
  have LV2_8 := Lib.hid (Nat.le_trans LV2_7.out hsz)
  have Oy_8 := Lib.hid (Oy_7.out.below hb Ly_7.out)
  have Ly_8 := Lib.hid (Nat.le_trans Ly_7.out hsz)
  clear OW1_7 LW1_7 OW2_7 LW2_7 Ox_7 Lx_7 OV1_7 LV1_7 OV2_7 LV2_7 Oy_7 Ly_7 HB7 hb hsz hd
  go_wp2_with fail
  refine (markIntS_any _ _ _ _ _ xs 1 _ Ox_8.out (by omega) (by omega) (by omega)).mono ?_
  rintro e w9 ⟨rfl, ho, hg⟩
  have hw := Within.of_grown hg (fun b hb => Ox_8.out.lt b hb)
  have hsz := hg.size
  have HB9 := Lib.hid (HB8.out.trans (hw.below SW.out HB8.out.size))
  have OW1_9 := Lib.hid (OW1_8.out.within hw (.inl (Nat.le_refl _)))
  have LW1_9 := Lib.hid (Nat.le_trans LW1_8.out hsz)
  have OW2_9 := Lib.hid (OW2_8.out.within hw (.inl (Nat.le_refl _)))
  have LW2_9 := Lib.hid (Nat.le_trans LW2_8.out hsz)
  have OV1_9 := Lib.hid (OV1_8.out.within hw (.inr MV.out))
  have LV1_9 := Lib.hid (Nat.le_trans LV1_8.out hsz)
  have OV2_9 := Lib.hid (OV2_8.out.within hw (.inr (Nat.le_refl _)))
  have LV2_9 := Lib.hid (Nat.le_trans LV2_8.out hsz)
  have hyn : ¬ (1 : Int) + (nx : Int) < 0 := by omega
  clear OW1_8 LW1_8 OW2_8 LW2_8 Ox_8 Lx_8 OV1_8 LV1_8 OV2_8 LV2_8 HB8 hw hg ho hsz
  go_wp2_with fail
  refine (eqIntS_any _ _ _ _ _ _ Vs Vs _ OV1_9.out.si OW1_9.out.si (by omega) (by omega)).mono ?_
  rintro e w10 ⟨rfl, hd⟩
  rw [eqL_self]
  have hb : Below w9.heap.size w9 w10 := hd.below _
  have hsz := hb.size
  have HB10 := Lib.hid (HB9.out.trans (hb.mono HB9.out.size))
  have OW1_10 := Lib.hid (OW1_9.out.below hb LW1_9.out)
  have LW1_10 := Lib.hid (Nat.le_trans LW1_9.out hsz)
  have OW2_10 := Lib.hid (OW2_9.out.below hb LW2_9.out)
  have LW2_10 := Lib.hid (Nat.le_trans LW2_9.out hsz)
  have OV1_10 := Lib.hid (OV1_9.out.below hb LV1_9.out)
  have LV1_10 := Lib.hid (Nat.le_trans LV1_9.out hsz)
  have OV2_10 := Lib.hid (OV2_9.out.below hb LV2_9.out)
  have LV2_10 := Lib.hid (Nat.le_trans LV2_9.out hsz)
  clear OW1_9 LW1_9 OW2_9 LW2_9 OV1_9 LV1_9 OV2_9 LV2_9 HB9 hb hsz hd
  go_wp2_with fail
  refine (eqIntSS_any _ _ _ _ _ _ O O _ OV2_10.out.si OW2_10.out.si (by omega) (by omega) (fun k _ => FO.out k) (fun k _ => FO.out k)).mono ?_
  rintro e w11 ⟨rfl, hd⟩
  rw [eqLs_self]
  have hb : Below w10.heap.size w10 w11 := hd.below _
  have hsz := hb.size
  have HB11 := Lib.hid (HB10.out.trans (hb.mono HB10.out.size))
  have OW1_11 := Lib.hid (OW1_10.out.below hb LW1_10.out)
  have LW1_11 := Lib.hid (Nat.le_trans LW1_10.out hsz)
  have OW2_11 := Lib.hid (OW2_10.out.below hb LW2_10.out)
  have LW2_11 := Lib.hid (Nat.le_trans LW2_10.out hsz)
  have OV1_11 := Lib.hid (OV1_10.out.below hb LV1_10.out)
  have LV1_11 := Lib.hid (Nat.le_trans LV1_10.out hsz)
  have OV2_11 := Lib.hid (OV2_10.out.below hb LV2_10.out)
  have LV2_11 := Lib.hid (Nat.le_trans LV2_10.out hsz)
  clear OW1_10 LW1_10 OW2_10 LW2_10 OV1_10 LV1_10 OV2_10 LV2_10 HB10 hb hsz hd
  go_wp2_with fail
  refine (markIntS_any _ _ _ _ _ Vs 1 _ OV1_11.out (by omega) (by omega) (by omega)).mono ?_
  rintro e w12 ⟨rfl, ho, hg⟩
  have hw := Within.of_grown hg (fun b hb => OV1_11.out.lt b hb)
  have hsz := hg.size
  have HB12 := Lib.hid (HB11.out.trans (hw.below (Nat.le_trans Sx.out MV.out) HB11.out.size))
  have OW1_12 := Lib.hid (OW1_11.out.within hw (.inl (Nat.le_trans GWx.out MV.out)))
  have LW1_12 := Lib.hid (Nat.le_trans LW1_11.out hsz)
  have OW2_12 := Lib.hid (OW2_11.out.within hw (.inl (Nat.le_trans GWx.out MV.out)))
  have LW2_12 := Lib.hid (Nat.le_trans LW2_11.out hsz)
  have OV2_12 := Lib.hid (OV2_11.out.within hw (.inl (Nat.le_refl _)))
  have LV2_12 := Lib.hid (Nat.le_trans LV2_11.out hsz)
  have OV1_12 := Lib.hid ho
  have LV1_12 := Lib.hid (Nat.le_trans LV1_11.out hsz)
  obtain ⟨z, hz⟩ : ∃ z, z = (1 : Int) + (nV1 : Int) := ⟨_, rfl⟩
  rw [← hz]
  have hzb : 0 ≤ z ∧ z ≤ 10 := by omega
  have hzn : ¬ z < 0 := by omega
  have HZ := Lib.hid hz.symm
  have QQ : Hid (∀ k, 0 ≤ endS (O.take k) z ∧ endS (O.take k) z ≤ 20000) := Lib.hid (endS_sm HL7.out HZ7.out hzb.1 hzb.2)
  clear OW1_11 LW1_11 OW2_11 LW2_11 OV1_11 LV1_11 OV2_11 LV2_11 HB11 hw hg ho hsz hz
  go_wp2_with fail
  refine (markIntSS_any _ _ _ _ _ O z _ OV2_12.out (by omega) (fun k _ => FO.out k) (fun k _ => by have := QQ.out k; omega)).mono ?_
  rintro e w13 ⟨rfl, ho, hw⟩
  have hsz := hw.size
  have HB13 := Lib.hid (HB12.out.trans (hw.below Sx.out HB12.out.size))
  have OW1_13 := Lib.hid (OW1_12.out.within hw (.inl GWx.out))
  have LW1_13 := Lib.hid (Nat.le_trans LW1_12.out hsz)
  have OW2_13 := Lib.hid (OW2_12.out.within hw (.inl GWx.out))
  have LW2_13 := Lib.hid (Nat.le_trans LW2_12.out hsz)
  have OV1_13 := Lib.hid (OV1_12.out.within hw (.inr (Nat.le_refl _)))
  have LV1_13 := Lib.hid (Nat.le_trans LV1_12.out hsz)
  have OV2_13 := Lib.hid ho
  have LV2_13 := Lib.hid (Nat.le_trans LV2_12.out hsz)
  obtain ⟨y, hy⟩ : ∃ y, y = endS O z := ⟨_, rfl⟩
  have hyb : ¬ y < 0 := by have h := QQ.out O.length; rw [List.take_of_length_le (Nat.le_refl _), ← hy] at h; omega
  have HY := Lib.hid hy
  rw [← hy]
  clear OW1_12 LW1_12 OW2_12 LW2_12 OV1_12 LV1_12 OV2_12 LV2_12 HB12 hw ho hsz hy
  go_wp2_with fail
  refine (heldIntS_yes _ _ _ 1 _ OV1_13.out.si (by omega) (by omega) (by omega)).mono ?_
  rintro e w14 ⟨rfl, hd⟩
  have hb : Below w13.heap.size w13 w14 := hd.below _
  have hsz := hb.size
  have HB14 := Lib.hid (HB13.out.trans (hb.mono HB13.out.size))
  have OW1_14 := Lib.hid (OW1_13.out.below hb LW1_13.out)
  have LW1_14 := Lib.hid (Nat.le_trans LW1_13.out hsz)
  have OW2_14 := Lib.hid (OW2_13.out.below hb LW2_13.out)
  have LW2_14 := Lib.hid (Nat.le_trans LW2_13.out hsz)
  have OV1_14 := Lib.hid (OV1_13.out.below hb LV1_13.out)
  have LV1_14 := Lib.hid (Nat.le_trans LV1_13.out hsz)
  have OV2_14 := Lib.hid (OV2_13.out.below hb LV2_13.out)
  have LV2_14 := Lib.hid (Nat.le_trans LV2_13.out hsz)
  clear OW1_13 LW1_13 OW2_13 LW2_13 OV1_13 LV1_13 OV2_13 LV2_13 HB13 hb hsz hd
  rw [HZ.out]
  go_wp2_with fail
  refine (heldIntSS_yes _ _ _ O z _ OV2_14.out.si (by omega) (fun k _ => FO.out k) (fun k _ => by have := QQ.out k; omega)).mono ?_
  rintro e w15 ⟨rfl, hd⟩
  have hb : Below w14.heap.size w14 w15 := hd.below _
  have hsz := hb.size
  have HB15 := Lib.hid (HB14.out.trans (hb.mono HB14.out.size))
  have OW1_15 := Lib.hid (OW1_14.out.below hb LW1_14.out)
  have LW1_15 := Lib.hid (Nat.le_trans LW1_14.out hsz)
  have OW2_15 := Lib.hid (OW2_14.out.below hb LW2_14.out)
  have LW2_15 := Lib.hid (Nat.le_trans LW2_14.out hsz)
  have OV1_15 := Lib.hid (OV1_14.out.below hb LV1_14.out)
  have LV1_15 := Lib.hid (Nat.le_trans LV1_14.out hsz)
  have OV2_15 := Lib.hid (OV2_14.out.below hb LV2_14.out)
  have LV2_15 := Lib.hid (Nat.le_trans LV2_14.out hsz)
  clear OW1_14 LW1_14 OW2_14 LW2_14 OV1_14 LV1_14 OV2_14 LV2_14 HB14 hb hsz hd
  rw [← HY.out]
  go_wp2_with fail
  refine (toIntS_fr _ _ _ xs _ (hs0.below HB15.out (Nat.le_refl _)) (by have := HN0.out; omega)).mono ?_
  rintro e w16 ⟨Az, nz, cz, rfl, ho, hb⟩
  have hsz := hb.size
  have HB16 := Lib.hid (HB15.out.trans (hb.mono HB15.out.size))
  have OW1_16 := Lib.hid (OW1_15.out.below hb LW1_15.out)
  have LW1_16 := Lib.hid (Nat.le_trans LW1_15.out hsz)
  have OW2_16 := Lib.hid (OW2_15.out.below hb LW2_15.out)
  have LW2_16 := Lib.hid (Nat.le_trans LW2_15.out hsz)
  have OV1_16 := Lib.hid (OV1_15.out.below hb LV1_15.out)
  have LV1_16 := Lib.hid (Nat.le_trans LV1_15.out hsz)
  have OV2_16 := Lib.hid (OV2_15.out.below hb LV2_15.out)
  have LV2_16 := Lib.hid (Nat.le_trans LV2_15.out hsz)
  have Oz_16 := Lib.hid ho
  have Lz_16 := Lib.hid (Nat.le_refl w16.heap.size)
  have Ez : nz ≤ 1048576 := by have := ho.len; have := hs0.1; have := HN0.out; omega
  clear OW1_15 LW1_15 OW2_15 LW2_15 OV1_15 LV1_15 OV2_15 LV2_15 HB15 hb hsz ho
  go_wp2_with fail
  refine (implTrans_any _ _ _ xs _ Oz_16.out.si (by omega)).mono ?_
  rintro e w17 ⟨AZ1, nZ1, cZ1, AZ2, nZ2, cZ2, midZ, rfl, h2, h1, hm1, hm2, hb, hv7, hl7, hz7⟩
  rw [HVE.out] at h1 hv7
  rw [HOE.out] at h2 hl7 hz7
  rw [← hkk, ← hbb]
  have hsz := hb.size
  have HB17 := Lib.hid (HB16.out.trans (hb.mono HB16.out.size))
  have OW1_17 := Lib.hid (OW1_16.out.below hb LW1_16.out)
  have LW1_17 := Lib.hid (Nat.le_trans LW1_16.out hsz)
  have OW2_17 := Lib.hid (OW2_16.out.below hb LW2_16.out)
  have LW2_17 := Lib.hid (Nat.le_trans LW2_16.out hsz)
  have OV1_17 := Lib.hid (OV1_16.out.below hb LV1_16.out)
  have LV1_17 := Lib.hid (Nat.le_trans LV1_16.out hsz)
  have OV2_17 := Lib.hid (OV2_16.out.below hb LV2_16.out)
  have LV2_17 := Lib.hid (Nat.le_trans LV2_16.out hsz)
  have Oz_17 := Lib.hid (Oz_16.out.below hb Lz_16.out)
  have Lz_17 := Lib.hid (Nat.le_trans Lz_16.out hsz)
  have OZ1_17 := Lib.hid h1
  have LZ1_17 := Lib.hid (Nat.le_refl w17.heap.size)
  have OZ2_17 := Lib.hid h2
  have LZ2_17 := Lib.hid (hm2)
  have MZ : Hid (w16.heap.size ≤ midZ) := Lib.hid hm1
  have EZ1 : nZ1 ≤ 7 := by have := h1.len; omega
  have EZ2 : nZ2 ≤ 7 := by have := h2.len; omega
  clear OW1_16 LW1_16 OW2_16 LW2_16 OV1_16 LV1_16 OV2_16 LV2_16 Oz_16 Lz_16 HB16 hb hsz h1 h2 hm1 hm2 hv7 hl7 hz7
  go_wp2_with fail
  refine (eqIntS_any _ _ _ _ _ _ Vs Vs _ OZ1_17.out.si OW1_17.out.si (by omega) (by omega)).mono ?_
  rintro e w18 ⟨rfl, hd⟩
  rw [eqL_self]
  have hb : Below w17.heap.size w17 w18 := hd.below _
  have hsz := hb.size
  have HB18 := Lib.hid (HB17.out.trans (hb.mono HB17.out.size))
  have OW1_18 := Lib.hid (OW1_17.out.below hb LW1_17.out)
  have LW1_18 := Lib.hid (Nat.le_trans LW1_17.out hsz)
  have OW2_18 := Lib.hid (OW2_17.out.below hb LW2_17.out)
  have LW2_18 := Lib.hid (Nat.le_trans LW2_17.out hsz)
  have OV1_18 := Lib.hid (OV1_17.out.below hb LV1_17.out)
  have LV1_18 := Lib.hid (Nat.le_trans LV1_17.out hsz)
  have OV2_18 := Lib.hid (OV2_17.out.below hb LV2_17.out)
  have LV2_18 := Lib.hid (Nat.le_trans LV2_17.out hsz)
  have OZ1_18 := Lib.hid (OZ1_17.out.below hb LZ1_17.out)
  have LZ1_18 := Lib.hid (Nat.le_trans LZ1_17.out hsz)
  have OZ2_18 := Lib.hid (OZ2_17.out.below hb LZ2_17.out)
  have LZ2_18 := Lib.hid (Nat.le_trans LZ2_17.out hsz)
  clear OW1_17 LW1_17 OW2_17 LW2_17 OV1_17 LV1_17 OV2_17 LV2_17 OZ1_17 LZ1_17 OZ2_17 LZ2_17 HB17 hb hsz hd
  go_wp2_with fail
  refine (eqIntSS_any _ _ _ _ _ _ O O _ OZ2_18.out.si OW2_18.out.si (by omega) (by omega) (fun k _ => FO.out k) (fun k _ => FO.out k)).mono ?_
  rintro e w19 ⟨rfl, hd⟩
  rw [eqLs_self]
  have hb : Below w18.heap.size w18 w19 := hd.below _
  have hsz := hb.size
  have HB19 := Lib.hid (HB18.out.trans (hb.mono HB18.out.size))
  have OW1_19 := Lib.hid (OW1_18.out.below hb LW1_18.out)
  have LW1_19 := Lib.hid (Nat.le_trans LW1_18.out hsz)
  have OW2_19 := Lib.hid (OW2_18.out.below hb LW2_18.out)
  have LW2_19 := Lib.hid (Nat.le_trans LW2_18.out hsz)
  have OV1_19 := Lib.hid (OV1_18.out.below hb LV1_18.out)
  have LV1_19 := Lib.hid (Nat.le_trans LV1_18.out hsz)
  have OV2_19 := Lib.hid (OV2_18.out.below hb LV2_18.out)
  have LV2_19 := Lib.hid (Nat.le_trans LV2_18.out hsz)
  have OZ1_19 := Lib.hid (OZ1_18.out.below hb LZ1_18.out)
  have LZ1_19 := Lib.hid (Nat.le_trans LZ1_18.out hsz)
  have OZ2_19 := Lib.hid (OZ2_18.out.below hb LZ2_18.out)
  have LZ2_19 := Lib.hid (Nat.le_trans LZ2_18.out hsz)
  clear OW1_18 LW1_18 OW2_18 LW2_18 OV1_18 LV1_18 OV2_18 LV2_18 OZ1_18 LZ1_18 OZ2_18 LZ2_18 HB18 hb hsz hd
  go_wp2_with fail
  refine (heldIntS_yes _ _ _ 1 _ OV1_19.out.si (by omega) (by omega) (by omega)).mono ?_
  rintro e w20 ⟨rfl, hd⟩
  have hb : Below w19.heap.size w19 w20 := hd.below _
  have hsz := hb.size
  have HB20 := Lib.hid (HB19.out.trans (hb.mono HB19.out.size))
  have OW1_20 := Lib.hid (OW1_19.out.below hb LW1_19.out)
  have LW1_20 := Lib.hid (Nat.le_trans LW1_19.out hsz)
  have OW2_20 := Lib.hid (OW2_19.out.below hb LW2_19.out)
  have LW2_20 := Lib.hid (Nat.le_trans LW2_19.out hsz)
  have OV1_20 := Lib.hid (OV1_19.out.below hb LV1_19.out)
  have LV1_20 := Lib.hid (Nat.le_trans LV1_19.out hsz)
  have OV2_20 := Lib.hid (OV2_19.out.below hb LV2_19.out)
  have LV2_20 := Lib.hid (Nat.le_trans LV2_19.out hsz)
  have OZ1_20 := Lib.hid (OZ1_19.out.below hb LZ1_19.out)
  have LZ1_20 := Lib.hid (Nat.le_trans LZ1_19.out hsz)
  have OZ2_20 := Lib.hid (OZ2_19.out.below hb LZ2_19.out)
  have LZ2_20 := Lib.hid (Nat.le_trans LZ2_19.out hsz)
  clear OW1_19 LW1_19 OW2_19 LW2_19 OV1_19 LV1_19 OV2_19 LV2_19 OZ1_19 LZ1_19 OZ2_19 LZ2_19 HB19 hb hsz hd
  rw [HZ.out]
  go_wp2_with fail
  refine (heldIntSS_yes _ _ _ O z _ OV2_20.out.si (by omega) (fun k _ => FO.out k) (fun k _ => by have := QQ.out k; omega)).mono ?_
  rintro e w21 ⟨rfl, hd⟩
  have hb : Below w20.heap.size w20 w21 := hd.below _
  have hsz := hb.size
  have HB21 := Lib.hid (HB20.out.trans (hb.mono HB20.out.size))
  have OW1_21 := Lib.hid (OW1_20.out.below hb LW1_20.out)
  have LW1_21 := Lib.hid (Nat.le_trans LW1_20.out hsz)
  have OW2_21 := Lib.hid (OW2_20.out.below hb LW2_20.out)
  have LW2_21 := Lib.hid (Nat.le_trans LW2_20.out hsz)
  have OV1_21 := Lib.hid (OV1_20.out.below hb LV1_20.out)
  have LV1_21 := Lib.hid (Nat.le_trans LV1_20.out hsz)
  have OV2_21 := Lib.hid (OV2_20.out.below hb LV2_20.out)
  have LV2_21 := Lib.hid (Nat.le_trans LV2_20.out hsz)
  have OZ1_21 := Lib.hid (OZ1_20.out.below hb LZ1_20.out)
  have LZ1_21 := Lib.hid (Nat.le_trans LZ1_20.out hsz)
  have OZ2_21 := Lib.hid (OZ2_20.out.below hb LZ2_20.out)
  have LZ2_21 := Lib.hid (Nat.le_trans LZ2_20.out hsz)
  clear OW1_20 LW1_20 OW2_20 LW2_20 OV1_20 LV1_20 OV2_20 LV2_20 OZ1_20 LZ1_20 OZ2_20 LZ2_20 HB20 hb hsz hd
  rw [← HY.out]
  go_wp2
  go_ret
  exact ⟨rfl, HB21.out⟩
end Go.Proofs.Ytjpoliibljjhnaa

/-
  A permutation found from its code: the specification's l1Decode. Conditions: the length is from 1 to 7, the numbers are a code's.
-/

namespace Go.Proofs.Ytjpoliibljjhnaa
open Go.RowKit

/-- How many numbers below v are not in the list. -/
def unused (out : List Int) : Nat → Nat
  | 0 => 0
  | v + 1 => unused out v + if hasB out (v : Int) = true then 0 else 1
theorem unused_hit {out : List Int} {v : Nat} (h : hasB out (v : Int) = true) : unused out (v + 1) = unused out v := by
  show unused out v + (if hasB out (v : Int) = true then 0 else 1) = _
  rw [if_pos h]; rfl
theorem unused_miss {out : List Int} {v : Nat} (h : hasB out (v : Int) = false) : unused out (v + 1) = unused out v + 1 := by
  show unused out v + (if hasB out (v : Int) = true then 0 else 1) = _
  rw [if_neg (by rw [h]; decide)]
theorem unused_le (out : List Int) (v : Nat) : unused out v ≤ v := by
  induction v with
  | zero => exact Nat.le_refl _
  | succ v ih => unfold unused; split <;> omega
theorem unused_nil (v : Nat) : unused [] v = v := by
  induction v with
  | zero => rfl
  | succ v ih => rw [unused_miss (hasB_nil _), ih]
theorem hasB_snoc (out : List Int) (x y : Int) : hasB (out ++ [x]) y = (hasB out y || decide (y = x)) := by
  simp [hasB]
theorem unused_snoc_lo {out : List Int} {x : Nat} : ∀ m, m ≤ x → unused (out ++ [(x : Int)]) m = unused out m := by
  intro m
  induction m with
  | zero => intro _; rfl
  | succ m ih =>
    intro hm
    unfold unused
    rw [ih (by omega), hasB_snoc]
    have : decide ((m : Int) = (x : Int)) = false := by simp; omega
    rw [this, Bool.or_false]
theorem unused_snoc_hi {out : List Int} {x : Nat} (hx : hasB out (x : Int) = false) : ∀ m, x < m → unused (out ++ [(x : Int)]) m + 1 = unused out m := by
  intro m
  induction m with
  | zero => intro h; omega
  | succ m ih =>
    intro hm
    by_cases e : x = m
    · subst e
      rw [unused_miss hx, unused_hit (by rw [hasB_snoc]; simp), unused_snoc_lo x (Nat.le_refl _)]
    · have h1 := ih (by omega)
      have h2 : decide ((m : Int) = (x : Int)) = false := by simp; omega
      cases hm2 : hasB out (m : Int) with
      | true => rw [unused_hit hm2, unused_hit (by rw [hasB_snoc, hm2]; rfl)]; exact h1
      | false => rw [unused_miss hm2, unused_miss (by rw [hasB_snoc, hm2, h2]; rfl)]; omega
/-- The first k numbers that a code leads to. -/
def DecP (cs out : List Int) (n k : Nat) : Prop :=
  out.length = k ∧ unused out n + k = n ∧ ∀ i, i < k → ∃ v : Nat, v < n ∧ nth out i = (v : Int) ∧ hasB (out.take i) (v : Int) = false ∧ (unused (out.take i) v : Int) = nth cs i
theorem DecP.zero (cs : List Int) (n : Nat) : DecP cs [] n 0 := ⟨rfl, by rw [unused_nil]; omega, fun i hi => absurd hi (by omega)⟩
theorem nth_snoc_lt {out : List Int} {x : Int} {i : Nat} (h : i < out.length) : nth (out ++ [x]) i = nth out i := by
  rw [nth_get (by simp; omega), nth_get h, List.getElem_append_left h]
theorem nth_snoc_eq {out : List Int} {x : Int} : nth (out ++ [x]) out.length = x := by
  rw [nth_get (by simp)]; simp
theorem DecP.snoc {cs out : List Int} {n k v : Nat} (h : DecP cs out n k) (hv : v < n) (hx : hasB out (v : Int) = false) (hc : (unused out v : Int) = nth cs k) : DecP cs (out ++ [(v : Int)]) n (k + 1) := by
  obtain ⟨h1, h2, h3⟩ := h
  refine ⟨by simp [h1], by have := unused_snoc_hi hx n hv; omega, fun i hi => ?_⟩
  rcases Nat.lt_or_ge i k with hlt | hge
  · obtain ⟨u, hu1, hu2, hu3, hu4⟩ := h3 i hlt
    refine ⟨u, hu1, by rw [nth_snoc_lt (by omega)]; exact hu2, ?_, ?_⟩
    · rw [List.take_append_of_le_length (by omega)]; exact hu3
    · rw [List.take_append_of_le_length (by omega)]; exact hu4
  · have e : i = k := by omega
    subst e
    refine ⟨v, hv, by rw [← h1]; exact nth_snoc_eq, ?_, ?_⟩
    · rw [← h1, List.take_left' rfl]; exact hx
    · rw [← h1, List.take_left' rfl, h1]; exact hc
theorem DecP.perm {cs out : List Int} {n : Nat} (h : DecP cs out n n) (h1 : 1 ≤ n) (h7 : n ≤ 7) : isPermP out := by
  obtain ⟨e, _, h3⟩ := h
  refine ⟨by omega, by omega, fun k hk => ?_⟩
  obtain ⟨v, hv1, hv2, hv3, _⟩ := h3 k (by omega)
  exact ⟨by omega, by omega, by rw [hv2]; exact hv3⟩

set_option maxHeartbeats 2000000 in
theorem l1Decode_any (A : Option Addr) (n c : Nat) (cs : List Int) (w : World) (hs : SI w A n cs) (h7 : n ≤ 7) (hr : ∀ k, k < n → 0 ≤ nth cs k ∧ nth cs k ≤ (n : Int) - 1 - k) :
    Calls Try.prog 172 #[.slice A n c] w fun e w' => ∃ ys, Fresh w w' e ys ∧ DecP cs ys n n := by
  have HR := Lib.hid hr
  clear hr
  go_enter Try.func172, Try.ntmps172
  go_wp2
  go_loopw [3, 4] (fun v i wr => ∃ (k : Nat) (A : Option Addr) (c : Nat) (out : List Int), k ≤ n ∧ i = .int .i64 k ∧ v = .slice A k c ∧ Own wr w.heap.size wr.heap.size A k c out ∧ DecP cs out n k ∧ Below w.heap.size w wr)
    (fun _ i _ => n - (intOf i).toNat)
  case atStart => exact ⟨0, _, _, [], Nat.zero_le _, rfl, rfl, (Own.empty w).wide (Nat.le_refl _) (by simp), DecP.zero _ _, Below.alloc_self _ _⟩
  case round =>
    obtain ⟨k, A0, c0, out, hk, rfl, rfl, hown, hdec, hbel⟩ := hrel
    obtain ⟨wo, hwo⟩ : ∃ wo : World, wo = wr := ⟨_, rfl⟩
    rw [← hwo] at hown hbel ⊢
    have HO := Lib.hid hown
    have HD := Lib.hid hdec
    have HB := Lib.hid hbel
    clear hdec hwo wr
    by_cases hlt : k < n
    · obtain ⟨b, o, e1, hb, hc⟩ := (hs.below hbel (Nat.le_refl _)).at_ (by omega)
      have hc1 := hc k hlt
      obtain ⟨hr0, hr1⟩ := HR.out k hlt
      obtain ⟨x, hx⟩ : ∃ x, x = nth cs k := ⟨_, rfl⟩
      rw [← hx] at hc1 hr0 hr1
      have HX := Lib.hid hx
      subst e1
      clear hc hx hown hbel
      go_wp2
      go_loopw [3, 5, 6] (fun o5 l v wr => ∃ (u : Nat), u ≤ n ∧ o5 = .slice A0 k c0 ∧ v = .int .i64 u ∧ l = .int .i64 (x - (unused out u : Int)) ∧ (unused out u : Int) ≤ x ∧ Drawn wo wr)
        (fun _ _ v _ => n - (intOf v).toNat)
      case atStart => exact ⟨0, Nat.zero_le _, rfl, rfl, by show _ = Value.int .i64 (x - ((0 : Nat) : Int)); simp, by show ((0 : Nat) : Int) ≤ x; omega, Drawn.refl _⟩
      case round =>
        obtain ⟨u, hu, rfl, rfl, rfl, hux, hdr⟩ := hrel
        have HDr := Lib.hid hdr
        have hso := (HO.out.drawn hdr).si
        have HSO := Lib.hid hso
        have hq := unused_le out u
        obtain ⟨q, hqe⟩ : ∃ q, q = unused out u := ⟨_, rfl⟩
        rw [← hqe] at hux hq ⊢
        have HQ := Lib.hid hqe
        clear hdr hso hqe
        by_cases hult : u < n
        · go_wp2_with fail
          refine (l1Has_any A0 k c0 out (u : Int) _ HSO.out (by omega)).mono ?_
          rintro e w2 ⟨rfl, hd2⟩
          have HD2 := Lib.hid (HDr.out.trans hd2)
          clear hd2
          cases hh : hasB out (u : Int) with
          | true =>
            have HH := Lib.hid hh
            clear hh
            go_wp2
            go_roundw
            case rel =>
              have e1 := HQ.out
              exact ⟨u + 1, by omega, rfl, by go_num, by rw [unused_hit HH.out, ← e1], by rw [unused_hit HH.out, ← e1]; exact hux, HD2.out⟩
            case measure => simp [intOf]; omega
          | false =>
            have HH := Lib.hid hh
            clear hh
            by_cases hz : x = (q : Int)
            · have hz0 : x - (q : Int) = 0 := by omega
              have HZ := Lib.hid hz
              clear hz
              have ho2 := HO.out.drawn HD2.out
              have hw2 : w2.heap.size = wo.heap.size := by rw [HD2.out.heap]
              have HO2 : Hid (Own w2 w.heap.size w2.heap.size A0 k c0 out) := Lib.hid (by rw [hw2]; exact ho2)
              have HB2 : Hid (Below w.heap.size w w2) := Lib.hid (HB.out.trans (HD2.out.below _))
              clear ho2 hw2
              go_wp2_with (at_builtin; refine wpList_append1 rfl (.tmp 29) (.tmp 31) rfl w.heap.size A0 k c0 out (u : Int) rfl rfl HO2.out HB2.out.size (by omega) ?_; intro A' c' w3 ho3 _ hb3)
              go_roundw
              case rel =>
                have e1 := HQ.out
                have e2 := HX.out
                have e3 := HZ.out
                exact ⟨k + 1, _, _, out ++ [(u : Int)], by omega, by go_num, rfl, ho3, HD.out.snoc hult HH.out (by omega), HB2.out.trans hb3⟩
              case measure => simp [intOf]; omega
            · have hz0 : (x - (q : Int) == 0) = false := by simp; omega
              have hlt2 : (q : Int) < x := by omega
              have HZ := Lib.hid hz
              clear hz
              go_wp2
              go_roundw
              case rel =>
                have e1 := HQ.out
                exact ⟨u + 1, by omega, rfl, by go_num, by rw [unused_miss HH.out, ← e1]; go_num, by rw [unused_miss HH.out, ← e1]; omega, HD2.out⟩
              case measure => simp [intOf]; omega
        · exfalso
          have hun : u = n := by omega
          subst hun
          have h2 := HD.out.2.1
          have e1 := HQ.out
          omega
    · have hkn : k = n := by omega
      subst hkn
      clear hown hbel
      go_wp2
      go_ret
      exact ⟨out, ⟨A0, _, c0, rfl, HO.out, HB.out⟩, HD.out⟩
end Go.Proofs.Ytjpoliibljjhnaa

/-
  slices.Delete of one number of a slice that the call owns. Conditions: lengths below 2^40.
-/



namespace Go.Proofs.Ytjpoliibljjhnaa
open Go.RowKit

/-- Numbers laid over a list from place o on. -/
def layL (xs : List Int) (o : Nat) : List Int → List Int
  | [] => xs
  | y :: r => layL (xs.set o y) (o + 1) r
theorem layL_len (xs : List Int) (o : Nat) (ys : List Int) : (layL xs o ys).length = xs.length := by
  induction ys generalizing xs o with
  | nil => rfl
  | cons y r ih => unfold layL; rw [ih]; simp
theorem layL_app (a : List Int) : ∀ (ys b : List Int), ys.length ≤ b.length → layL (a ++ b) a.length ys = a ++ ys ++ b.drop ys.length
  | [], b, _ => by simp [layL]
  | y :: r, [], h => by simp at h
  | y :: r, x :: b, h => by
    unfold layL
    rw [List.set_append_right _ _ (Nat.le_refl _), Nat.sub_self, List.set_cons_zero]
    have e : a ++ y :: b = (a ++ [y]) ++ b := by simp
    have hl : a.length + 1 = (a ++ [y]).length := by simp
    rw [e, hl, layL_app (a ++ [y]) r b (by simpa using h)]
    simp
/-- The list without its k-th number. -/
def delL (xs : List Int) (k : Nat) : List Int := xs.take k ++ xs.drop (k + 1)
theorem delL_len {xs : List Int} {k : Nat} (h : k < xs.length) : (delL xs k).length = xs.length - 1 := by simp [delL]; omega
theorem lay_del {xs : List Int} {k : Nat} (h : k < xs.length) : ((layL xs k (xs.drop (k + 1))).set (xs.length - 1) 0).take (xs.length - 1) = delL xs k := by
  rw [List.take_set, List.set_eq_of_length_le (by rw [List.length_take]; omega)]
  have hl : (xs.take k).length = k := by simp; omega
  have e : layL xs k (xs.drop (k + 1)) = layL (xs.take k ++ xs.drop k) (xs.take k).length (xs.drop (k + 1)) := by rw [List.take_append_drop, hl]
  rw [e, layL_app _ _ _ (by simp; omega)]
  unfold delL
  rw [List.take_append_of_le_length (by simp; omega), List.take_of_length_le (by simp; omega)]
theorem Own.setCells {w : World} {lo hi g n c : Nat} {xs : List Int} (h : Own w lo hi (some ⟨g, 0, none⟩) n c xs) : ∀ (ys : List Int) (o : Nat), Own (w.setCells g o (ys.map (Value.int .i64))) lo hi (some ⟨g, 0, none⟩) n c (layL xs o ys) ∧ w.grownBy (w.setCells g o (ys.map (Value.int .i64))) (some g) := by
  intro ys
  induction ys generalizing w xs with
  | nil => intro o; exact ⟨h, World.grownBy.refl _ _⟩
  | cons y r ih =>
    intro o
    obtain ⟨h1, g1⟩ := h.set_ (k := o) y
    obtain ⟨h2, g2⟩ := ih h1 (o + 1)
    exact ⟨h2, g1.trans g2⟩
theorem Own.shrink {w : World} {lo hi g n c m : Nat} {xs : List Int} (h : Own w lo hi (some ⟨g, 0, none⟩) n c xs) (hm : m ≤ n) : Own w lo hi (some ⟨g, 0, none⟩) m c (xs.take m) := by
  have hl := h.len
  refine ⟨⟨by simp; omega, ?_⟩, h.2⟩
  rcases h.1.2 with ⟨e, _⟩ | ⟨g', cap, cur, e, h1, h2, h3, h4, h5, h6⟩
  · cases e
  · have e' := e
    simp only [Value.slice.injEq, Option.some.injEq, Addr.mk.injEq, and_true, true_and] at e'
    obtain ⟨rfl, rfl⟩ := e'
    refine .inr ⟨g, c, cur, rfl, h1, h2, by omega, h4, h5, ?_⟩
    rw [Nat.mul_one] at h6 ⊢
    rw [List.map_take, ← h6, List.take_take, Nat.min_eq_left hm]
theorem Own.room {w : World} {lo hi g n c : Nat} {xs : List Int} (h : Own w lo hi (some ⟨g, 0, none⟩) n c xs) {j : Nat} (hj : j < c) : (w.cell? ⟨g, j, none⟩).isSome = true ∧ w.frozen? ⟨g, j, none⟩ = false := by
  refine ⟨?_, h.frozenAt j⟩
  rcases h.1.2 with ⟨e, _⟩ | ⟨g', cap, cur, e, h1, h2, h3, h4, h5, h6⟩
  · cases e
  · simp only [Value.slice.injEq, Option.some.injEq, Addr.mk.injEq, and_true, true_and] at e
    obtain ⟨rfl, rfl⟩ := e
    rw [cell_of_row w g j cur _ (0, 0) h2]
    simp; omega
theorem Own.capmax {w : World} {lo hi g n c : Nat} {xs : List Int} (h : Own w lo hi (some ⟨g, 0, none⟩) n c xs) : c ≤ 9223372036854775807 := by
  rcases h.1.2 with ⟨e, _⟩ | ⟨g', cap, cur, e, h1, h2, h3, h4, h5, h6⟩
  · cases e
  · simp only [Value.slice.injEq, Option.some.injEq, Addr.mk.injEq, and_true, true_and] at e
    obtain ⟨rfl, rfl⟩ := e
    unfold maxLen at h4
    omega
theorem Try.zeroInt : ∀ w, (zeroValue 3).run Try.prog w = .ok (.int .i64 0) w := by
  intro w
  obtain ⟨i0, hi, hz0, hz1, hz2⟩ := info_parts Try.infoInt
  simp [zeroValue, typeInfo, hi, hz0]

set_option maxHeartbeats 1600000 in
set_option maxRecDepth 1000000 in
theorem delete_own (g n c k lo hi : Nat) (xs : List Int) (w : World) (hs : Own w lo hi (some ⟨g, 0, none⟩) n c xs) (hk : k < n) :
    Calls Try.prog 258 #[.slice (some ⟨g, 0, none⟩) n c, .int .i64 k, .int .i64 ((k : Int) + 1)] w fun e w' =>
      e = .returned (.slice (some ⟨g, 0, none⟩) (n - 1) c) ∧ Own w' lo hi (some ⟨g, 0, none⟩) (n - 1) c (delL xs k) ∧ w.grownBy w' (some g) := by
  obtain ⟨i0, hi0, hz0, hz1, hz2⟩ := info_parts Try.infoInt
  have hnc := hs.cap
  have hl := hs.len
  have hcm : c ≤ 9223372036854775807 := hs.capmax
  obtain ⟨ys, hys⟩ : ∃ ys, ys = xs.drop (k + 1) := ⟨_, rfl⟩
  have hyl : ys.length = n - (k + 1) := by rw [hys]; simp; omega
  have hcell : ∀ j, j < n → w.cell? ⟨g, j, none⟩ = some (.int .i64 (nth xs j)) := fun j hj => hs.cellAt hj
  obtain ⟨A, hA, hnews⟩ : ∃ A : Addr, (if c = k + 1 then some (⟨g, 0, none⟩ : Addr) else some ⟨g, k + 1, none⟩) = some A ∧ Hid (∀ j u, (ys.map (Value.int .i64))[j]? = some u → w.drew.cell? (A.add j) = some u) := by
    by_cases h : c = k + 1
    · refine ⟨⟨g, 0, none⟩, by simp [h], fun j u hu => ?_⟩
      have h0 : ys = [] := List.eq_nil_of_length_eq_zero (by omega)
      rw [h0] at hu
      simp at hu
    · refine ⟨⟨g, k + 1, none⟩, by simp [h], fun j u hu => ?_⟩
      have hj : j < ys.length := by
        have := (List.getElem?_eq_some_iff.1 hu).1
        simpa using this
      rw [List.getElem?_map, nth_get? hj] at hu
      rw [Addr.add_lit]
      refine (hcell (k + 1 + j) (by omega)).trans ?_
      rw [← hu, hys]
      simp [nth, List.getD]
  have s1 : Hid ((ys.map (Value.int .i64)).length = (n - (k + 1)) * 1) := by rw [Nat.mul_one]; show _ = _; simpa using hyl
  have s2 : Hid (∀ u ∈ ys.map (Value.int .i64), u.oneCell' = true) := ints_oneCell _ _
  have s3 : Hid (∀ j, j < (ys.map (Value.int .i64)).length → (w.drew.cell? ⟨g, 0 + k * 1 + j, none⟩).isSome = true ∧ w.drew.frozen? ⟨g, 0 + k * 1 + j, none⟩ = false) := by
    intro j hj
    have hj' : j < n - (k + 1) := by simpa [hyl] using hj
    rw [Nat.mul_one, Nat.zero_add]
    exact hs.room (j := k + j) (by omega)
  have hlay := (hs.drawn (⟨1, rfl⟩ : Drawn w w.drew)).setCells ys k
  have hdel := lay_del (xs := xs) (k := k) (by omega)
  rw [hl, ← hys] at hdel
  have HLAY := Lib.hid hlay
  have HDEL := Lib.hid hdel
  have HL := Lib.hid hl
  have hwr : IntKind.i64.wrap ((k : Int) + 1) = (k : Int) + 1 := by rw [IntKind.wrap_i64]; omega
  have hp0 : (0 : Int) ≤ (k : Int) + 1 := by omega
  have hp1 : (k : Int) + 1 ≤ (n : Int) := by omega
  have hp2 : ((k : Int) + 1).toNat = k + 1 := by omega
  have hkn : k + (n - (k + 1)) = n - 1 := by omega
  have hne : ¬ (k : Int) = (k : Int) + 1 := by omega
  have hic : k ≤ c := by omega
  clear hcell hlay hdel hs hl hys
  go_enter Try.func258, Try.ntmps258
  go_wp2_with fail
  go_region_law (refine step_append_room rfl (.tmp 22) (.tmp 25) 22 rfl 3 i0 1 Try.underlying22 hi0 hz1 g 0 k c (by simp [Act.eval, Act.put]) A (n - (k + 1)) (c - (k + 1)) (ys.map (Value.int .i64)) (by simp [Act.eval, Act.put]) s1.out hnews.out s2.out (by omega) s3.out ?_)
  generalize w.drew.setCells g k (ys.map (Value.int .i64)) = w5 at *
  have hl1 : n - (n - 1) = 1 := by omega
  have hcn : ¬ c = n - 1 := by omega
  have hb1 : n - 1 ≤ n := by omega
  have hb2 : n - 1 ≤ c := by omega
  have hclr : ∀ ty, (Builtin.clear_ #[22] ty #[.slice (some ⟨g, n - 1, none⟩) 1 (c - (n - 1))]).run Try.prog w5 = .ok (.tuple #[]) (w5.setCells g (n - 1) (List.replicate 1 (.int .i64 0))) := fun ty =>
    Lib.run_clear_slice w5 22 3 ty (.int .i64 0) Try.underlying22 Try.zeroInt rfl rfl g (n - 1) 1 (c - (n - 1)) (by omega)
      (fun j hj => (HLAY.out.1.room (j := n - 1 + j) (by omega)).1) (fun j hj => (HLAY.out.1.room (j := n - 1 + j) (by omega)).2)
  have hfin := (HLAY.out.1.setCells [0] (n - 1))
  have e1 : (List.map (Value.int .i64) [(0 : Int)]) = List.replicate 1 (Value.int .i64 0) := rfl
  rw [e1] at hfin
  have HFIN := Lib.hid hfin
  clear hfin e1
  clear hA s1 s2 s3 hnews hwr hp0 hp1 hp2
  go_wp2
  go_ret
  refine ⟨rfl, ?_, ?_⟩
  · have h := HFIN.out.1.shrink (m := n - 1) (by omega)
    have e2 : layL (layL xs k ys) (n - 1) [0] = (layL xs k ys).set (n - 1) 0 := rfl
    rw [e2, HDEL.out] at h
    exact h
  · have h := HLAY.out.2.trans HFIN.out.2
    exact ⟨h.os, h.tape, h.output, h.size, h.block⟩
end Go.Proofs.Ytjpoliibljjhnaa

/-
  Permutations found from codes: the model, the specification's side. Conditions: lengths below 2^40.
-/


namespace Go.Proofs.Ytjpoliibljjhnaa
open Go.RowKit

/-- The numbers below m that are not in the list, ascending. -/
def remL (out : List Int) : Nat → List Int
  | 0 => []
  | v + 1 => if hasB out (v : Int) = true then remL out v else remL out v ++ [(v : Int)]
theorem remL_hit {out : List Int} {v : Nat} (h : hasB out (v : Int) = true) : remL out (v + 1) = remL out v := by
  show (if _ then _ else _) = _; rw [if_pos h]
theorem remL_miss {out : List Int} {v : Nat} (h : hasB out (v : Int) = false) : remL out (v + 1) = remL out v ++ [(v : Int)] := by
  show (if _ then _ else _) = _; rw [if_neg (by rw [h]; decide)]
theorem remL_len (out : List Int) : ∀ m, (remL out m).length = unused out m
  | 0 => rfl
  | m + 1 => by
    cases h : hasB out (m : Int) with
    | true => rw [remL_hit h, unused_hit h, remL_len out m]
    | false => rw [remL_miss h, unused_miss h, List.length_append, remL_len out m]; rfl
theorem unused_mono (out : List Int) {a b : Nat} (h : a ≤ b) : unused out a ≤ unused out b := by
  induction b with
  | zero => rw [show a = 0 by omega]; exact Nat.le_refl _
  | succ b ih =>
    rcases Nat.lt_or_ge a (b + 1) with h1 | h1
    · have := ih (by omega)
      cases hb : hasB out (b : Int) with
      | true => rw [unused_hit hb]; exact this
      | false => rw [unused_miss hb]; omega
    · rw [show a = b + 1 by omega]; exact Nat.le_refl _
theorem remL_at {out : List Int} {v : Nat} (hv : hasB out (v : Int) = false) : ∀ m, v < m → nth (remL out m) (unused out v) = (v : Int)
  | 0, h => absurd h (by omega)
  | m + 1, h => by
    by_cases e : v = m
    · subst e
      rw [remL_miss hv, ← remL_len]; exact nth_snoc_eq
    · have ih := remL_at hv m (by omega)
      cases hm : hasB out (m : Int) with
      | true => rw [remL_hit hm]; exact ih
      | false =>
        have h1 := unused_mono out (a := v + 1) (b := m) (by omega)
        rw [unused_miss hv] at h1
        rw [remL_miss hm, nth_snoc_lt (by rw [remL_len]; omega)]; exact ih
theorem remL_find {out : List Int} {i : Nat} : ∀ m, i < unused out m → ∃ v, v < m ∧ hasB out (v : Int) = false ∧ unused out v = i
  | 0, h => absurd h (by simp [unused])
  | m + 1, h => by
    cases hm : hasB out (m : Int) with
    | true =>
      rw [unused_hit hm] at h
      obtain ⟨v, h1, h2, h3⟩ := remL_find m h
      exact ⟨v, by omega, h2, h3⟩
    | false =>
      rw [unused_miss hm] at h
      rcases Nat.lt_or_ge i (unused out m) with h1 | h1
      · obtain ⟨v, h2, h3, h4⟩ := remL_find m h1
        exact ⟨v, by omega, h3, h4⟩
      · exact ⟨m, by omega, hm, by omega⟩
theorem remL_snoc_lo {out : List Int} {v : Nat} : ∀ m, m ≤ v → remL (out ++ [(v : Int)]) m = remL out m
  | 0, _ => rfl
  | m + 1, h => by
    have ih := remL_snoc_lo (out := out) (v := v) m (by omega)
    have e : hasB (out ++ [(v : Int)]) (m : Int) = hasB out (m : Int) := by
      rw [hasB_snoc]
      have : decide ((m : Int) = (v : Int)) = false := by simp; omega
      rw [this, Bool.or_false]
    show (if _ then _ else _) = (if _ then _ else _)
    rw [e, ih]
theorem delL_snoc {xs : List Int} {y : Int} {i : Nat} (h : i < xs.length) : delL (xs ++ [y]) i = delL xs i ++ [y] := by
  unfold delL
  rw [List.take_append_of_le_length (by omega), List.drop_append_of_le_length (by omega), List.append_assoc]
theorem delL_last (xs : List Int) (y : Int) : delL (xs ++ [y]) xs.length = xs := by
  unfold delL; simp
theorem remL_del {out : List Int} {v : Nat} (hv : hasB out (v : Int) = false) : ∀ m, v < m → remL (out ++ [(v : Int)]) m = delL (remL out m) (unused out v)
  | 0, h => absurd h (by omega)
  | m + 1, h => by
    by_cases e : v = m
    · subst e
      rw [remL_hit (by rw [hasB_snoc]; simp), remL_snoc_lo v (Nat.le_refl _), remL_miss hv, ← remL_len, delL_last]
    · have ih := remL_del hv m (by omega)
      have e2 : hasB (out ++ [(v : Int)]) (m : Int) = hasB out (m : Int) := by
        rw [hasB_snoc]
        have : decide ((m : Int) = (v : Int)) = false := by simp; omega
        rw [this, Bool.or_false]
      cases hm : hasB out (m : Int) with
      | true => rw [remL_hit (by rw [e2]; exact hm), remL_hit hm]; exact ih
      | false =>
        have h1 := unused_mono out (a := v + 1) (b := m) (by omega)
        rw [unused_miss hv] at h1
        rw [remL_miss (by rw [e2]; exact hm), remL_miss hm, delL_snoc (by rw [remL_len]; omega), ih]
theorem remL_nil : ∀ n, remL [] n = idL n
  | 0 => rfl
  | n + 1 => by rw [remL_miss (hasB_nil _), remL_nil n, idL_succ]
/-- The first k numbers of the permutation with a code. -/
def decL (cs : List Int) (n : Nat) : Nat → List Int
  | 0 => []
  | k + 1 => decL cs n k ++ [nth (remL (decL cs n k) n) (nth cs k).toNat]
def codeOk (cs : List Int) (n : Nat) : Prop := ∀ k, k < n → 0 ≤ nth cs k ∧ nth cs k ≤ (n : Int) - 1 - k
theorem decL_step {cs : List Int} {n k : Nat} {out : List Int} (hd : DecP cs out n k) (hk : k < n) (h0 : 0 ≤ nth cs k) (h1 : nth cs k ≤ (n : Int) - 1 - k) :
    ∃ v : Nat, v < n ∧ hasB out (v : Int) = false ∧ (unused out v : Int) = nth cs k ∧ nth (remL out n) (nth cs k).toNat = (v : Int) ∧ remL (out ++ [(v : Int)]) n = delL (remL out n) (nth cs k).toNat := by
  have h2 := hd.2.1
  obtain ⟨v, hv, hb, hu⟩ := remL_find (out := out) (i := (nth cs k).toNat) n (by omega)
  exact ⟨v, hv, hb, by omega, by rw [← hu]; exact remL_at hb n hv, by rw [← hu]; exact remL_del hb n hv⟩
theorem decL_P {cs : List Int} {n : Nat} (h : ∀ k, k < n → 0 ≤ nth cs k ∧ nth cs k ≤ (n : Int) - 1 - k) : ∀ k, k ≤ n → DecP cs (decL cs n k) n k
  | 0, _ => DecP.zero _ _
  | k + 1, hk => by
    have ih := decL_P h k (by omega)
    obtain ⟨v, hv, hb, hu, hx, _⟩ := decL_step ih (by omega) (h k (by omega)).1 (h k (by omega)).2
    have e : decL cs n (k + 1) = decL cs n k ++ [(v : Int)] := by show _ ++ [_] = _; rw [hx]
    rw [e]
    exact ih.snoc hv hb hu
theorem decL_uniq {cs ys : List Int} {n : Nat} (h : DecP cs ys n n) : ys = decL cs n n := by
  have key : ∀ k, k ≤ n → ys.take k = decL cs n k := by
    intro k
    induction k with
    | zero => intro _; rfl
    | succ k ih =>
      intro hk
      obtain ⟨v, hv, h1, h2, h3⟩ := h.2.2 k (by omega)
      have e := ih (by omega)
      rw [take_nth (by rw [h.1]; omega), h1, e]
      rw [e] at h2 h3
      show _ = _ ++ [_]
      rw [← h3, Int.toNat_natCast, remL_at h2 n hv]
  have := key n (Nat.le_refl _)
  rwa [List.take_of_length_le (by rw [h.1]; exact Nat.le_refl _)] at this
/-- What PermOfCode answers. -/
def pocB (cs : List Int) : Bool := decide (1 ≤ cs.length) && decide (cs.length ≤ 7) && (List.range cs.length).all fun k => decide (0 ≤ nth cs k ∧ nth cs k ≤ (cs.length : Int) - 1 - k)
def pocPerm (cs : List Int) : List Int := if pocB cs = true then decL cs cs.length cs.length else []
theorem pocB_iff (cs : List Int) : pocB cs = true ↔ 1 ≤ cs.length ∧ cs.length ≤ 7 ∧ ∀ k, k < cs.length → 0 ≤ nth cs k ∧ nth cs k ≤ (cs.length : Int) - 1 - k := by
  simp [pocB, and_assoc]
theorem pocPerm_yes {cs : List Int} (h1 : 1 ≤ cs.length) (h7 : cs.length ≤ 7) (h : ∀ k, k < cs.length → 0 ≤ nth cs k ∧ nth cs k ≤ (cs.length : Int) - 1 - k) : pocPerm cs = decL cs cs.length cs.length := by
  unfold pocPerm; rw [if_pos ((pocB_iff cs).2 ⟨h1, h7, h⟩)]
theorem pocPerm_no {cs : List Int} (h : ¬ (1 ≤ cs.length ∧ cs.length ≤ 7 ∧ ∀ k, k < cs.length → 0 ≤ nth cs k ∧ nth cs k ≤ (cs.length : Int) - 1 - k)) : pocPerm cs = [] := by
  unfold pocPerm; rw [if_neg (fun e => h ((pocB_iff cs).1 e))]
theorem decL_len (cs : List Int) (n : Nat) : ∀ k, (decL cs n k).length = k
  | 0 => rfl
  | k + 1 => by show (_ ++ [_]).length = _; rw [List.length_append, decL_len cs n k]; rfl
theorem pocPerm_small (cs : List Int) : (pocPerm cs).length ≤ 1099511627775 := by
  unfold pocPerm
  split
  · rename_i h; have := (pocB_iff cs).1 h; rw [decL_len]; omega
  · simp

end Go.Proofs.Ytjpoliibljjhnaa

/-
  Hooks of shapes and products of them: plain lemmas; sizes and factorials, on both sides. Conditions: sizes of at most 20.
-/


namespace Go.Proofs.Ytjpoliibljjhnaa
open Go.RowKit

def factN : Nat → Nat
  | 0 => 1
  | n + 1 => (n + 1) * factN n
theorem factN_mono {a b : Nat} (h : a ≤ b) : factN a ≤ factN b := by
  induction b with
  | zero => obtain rfl : a = 0 := by omega
            exact Nat.le_refl _
  | succ b ih =>
    by_cases hab : a = b + 1
    · subst hab; exact Nat.le_refl _
    · have h1 := ih (by omega)
      have h2 : factN (b + 1) = (b + 1) * factN b := rfl
      rw [h2, Nat.succ_mul]
      exact Nat.le_trans h1 (Nat.le_add_left _ _)
theorem fact20 {n : Nat} (h : n ≤ 20) : factN n ≤ 2432902008176640000 := Nat.le_trans (factN_mono h) (by decide)
theorem factN_pos (n : Nat) : 0 < factN n := by
  induction n with
  | zero => decide
  | succ n ih => exact Nat.mul_pos (by omega) ih
/-- The hook of a cell. -/
def hkI (xs : List Int) (i j : Nat) : Int := nth xs i - (j : Int) + cntN xs j xs.length - (i : Int) - 1
def hkN (xs : List Int) (i j : Nat) : Nat := (hkI xs i j).toNat
def rowN (xs : List Int) (i : Nat) : Nat := (nth xs i).toNat
def rowProd (xs : List Int) (i : Nat) : Nat → Nat
  | 0 => 1
  | j + 1 => rowProd xs i j * hkN xs i j
def allProd (xs : List Int) : Nat → Nat
  | 0 => 1
  | i + 1 => allProd xs i * rowProd xs i (rowN xs i)
/-- How many cells stand ahead of a row. -/
def cellsN (xs : List Int) : Nat → Nat
  | 0 => 0
  | i + 1 => cellsN xs i + rowN xs i
theorem cellsN_sum {xs : List Int} (h : ∀ k, 0 ≤ nth xs k) : ∀ i, sumN xs i = (cellsN xs i : Int)
  | 0 => rfl
  | i + 1 => by
    have h1 : sumN xs (i + 1) = sumN xs i + nth xs i := rfl
    have h2 : cellsN xs (i + 1) = cellsN xs i + rowN xs i := rfl
    rw [h1, h2, cellsN_sum h i]
    unfold rowN
    have := h i
    omega
theorem cellsN_mono (xs : List Int) {i j : Nat} (h : i ≤ j) : cellsN xs i ≤ cellsN xs j := by
  induction j with
  | zero => obtain rfl : i = 0 := by omega
            exact Nat.le_refl _
  | succ j ih =>
    by_cases hij : i = j + 1
    · subst hij; exact Nat.le_refl _
    · exact Nat.le_trans (ih (by omega)) (Nat.le_add_right _ _)
/-- Rows that are longer than j: those up to one that is, and no more than there are cells behind it. -/
theorem cnt_low {xs : List Int} (h : isShapeP xs) {i j : Nat} (hi : i < xs.length) (hj : (j : Int) < nth xs i) : ∀ k, k ≤ i + 1 → cntN xs j k = (k : Int) := by
  have hd : ∀ d k, k + d = i → nth xs i ≤ nth xs k := by
    intro d
    induction d with
    | zero => intro k hk; obtain rfl : k = i := by omega
              exact Int.le_refl _
    | succ d ih =>
      intro k hk
      have h1 := ih (k + 1) (by omega)
      have h2 : nth xs (k + 1) ≤ nth xs k := (h.2 (k + 1) (by omega)).2
      omega
  intro k
  induction k with
  | zero => intro _; rfl
  | succ k ih =>
    intro hk
    have h1 := ih (by omega)
    have h2 := hd (i - k) k (by omega)
    show (if (j : Int) < nth xs k then cntN xs j k + 1 else cntN xs j k) = _
    rw [if_pos (by omega), h1]; omega
theorem cnt_up {xs : List Int} (h : ∀ k, 0 ≤ nth xs k) (j a : Nat) : ∀ k, a ≤ k → cntN xs j k ≤ cntN xs j a + ((cellsN xs k : Int) - cellsN xs a) ∧ cntN xs j a ≤ cntN xs j k := by
  intro k
  induction k with
  | zero => intro hk; obtain rfl : a = 0 := by omega
            omega
  | succ k ih =>
    intro hk
    by_cases hak : a = k + 1
    · subst hak; omega
    · have h1 := ih (by omega)
      have h2 : cellsN xs (k + 1) = cellsN xs k + rowN xs k := rfl
      have h3 := h k
      have h4 : cntN xs j (k + 1) = if (j : Int) < nth xs k then cntN xs j k + 1 else cntN xs j k := rfl
      unfold rowN at h2
      rw [h4, h2]
      split <;> omega
theorem hook_bnd {xs : List Int} (h : isShapeP xs) {i j : Nat} (hi : i < xs.length) (hj : (j : Int) < nth xs i) :
    1 ≤ hkI xs i j ∧ hkI xs i j ≤ (cellsN xs xs.length : Int) - cellsN xs i - j := by
  have h1 := cnt_low h hi hj (i + 1) (Nat.le_refl _)
  have h2 := cnt_up (fun k => (shape_range h k).1) j (i + 1) xs.length (by omega)
  have h3 : cellsN xs (i + 1) = cellsN xs i + rowN xs i := rfl
  unfold rowN at h3
  unfold hkI
  omega
theorem prod_bnd {xs : List Int} (h : isShapeP xs) : ∀ i, i ≤ xs.length → (∀ j, j ≤ rowN xs i → i < xs.length → 0 < allProd xs i * rowProd xs i j ∧ allProd xs i * rowProd xs i j * factN (cellsN xs xs.length - (cellsN xs i + j)) ≤ factN (cellsN xs xs.length)) ∧ (0 < allProd xs i ∧ allProd xs i * factN (cellsN xs xs.length - cellsN xs i) ≤ factN (cellsN xs xs.length)) := by
  intro i
  induction i with
  | zero =>
    intro _
    have base : 0 < allProd xs 0 ∧ allProd xs 0 * factN (cellsN xs xs.length - cellsN xs 0) ≤ factN (cellsN xs xs.length)   := ⟨Nat.one_pos, by show 1 * factN (cellsN xs xs.length - 0) ≤ _; rw [Nat.one_mul]; exact Nat.le_refl _⟩
    exact ⟨fun j hj hi => rowstep h hi base j hj, base⟩
  | succ i ih =>
    intro hi
    have h1 := (ih (by omega)).1 (rowN xs i) (Nat.le_refl _) (by omega)
    have base : 0 < allProd xs (i + 1) ∧ allProd xs (i + 1) * factN (cellsN xs xs.length - cellsN xs (i + 1)) ≤ factN (cellsN xs xs.length) := h1
    exact ⟨fun j hj hi => rowstep h hi base j hj, base⟩
where
  rowstep {xs : List Int} (h : isShapeP xs) {i : Nat} (hi : i < xs.length) (base : 0 < allProd xs i ∧ allProd xs i * factN (cellsN xs xs.length - cellsN xs i) ≤ factN (cellsN xs xs.length)) : ∀ j, j ≤ rowN xs i → 0 < allProd xs i * rowProd xs i j ∧ allProd xs i * rowProd xs i j * factN (cellsN xs xs.length - (cellsN xs i + j)) ≤ factN (cellsN xs xs.length) := by
    intro j
    induction j with
    | zero => intro _; show 0 < allProd xs i * 1 ∧ allProd xs i * 1 * _ ≤ _; rw [Nat.mul_one]; exact base
    | succ j ih =>
      intro hj
      have hjx : (j : Int) < nth xs i := by unfold rowN at hj; omega
      obtain ⟨b1, b2⟩ := hook_bnd h hi hjx
      obtain ⟨p1, p2⟩ := ih (by omega)
      have hs : cellsN xs i + rowN xs i ≤ cellsN xs xs.length := cellsN_mono xs (i := i + 1) (by omega)
      obtain ⟨r, hr⟩ : ∃ r, cellsN xs xs.length - (cellsN xs i + j) = r + 1 := ⟨cellsN xs xs.length - (cellsN xs i + j) - 1, by omega⟩
      have hr2 : cellsN xs xs.length - (cellsN xs i + (j + 1)) = r := by omega
      rw [hr] at p2
      rw [hr2]
      have hk1 : 1 ≤ hkN xs i j := by unfold hkN; omega
      have hk2 : hkN xs i j ≤ r + 1 := by unfold hkN; omega
      have e : allProd xs i * rowProd xs i (j + 1) = allProd xs i * rowProd xs i j * hkN xs i j := by show allProd xs i * (rowProd xs i j * hkN xs i j) = _; rw [Nat.mul_assoc]
      rw [e]
      refine ⟨Nat.mul_pos p1 hk1, Nat.le_trans ?_ p2⟩
      rw [Nat.mul_assoc]
      exact Nat.mul_le_mul_left _ (Nat.mul_le_mul_right _ hk2)
/-- How many standard tableaux: the factorial, divided by the hooks. -/
def stdN (xs : List Int) : Nat := factN (cellsN xs xs.length) / allProd xs xs.length
def stdOk (xs : List Int) : Bool := isShapeB xs && decide (sumN xs xs.length ≤ 20)
def stdCount (xs : List Int) : Int := if stdOk xs = true then (stdN xs : Int) else -1
set_option maxHeartbeats 400000 in
theorem l1Factorial_any (n : Nat) (w : World) (h : n ≤ 20) :
    Calls Try.prog 171 #[.int .i64 n] w fun e w' => e = .returned (.int .i64 (factN n : Nat)) ∧ w = w' := by
  go_enter Try.func171, Try.ntmps171
  go_wp2
  go_loopw [3, 4] (fun pv iv wr => ∃ k : Nat, 2 ≤ k ∧ (k ≤ n + 1 ∨ k = 2) ∧ iv = .int .i64 k ∧ pv = .int .i64 (factN (k - 1) : Nat) ∧ Drawn w wr ∧ w = wr)
    (fun _ iv _ => n + 2 - (intOf iv).toNat)
  case atStart => exact ⟨2, by omega, .inr rfl, rfl, rfl, Drawn.refl _, rfl⟩
  case round =>
    obtain ⟨k, hk2, hk, rfl, rfl, _, rfl⟩ := hrel
    by_cases hlt : k ≤ n
    · have hkI : (k : Int) ≤ (n : Int) := by omega
      obtain ⟨m, rfl⟩ : ∃ m, k = m + 1 := ⟨k - 1, by omega⟩
      have e : factN (m + 1) = (m + 1) * factN m := rfl
      have hb := fact20 (n := m + 1) (by omega)
      have hz : ((m + 1 - 1 : Nat)) = m := by omega
      rw [hz]
      obtain ⟨f, hf⟩ : ∃ f, f = factN m := ⟨_, rfl⟩
      rw [← hf] at e ⊢
      rw [e] at hb
      have HE : Hid (factN (m + 1 + 1 - 1) = (m + 1) * f) := Lib.hid (by rw [show m + 1 + 1 - 1 = m + 1 by omega]; exact e)
      have hwr : IntKind.i64.wrap ((f : Int) * ((m + 1 : Nat) : Int)) = (((m + 1) * f : Nat) : Int) := by
        rw [← Int.natCast_mul, Nat.mul_comm]; exact IntWalk.i64_in _ (by omega)
      obtain ⟨q, hq⟩ : ∃ q, q = (m + 1) * f := ⟨_, rfl⟩
      obtain ⟨k1, hk1⟩ : ∃ k1, k1 = m + 1 := ⟨_, rfl⟩
      rw [← hq] at hwr HE
      rw [← hk1] at hwr HE hkI hk hk2 ⊢
      have hk20 : k1 ≤ 20 := by omega
      clear e hb hf hq hz hk1
      go_wp2
      go_roundw
      case rel => exact ⟨k1 + 1, by omega, .inl (by omega), by go_num, by rw [HE.out], Drawn.refl _, by trivial⟩
      case measure => simp [intOf]; omega
    · have hkI : ¬ (k : Int) ≤ (n : Int) := by omega
      have HE : Hid (factN (k - 1) = factN n) := Lib.hid (by
        rcases hk with h | h
        · rw [show k - 1 = n by omega]
        · subst h
          rcases (by omega : n = 0 ∨ n = 1) with rfl | rfl <;> rfl)
      go_wp2
      go_ret
      exact ⟨by rw [HE.out]; rfl, by trivial⟩
end Go.Proofs.Ytjpoliibljjhnaa

/-
  All permutations, in the order of their codes: the model of both sides. No conditions.
-/




namespace Go.Proofs.Ytjpoliibljjhnaa
open Go.RowKit

/-- The digits of a number, the last one first, put into a list. -/
def dgt (n : Nat) : Nat → Nat → List Int → List Int
  | 0, _, l => l
  | k + 1, r, l => dgt n k (r / (n - k)) (l.set k ((r % (n - k) : Nat) : Int))
def codeAt (n i : Nat) : List Int := dgt n n i (List.replicate n 0)
def apm (n i : Nat) : List Int := pocPerm (codeAt n i)
def permL (n : Nat) : Nat → List (List Int)
  | 0 => []
  | i + 1 => permL n i ++ [apm n i]
def apIn (a : Int) : Bool := decide (1 ≤ a ∧ a ≤ 5)
def allP (a : Int) : List (List Int) := if apIn a = true then permL a.toNat (factN a.toNat) else []
theorem allP_no {a : Int} (h : ¬ (1 ≤ a ∧ a ≤ 5)) : allP a = [] := by unfold allP; rw [if_neg (by simp [apIn]; omega)]
theorem allP_yes {n : Nat} (h1 : 1 ≤ n) (h5 : n ≤ 5) : allP (n : Int) = permL n (factN n) := by unfold allP; rw [if_pos (by simp [apIn]; omega), Int.toNat_natCast]
theorem dgt_len (n : Nat) : ∀ k r l, (dgt n k r l).length = l.length
  | 0, _, _ => rfl
  | k + 1, r, l => by rw [dgt, dgt_len n k]; simp
theorem nth_setA {l : List Int} {k : Nat} (x : Int) (hk : k < l.length) (j : Nat) : nth (l.set k x) j = if j = k then x else nth l j := by
  by_cases e : j = k
  · subst e; simp [nth, List.getD, hk]
  · rw [if_neg e]
    have e' : ¬ k = j := fun h => e h.symm
    simp [nth, List.getD, e']
theorem dgt_ok {n : Nat} : ∀ (k r : Nat) (l : List Int), k ≤ n → l.length = n → (∀ j, k ≤ j → j < n → 0 ≤ nth l j ∧ nth l j ≤ (n : Int) - 1 - j) → ∀ j, j < n → 0 ≤ nth (dgt n k r l) j ∧ nth (dgt n k r l) j ≤ (n : Int) - 1 - j
  | 0, _, _, _, _, h => fun j hj => h j (Nat.zero_le _) hj
  | k + 1, r, l, hk, hl, h => dgt_ok k _ _ (by omega) (by simp [hl]) (fun j h1 h2 => by
      rw [nth_setA _ (by omega)]
      by_cases e : j = k
      · subst e
        rw [if_pos rfl]
        have := Nat.mod_lt r (show 0 < n - j by omega)
        omega
      · rw [if_neg e]
        exact h j (by omega) h2)
theorem codeAt_len (n i : Nat) : (codeAt n i).length = n := by rw [codeAt, dgt_len]; simp
theorem codeAt_ok (n i : Nat) : ∀ j, j < n → 0 ≤ nth (codeAt n i) j ∧ nth (codeAt n i) j ≤ (n : Int) - 1 - j :=
  dgt_ok n i _ (Nat.le_refl _) (by simp) (fun j h1 h2 => absurd h2 (by omega))
theorem apm_dec {n i : Nat} (h1 : 1 ≤ n) (h7 : n ≤ 7) : apm n i = decL (codeAt n i) n n := by
  have hl := codeAt_len n i
  rw [apm, pocPerm_yes (by omega) (by omega) (by rw [hl]; exact codeAt_ok n i), hl]
theorem apm_P {n i : Nat} (h1 : 1 ≤ n) (h7 : n ≤ 7) : isPermP (apm n i) := by
  rw [apm_dec h1 h7]
  exact (decL_P (codeAt_ok n i) n (Nat.le_refl _)).perm h1 h7
theorem apm_len {n i : Nat} (h1 : 1 ≤ n) (h7 : n ≤ 7) : (apm n i).length = n := by rw [apm_dec h1 h7, decL_len]
theorem permL_len (n : Nat) : ∀ i, (permL n i).length = i
  | 0 => rfl
  | i + 1 => by rw [permL, List.length_append, permL_len n i]; rfl
theorem permL_each {n : Nat} (h1 : 1 ≤ n) (h7 : n ≤ 7) : ∀ i, ∀ t ∈ permL n i, t.length ≤ 100
  | 0, t, h => by cases h
  | i + 1, t, h => by
    rw [permL] at h
    rcases List.mem_append.1 h with h | h
    · exact permL_each h1 h7 i t h
    · rw [List.mem_singleton] at h; subst h; rw [apm_len h1 h7]; omega
theorem fact120 {n : Nat} (h : n ≤ 5) : factN n ≤ 120 := Nat.le_trans (factN_mono h) (by decide)
theorem allP_short (a : Int) : ShortL (allP a) := by
  by_cases h : 1 ≤ a ∧ a ≤ 5
  · obtain ⟨n, rfl⟩ : ∃ n : Nat, a = n := ⟨a.toNat, by omega⟩
    rw [allP_yes (by omega) (by omega)]
    exact ShortL.of (by rw [permL_len]; have := fact120 (n := n) (by omega); omega) (permL_each (by omega) (by omega) _)
  · rw [allP_no h]
    exact ShortL.of (by simp) (by simp)
theorem apm_fill {n i : Nat} (h1 : 1 ≤ n) (h7 : n ≤ 7) : (fillA (apm n i) n).take n = apm n i := by
  have hl := apm_len (i := i) h1 h7
  have := fill_take_len (xs := apm n i) (by omega)
  rwa [hl] at this
end Go.Proofs.Ytjpoliibljjhnaa

/-
  Values at permutations that differ by multiples: the model of both sides. No conditions but those named.
-/



namespace Go.Proofs.Ytjpoliibljjhnaa
open Go.RowKit

theorem codeCnt_le2 (xs : List Int) (i : Nat) : ∀ j, codeCnt xs i j ≤ j - (i + 1)
  | 0 => by simp [codeCnt]
  | j + 1 => by
    by_cases h : j + 1 ≤ i + 1
    · rw [codeCnt_low xs i (j + 1) h]; omega
    · have := codeCnt_le2 xs i j
      unfold codeCnt
      split <;> omega
/-- The number of a permutation among all of its size, by its code: when k numbers of it have been gone through. -/
def plcN (xs : List Int) (n : Nat) : Nat → Nat
  | 0 => 0
  | k + 1 => plcN xs n k * (n - k) + codeCnt xs k n
def fallN (n : Nat) : Nat → Nat
  | 0 => 1
  | k + 1 => fallN n k * (n - k)
theorem plcN_lt (xs : List Int) (n : Nat) : ∀ k, k ≤ n → plcN xs n k + 1 ≤ fallN n k
  | 0, _ => by simp [plcN, fallN]
  | k + 1, hk => by
    have h1 := plcN_lt xs n k (by omega)
    have h2 := codeCnt_le2 xs k n
    have h3 : (plcN xs n k + 1) * (n - k) ≤ fallN n k * (n - k) := Nat.mul_le_mul h1 (Nat.le_refl _)
    rw [Nat.add_mul, Nat.one_mul] at h3
    unfold plcN fallN
    omega
theorem fallN_fact {n : Nat} (h : n ≤ 5) : fallN n n = factN n := by
  have hc : n = 0 ∨ n = 1 ∨ n = 2 ∨ n = 3 ∨ n = 4 ∨ n = 5 := by omega
  rcases hc with rfl | rfl | rfl | rfl | rfl | rfl <;> rfl
theorem fallN_le {n : Nat} (h : n ≤ 5) : ∀ k, k ≤ n → fallN n k ≤ 3125
  | 0, _ => by simp [fallN]
  | k + 1, hk => by
    have hc : n = 1 ∨ n = 2 ∨ n = 3 ∨ n = 4 ∨ n = 5 := by omega
    have hk5 : k = 0 ∨ k = 1 ∨ k = 2 ∨ k = 3 ∨ k = 4 := by omega
    rcases hc with rfl | rfl | rfl | rfl | rfl <;> rcases hk5 with rfl | rfl | rfl | rfl | rfl <;> first | decide | omega
theorem plc_lt {xs : List Int} {n : Nat} (h : n ≤ 5) : plcN xs n n < factN n := by
  have := plcN_lt xs n n (Nat.le_refl _)
  rw [fallN_fact h] at this
  omega
theorem plc_le {xs : List Int} {n : Nat} (h : n ≤ 5) {k : Nat} (hk : k ≤ n) : plcN xs n k ≤ 3124 := by
  have := plcN_lt xs n k hk
  have := fallN_le h k hk
  omega
/-- A number for each place. -/
def numP (a : Int) (ys : List Int) : Prop := 1 ≤ a ∧ a ≤ 5 ∧ (ys.length : Int) = a ∧ ∀ k, k < ys.length → -9 ≤ nth ys k ∧ nth ys k ≤ 9
def shfB (ys : List Int) : Bool := (List.range ys.length).all fun k => decide (-9 ≤ nth ys k ∧ nth ys k ≤ 9)
theorem shfB_iff (ys : List Int) : shfB ys = true ↔ ∀ k, k < ys.length → -9 ≤ nth ys k ∧ nth ys k ≤ 9 := by
  simp only [shfB, List.all_eq_true, List.mem_range, decide_eq_true_eq]
def numB (a : Int) (ys : List Int) : Bool := decide (1 ≤ a ∧ a ≤ 5 ∧ (ys.length : Int) = a) && shfB ys
theorem numB_iff (a : Int) (ys : List Int) : numB a ys = true ↔ numP a ys := by
  rw [numB, Bool.and_eq_true, shfB_iff, decide_eq_true_eq]
  exact ⟨fun h => ⟨h.1.1, h.1.2.1, h.1.2.2, h.2⟩, fun h => ⟨⟨h.1, h.2.1, h.2.2.1⟩, h.2.2.2⟩⟩
/-- The numbers are different. -/
def difB (ys : List Int) (n : Nat) : Bool := (List.range n).all fun k => !hasB (ys.take k) (nth ys k)
theorem difB_iff (ys : List Int) (n : Nat) : difB ys n = true ↔ ∀ k, k < n → hasB (ys.take k) (nth ys k) = false := by
  simp only [difB, List.all_eq_true, List.mem_range, Bool.not_eq_true']
def aptB (a : Int) (ys : List Int) : Bool := numB a ys && decide (a ≤ 4) && difB ys ys.length
def aptP (a : Int) (ys : List Int) : Prop := numP a ys ∧ a ≤ 4 ∧ ∀ k, k < ys.length → hasB (ys.take k) (nth ys k) = false
theorem aptB_iff (a : Int) (ys : List Int) : aptB a ys = true ↔ aptP a ys := by
  rw [aptB, Bool.and_eq_true, Bool.and_eq_true, numB_iff, difB_iff, decide_eq_true_eq]
  exact ⟨fun h => ⟨h.1.1, h.1.2, h.2⟩, fun h => ⟨⟨h.1, h.2.1⟩, h.2.2⟩⟩
theorem dif_ne {ys : List Int} (h : ∀ k, k < ys.length → hasB (ys.take k) (nth ys k) = false) {j k : Nat} (hjk : j ≠ k) (hj : j < ys.length) (hk : k < ys.length) : nth ys j ≠ nth ys k := by
  have key : ∀ {s t : Nat}, s < t → t < ys.length → nth ys s ≠ nth ys t := fun {s t} hst ht e => by
    have h3 := h t ht
    rw [← e] at h3
    have := hasB_hit (xs := ys.take t) (k := s) (by rw [List.length_take]; omega)
    rw [nth_take hst] at this
    rw [this] at h3
    cases h3
  rcases Nat.lt_or_gt_of_ne hjk with h1 | h1
  · exact key h1 hk
  · exact (key h1 hj).symm
/-- A value for each permutation. -/
def valB (n : Nat) (vs : List Int) : Bool := decide (vs.length = factN n) && (List.range vs.length).all fun k => decide (-1000000000000 ≤ nth vs k ∧ nth vs k ≤ 1000000000000)
def valP (n : Nat) (vs : List Int) : Prop := vs.length = factN n ∧ ∀ k, k < vs.length → -1000000000000 ≤ nth vs k ∧ nth vs k ≤ 1000000000000
theorem valB_iff (n : Nat) (vs : List Int) : valB n vs = true ↔ valP n vs := by
  simp only [valB, valP, Bool.and_eq_true, List.all_eq_true, List.mem_range, decide_eq_true_eq]
/-- The number at a place of a permutation, as a place. -/
def pAt (n x i : Nat) : Nat := (nth (apm n x) i).toNat
theorem pAt_is {n x i : Nat} (h1 : 1 ≤ n) (h7 : n ≤ 7) (hi : i < n) : nth (apm n x) i = (pAt n x i : Int) ∧ pAt n x i < n := by
  have h := (apm_P (i := x) h1 h7).2.2 i (by rw [apm_len h1 h7]; exact hi)
  have h2 := h.1
  have h3 := h.2.1
  rw [apm_len h1 h7] at h3
  unfold pAt
  omega
theorem pAt_ne {n x i j : Nat} (h1 : 1 ≤ n) (h7 : n ≤ 7) (hij : i ≠ j) (hi : i < n) (hj : j < n) : pAt n x i ≠ pAt n x j := fun e => by
  have hl := apm_len (i := x) h1 h7
  refine pp_ne' (apm_P (i := x) h1 h7) hij (by omega) (by omega) ?_
  rw [(pAt_is h1 h7 hi).1, (pAt_is h1 h7 hj).1, e]
/-- The place of what comes of an exchange. -/
def oAt (n x i j : Nat) : Nat := plcN (swapL (apm n x) i j) n n
theorem oAt_lt {n x i j : Nat} (h : n ≤ 5) : oAt n x i j < factN n := plc_lt h
def mulC (n : Nat) (vs ys : List Int) (x i j : Nat) : Bool := decide ((nth vs x - nth vs (oAt n x i j)).tmod (nth ys (pAt n x i) - nth ys (pAt n x j)) = 0)
def mulB (n : Nat) (vs ys : List Int) : Bool := (List.range (factN n)).all fun x => (List.range n).all fun j => (List.range j).all fun i => mulC n vs ys x i j
theorem mulB_iff (n : Nat) (vs ys : List Int) : mulB n vs ys = true ↔ ∀ x, x < factN n → ∀ i j, i < j → j < n → mulC n vs ys x i j = true := by
  simp only [mulB, List.all_eq_true, List.mem_range]
  exact ⟨fun h x hx i j hij hj => h x hx j hj i hij, fun h x hx j hj i hij => h x hx i j hij hj⟩
theorem mulB_no {n : Nat} {vs ys : List Int} {x i j : Nat} (hx : x < factN n) (hij : i < j) (hj : j < n) (h : mulC n vs ys x i j = false) : mulB n vs ys = false := by
  cases hb : mulB n vs ys with
  | false => rfl
  | true => have := (mulB_iff n vs ys).1 hb x hx i j hij hj; rw [h] at this; cases this
def gkmB (a : Int) (vs ys : List Int) : Bool := aptB a ys && valB a.toNat vs && mulB a.toNat vs ys
theorem fact24 {n : Nat} (h : n ≤ 4) : factN n ≤ 24 := Nat.le_trans (factN_mono h) (by decide)
theorem permL_li {n : Nat} : ∀ {m x : Nat}, x < m → li (permL n m) x = apm n x
  | 0, x, h => absurd h (by omega)
  | m + 1, x, h => by
    by_cases e : x = m
    · subst e
      rw [permL]
      have hl := permL_len n x
      have h : li (permL n x ++ [apm n x]) (permL n x).length = apm n x := li_app_at
      rwa [hl] at h
    · rw [permL, li_app_lt (by rw [permL_len]; omega)]
      exact permL_li (by omega)
theorem oAt_fill {n x i j : Nat} (h1 : 1 ≤ n) (h7 : n ≤ 7) (hij : i < j) (hj : j < n) : swapL (fillA (apm n x) n) i j = fillA (swapL (apm n x) i j) n := by
  have hl := apm_len (i := x) h1 h7
  have := fill_swapG (xs := apm n x) hij (by omega) (by omega)
  rwa [hl] at this
end Go.Proofs.Ytjpoliibljjhnaa

/-
  The document's AllPerms. No conditions.
-/



namespace Go.Proofs.Ytjpoliibljjhnaa
open Go.RowKit

set_option maxHeartbeats 2000000 in
theorem l8Perms_any (n : Nat) (w : World) (h1 : 1 ≤ n) (h5 : n ≤ 5) :
    Calls Try.prog 81 #[.int .i64 n] w fun e w' => FreshL w w' e (permL n (factN n)) := by
  have HN := Lib.hid (And.intro h1 h5)
  have HCT := Lib.hid (fun w => l1Factorial_any n w (by omega))
  have HF5 := Lib.hid (fact120 h5)
  have hwn : IntKind.i64.wrap ((n : Int) - 1) = (n : Int) - 1 := IntWalk.i64_in _ (by omega)
  obtain ⟨F, hF⟩ : ∃ F, F = factN n := ⟨_, rfl⟩
  rw [← hF] at HCT HF5 ⊢
  clear hF
  go_enter Try.func81, Try.ntmps81
  go_upto_region 2 with fail
  obtain ⟨w1, hw1⟩ : ∃ w1, w1 = w.alloc (.cells #[] 22) := ⟨_, rfl⟩
  have HE1 : Hid (OwnLE (fun _ => (none, 0, 0)) w1 w.heap.size w1.heap.size (some ⟨w.heap.size, 0, none⟩) 0 0 []) := Lib.hid (by rw [hw1]; exact OwnLE.empty _ w (Nat.le_refl _))
  have HB1 : Hid (Below w.heap.size w w1) := Lib.hid (by rw [hw1]; exact Below.alloc_self _ _)
  rw [← hw1]
  clear hw1
  go_wp2_with fail
  go_loopw [3, 4] (fun sv iv wr => ∃ (i : Nat) (A : Option Addr) (c : Nat) (E : Nat → Sv), i ≤ F ∧ iv = .int .i64 i ∧ sv = .slice A i c ∧ OwnLE E wr w.heap.size wr.heap.size A i c (permL n i) ∧ Below w.heap.size w wr)
    (fun _ iv _ => F - (intOf iv).toNat)
  case atStart => exact ⟨0, _, 0, _, Nat.zero_le _, rfl, rfl, HE1.out, HB1.out⟩
  case round =>
    obtain ⟨i, A, c, E, hi, rfl, rfl, hE, hbw⟩ := hrel
    have HE := Lib.hid hE
    have HB := Lib.hid hbw
    clear hE hbw HE1 HB1
    by_cases hlt : i < F
    · have hiI : (i : Int) < (F : Int) := by omega
      have hi120 : i ≤ 120 := by have := HF5.out; omega
      go_wp2_with (first
        | (go_at_call 171; (with_reducible refine (HCT.out _).mono ?_); rintro e w1 ⟨rfl, rfl⟩)
        | (at_make; refine wpList_make_zero rfl (.tmp 15) (.tmp 15) rfl n rfl rfl (by omega) ?_; intro w2 ho2 hb2; have HO2 := Lib.hid ho2; have HB2 := Lib.hid hb2; clear ho2 hb2))
      obtain ⟨wo, hwo⟩ : ∃ wo : World, wo = wr := ⟨_, rfl⟩
      obtain ⟨B, hB⟩ : ∃ B, B = wr.heap.size := ⟨_, rfl⟩
      rw [← hB] at HO2 HB2 HE ⊢
      have HBZ := Lib.hid hB
      have HO3 : Hid (Own w2 B (B + 1) (some ⟨B, 0, none⟩) n n (List.replicate n 0)) := Lib.hid ⟨HO2.out.1, fun k hk => by simp [Value.ownBlock] at hk; omega⟩
      have HZ3 : Hid (B + 1 ≤ w2.heap.size) := Lib.hid (by have := (HO2.out.lt B rfl).2; omega)
      have HD : Hid (dgt n n i (List.replicate n 0) = codeAt n i) := Lib.hid rfl
      rw [← hwo] at HE HB2 HB HBZ
      clear hB HO2 hwo
      go_loopw [6, 7] (fun rv jv wx => ∃ (k r : Nat) (j x : Int) (l : List Int), k ≤ n ∧ j = (k : Int) - 1 ∧ jv = .int .i64 j ∧ rv = .int .i64 x ∧ x = (r : Int) ∧ r ≤ 120 ∧ l.length = n ∧ dgt n k r l = codeAt n i ∧ Own wx B (B + 1) (some ⟨B, 0, none⟩) n n l ∧ Below B wo wx ∧ B + 1 ≤ wx.heap.size)
        (fun _ jv _ => (intOf jv + 1).toNat)
      case atStart => exact ⟨n, i, _, _, _, Nat.le_refl _, rfl, rfl, rfl, rfl, hi120, by simp, HD.out, HO3.out, HB2.out, HZ3.out⟩
      case round =>
        obtain ⟨k, r, j, x, l, hk, hj, rfl, rfl, hx, hr, hl, hd, hown, hbw, hz⟩ := hrel
        have HDk := Lib.hid hd
        have HOk := Lib.hid hown
        have HBk := Lib.hid hbw
        have HZk := Lib.hid hz
        have HLk := Lib.hid hl
        clear hd hbw hz HD HO3 HB2 HZ3 hl
        by_cases hk0 : k = 0
        · subst hk0
          have hj0 : ¬ (0 : Int) ≤ j := by omega
          have hj1 : ¬ j ≥ 0 := hj0
          obtain ⟨wz, hwz⟩ : ∃ wz : World, wz = wr := ⟨_, rfl⟩
          have HX := Lib.hid (show Own wr B (B + 1) (some ⟨B, 0, none⟩) n n (codeAt n i) from by have h := HDk.out; rw [dgt] at h; rw [← h]; exact HOk.out)
          have HPO := Lib.hid (l1Decode_any (some ⟨B, 0, none⟩) n n (codeAt n i) wr HX.out.si (by omega) (codeAt_ok n i))
          clear hj hx hown HDk HOk hwz
          go_wp2_with (first
            | (go_at_call 172; (with_reducible refine HPO.out.mono ?_); rintro e w3 ⟨ys, ⟨A3, n3, c3, rfl, ho3, hb3⟩, hdp⟩
               obtain rfl : ys = apm n i := by rw [apm_dec HN.out.1 (show n ≤ 7 by have := HN.out.2; omega)]; exact decL_uniq hdp
               have HO3 := Lib.hid ho3
               have HB3 : Hid (Below B wo w3) := Lib.hid (HBk.out.trans (hb3.mono (by have := HZk.out; omega)))
               have HS3 : Hid (B ≤ wr.heap.size ∧ wr.heap.size ≤ w3.heap.size ∧ w.heap.size ≤ B) := Lib.hid ⟨by have := HZk.out; omega, hb3.size, by have := HB.out.size; have := HBZ.out; omega⟩
               clear ho3 hb3 hdp)
            | (at_builtin; refine wpList_appendLE rfl (.tmp 37) (.tmp 40) rfl w.heap.size B A i c (permL n i) wr.heap.size w3.heap.size A3 n3 c3 (apm n i) rfl rfl (HE.out.below HB3.out (Nat.le_refl _)) HO3.out (by have := HS3.out; omega) (HE.out.apart_hi HO3.out HS3.out.1) (Nat.le_refl _) (by have := HS3.out; omega) (by have := HS3.out; omega) (by omega) ?_
               intro A4 c4 w4 he4 hat4 hg4 hb4
               have HE4 := Lib.hid he4
               have HB4 : Hid (Below w.heap.size w w4) := Lib.hid ((HB.out.trans (HB3.out.mono (by have := HS3.out; omega))).trans hb4)
               clear he4 hat4 hg4 hb4))
          go_roundw
          case rel => exact ⟨i + 1, A4, c4, _, by omega, by go_num, rfl, HE4.out, HB4.out⟩
          case measure => simp [intOf]; omega
        · obtain ⟨m, rfl⟩ : ∃ m, k = m + 1 := ⟨k - 1, by omega⟩
          obtain rfl : j = (m : Int) := by omega
          have hmI : (m : Int) < (n : Int) := by omega
          have h0 : (0 : Int) ≤ (m : Int) := by omega
          have h0' : (m : Int) ≥ 0 := h0
          obtain ⟨d, hd⟩ : ∃ d : Int, d = (n : Int) - (m : Int) := ⟨_, rfl⟩
          have hdn : d = ((n - m : Nat) : Int) := by omega
          have hw1 : IntKind.i64.wrap ((n : Int) - (m : Int)) = d := by rw [hd]; exact IntWalk.i64_in _ (by omega)
          have hd0 : ¬ d = 0 := by omega
          have hqr : r / (n - m) ≤ r := Nat.div_le_self _ _
          have htr : r % (n - m) ≤ r := Nat.mod_le _ _
          obtain ⟨q, hq⟩ : ∃ q : Int, q = ((r / (n - m) : Nat) : Int) := ⟨_, rfl⟩
          obtain ⟨t, ht⟩ : ∃ t : Int, t = ((r % (n - m) : Nat) : Int) := ⟨_, rfl⟩
          have hqb : 0 ≤ q ∧ q ≤ 120 := by rw [hq]; exact ⟨Int.natCast_nonneg _, by exact_mod_cast Nat.le_trans hqr hr⟩
          have htb : 0 ≤ t ∧ t ≤ 120 := by rw [ht]; exact ⟨Int.natCast_nonneg _, by exact_mod_cast Nat.le_trans htr hr⟩
          have hq1 : x.tdiv d = q := by rw [hq, hx, hdn]; exact Int.tdiv_eq_ediv_of_nonneg (by omega)
          have ht1 : x.tmod d = t := by rw [ht, hx, hdn]; exact Int.tmod_eq_emod_of_nonneg (by omega)
          have hw2 : IntKind.i64.wrap q = q := IntWalk.i64_in _ (by omega)
          have hw3 : IntKind.i64.wrap t = t := IntWalk.i64_in _ (by omega)
          have hw4 : IntKind.i64.wrap ((m : Int) - 1) = (m : Int) - 1 := IntWalk.i64_in _ (by omega)
          have hcc := hown.cellAt (k := m) (by omega)
          have hff := hown.frozenAt m
          have HSET := Lib.hid (hown.set_ (k := m) t).1
          have HDN : Hid (dgt n m (r / (n - m)) (l.set m t) = codeAt n i) := Lib.hid (by have h := HDk.out; rw [dgt] at h; rw [ht]; exact h)
          have HQ := Lib.hid (And.intro hq (show r / (n - m) ≤ 120 from Nat.le_trans hqr hr))
          have HM := Lib.hid (show m ≤ n by omega)
          clear hown hq ht hqr htr hqb htb hd hdn hx hj HDk HOk
          go_wp2
          go_roundw
          case rel => exact ⟨m, r / (n - m), _, _, _, HM.out, rfl, rfl, rfl, HQ.out.1, HQ.out.2, by simp [HLk.out], HDN.out, HSET.out, HBk.out.setCell (Nat.le_refl _) _, by simpa using HZk.out⟩
          case measure => simp [intOf]
    · have hiI : ¬ (i : Int) < (F : Int) := by omega
      obtain rfl : i = F := by omega
      go_wp2_with (go_at_call 171; (with_reducible refine (HCT.out _).mono ?_); rintro e w1 ⟨rfl, rfl⟩)
      go_ret
      exact ⟨A, i, c, rfl, ⟨E, HE.out⟩, HB.out⟩
end Go.Proofs.Ytjpoliibljjhnaa
