/-
  A number inserted into a tableau, on the program's side: the pieces. Conditions: lengths below 2^40.
-/
import Derived.Test.YtfaegfhbbkicgaaInsM
import Derived.Test.YtfaegfhbbkicgaaImplA
import Derived.Deep.Cut
namespace Go.Proofs.Ytfaegfhbbkicgaa
open Go.RowKit

theorem insFn_any (x y : Int) (g : Nat) (w : World) (hk : w.cell? ⟨g, 0, none⟩ = some (.int .i64 x)) :
    Calls Try.prog 149 #[.int .i64 y, .pointer (some ⟨g, 0, none⟩)] w fun e w' => e = .returned (.bool (decide (x < y))) ∧ w = w' := by
  by_cases h : x < y
  · go_enter Try.func149, Try.ntmps149
    go_wp2
    go_ret
    exact ⟨ret_bool (by simp [h]), rfl⟩
  · go_enter Try.func149, Try.ntmps149
    go_wp2
    go_ret
    exact ⟨ret_bool (by simp [h]), rfl⟩
set_option maxHeartbeats 800000 in
theorem indexIns_any (A : Option Addr) (n c : Nat) (xs : List Int) (x : Int) (g : Nat) (w : World) (hs : SI w A n xs) (hn : n ≤ 1099511627776) (hk : w.cell? ⟨g, 0, none⟩ = some (.int .i64 x)) :
    Calls Try.prog 138 #[.slice A n c, .func (.func 149) #[] #[.pointer (some ⟨g, 0, none⟩)]] w fun r w' =>
      ∃ i : Int, r = .returned (.int .i64 i) ∧ (gtN xs x = n ∧ i = -1 ∨ gtN xs x < n ∧ i = (gtN xs x : Int)) ∧ Drawn w w' := by
  have HF : Hid (∀ w', Drawn w w' → ∀ y, Calls Try.prog 149 #[.int .i64 y, .pointer (some ⟨g, 0, none⟩)] w' fun e w2 => e = .returned (.bool (decide (x < y))) ∧ w' = w2) := Lib.hid (fun w' hd y => insFn_any x y g w' (by obtain ⟨m, rfl⟩ := hd; exact hk))
  clear hk
  go_enter Try.func138, Try.ntmps138
  go_wp2
  go_loopw [8] (fun i wr => ∃ k : Nat, k ≤ n ∧ i = .int .i64 k ∧ Drawn w wr ∧ ∀ j, j < k → nth xs j ≤ x)
    (fun i _ => n - (intOf i).toNat)
  case atStart => exact ⟨0, Nat.zero_le _, rfl, Drawn.refl _, fun j hj => absurd hj (by omega)⟩
  case round =>
    obtain ⟨k, hk, rfl, hD, hall⟩ := hrel
    have HA := Lib.hid hall
    have HDR := Lib.hid hD
    have HL := Lib.hid hs.1
    have hs := hD.si hs
    clear hall hD
    by_cases hlt : k < n
    · have hlI : (k : Int) < (n : Int) := by omega
      obtain ⟨b, o, rfl, hb, hc⟩ := hs.at_ (by omega)
      have hc1 := hc k hlt
      obtain ⟨y, hy⟩ : ∃ y, y = nth xs k := ⟨_, rfl⟩
      rw [← hy] at hc1
      have HY := Lib.hid hy
      clear hc hy hs
      by_cases hg : x < y
      · have HG := Lib.hid hg
        have HF2 := Lib.hid (HF.out wr HDR.out y)
        rw [decide_eq_true hg] at HF2
        clear hg
        go_wp2_with (go_at_call 149; refine HF2.out.mono ?_; rintro r w2 ⟨rfl, rfl⟩)
        go_ret
        have hgt : gtN xs x = k := gtN_is xs k (by rw [HL.out]; omega) HA.out (.inr (by rw [← HY.out]; have := HG.out; omega))
        exact ⟨(k : Int), rfl, .inr ⟨by omega, by rw [hgt]⟩, HDR.out⟩
      · have HG := Lib.hid hg
        have HF2 := Lib.hid (HF.out wr HDR.out y)
        rw [decide_eq_false hg] at HF2
        clear hg
        go_wp2_with (go_at_call 149; refine HF2.out.mono ?_; rintro r w2 ⟨rfl, rfl⟩)
        go_roundw
        case rel => exact ⟨k + 1, by omega, by go_num, HDR.out, fun j hj => by
          rcases Nat.lt_or_ge j k with h | h
          · exact HA.out j h
          · obtain rfl : j = k := by omega
            rw [← HY.out]; have := HG.out; omega⟩
        case measure => simp [intOf]; omega
    · have hkn : k = n := by omega
      subst hkn
      go_wp2
      go_ret
      exact ⟨-1, rfl, .inl ⟨gtN_is xs k (by rw [HL.out]; exact Nat.le_refl _) HA.out (.inl HL.out.symm), rfl⟩, HDR.out⟩
set_option maxHeartbeats 1600000 in
theorem insRow_end (A : Option Addr) (n c : Nat) (xs : List Int) (x : Int) (lo : Nat) (w : World) (ho : Own w lo w.heap.size A n c xs) (hlo : lo ≤ w.heap.size) (hn : n ≤ 1099511627776) (hgt : gtN xs x = n) :
    Calls Try.prog 89 #[.slice A n c, .int .i64 x] w fun e w' => ∃ A2 c2 wm, e = .returned (.tuple #[.slice A2 (n + 1) c2, .int .i64 0, .bool false]) ∧ Own w' lo w'.heap.size A2 (n + 1) c2 (xs ++ [x]) ∧ Below w.heap.size w wm ∧ wm.grownBy w' (rowB A) ∧ (rowB A2 = rowB A ∨ ∃ q, rowB A2 = some q ∧ wm.heap.size ≤ q) := by
  obtain ⟨w1, hw1⟩ : ∃ w1, w1 = w.alloc (.cells #[.int .i64 x] 3) := ⟨_, rfl⟩
  obtain ⟨g, hg⟩ : ∃ g, g = w.heap.size := ⟨_, rfl⟩
  have hk : Blk w1 g 3 #[.int .i64 x] := by rw [hw1, hg]; exact Blk.new _ _ _
  have ho1 : Own w1 lo w.heap.size A n c xs := by rw [hw1]; exact ho.below ((Below.refl w.heap.size w).alloc (Nat.le_refl _) _) (Nat.le_refl _)
  have hgr : Below w.heap.size w w1 := by rw [hw1]; exact (Below.refl w.heap.size w).alloc (Nat.le_refl _) _
  have HIX := Lib.hid (indexIns_any A n c xs x g w1 ho1.si hn (hk.cell 0))
  have HK := Lib.hid hk
  have HO1 := Lib.hid ho1
  have HGR := Lib.hid hgr
  have HSZ := Lib.hid hgr.size
  have HGT := Lib.hid hgt
  have HW := Lib.hid hw1
  have HG := Lib.hid hg
  clear hk ho1 hgr hgt ho hw1 hg
  have hmf : ∀ (fn : Fn) (first cap : Array Value) (w : World), (Instr.makeFunc fn first cap).run Try.prog w = .ok (.func fn first cap) w := fun _ _ _ _ => rfl
  go_enter Try.func89, Try.ntmps89
  go_upto_region 1 with fail
  rw [← HW.out, ← HG.out]
  go_upto_region 2 with (go_at_call 138; refine HIX.out.mono ?_; rintro e w2 ⟨i, rfl, hi, hd⟩; obtain rfl : i = -1 := (by have := HGT.out; omega); have HD := Lib.hid hd; clear hi hd)
  have hc2 : w2.cell? ⟨g, 0, none⟩ = some (.int .i64 x) := (HK.out.drawn HD.out).cell 0
  have HO2 := Lib.hid (HO1.out.drawn HD.out)
  have HLO : Hid (lo ≤ w2.heap.size) := Lib.hid (by have := HSZ.out; have := (HD.out.below w1.heap.size).size; omega)
  have HZ2 : Hid (w.heap.size ≤ w2.heap.size) := Lib.hid (by have := HSZ.out; have := (HD.out.below w1.heap.size).size; omega)
  have HG2 : Hid (Below w.heap.size w w2) := Lib.hid (HGR.out.trans (HD.out.below _))
  go_wp2_with (at_builtin; refine wpList_append_keep rfl (.tmp 14) (.tmp 16) rfl lo w.heap.size A n c xs x rfl rfl HO2.out HLO.out hn ?_
               intro B' d' w3 ho3 hg3 hat3
               have HO3 := Lib.hid ho3
               have HG3 := Lib.hid hg3
               have HAT := Lib.hid hat3
               clear ho3 hg3 hat3)
  go_returns
  refine ⟨B', d', w2, rfl, HO3.out, HG2.out, HG3.out, ?_⟩
  rcases HAT.out with ⟨h, _⟩ | ⟨q, h, hq, _⟩
  · left; rw [h]
  · right; exact ⟨q, by rw [h]; rfl, hq⟩
set_option maxHeartbeats 1600000 in
theorem insRow_mid (A : Option Addr) (n c : Nat) (xs : List Int) (x : Int) (lo : Nat) (w : World) (ho : Own w lo w.heap.size A n c xs) (_hlo : lo ≤ w.heap.size) (hn : n ≤ 1099511627776) (hgt : gtN xs x < n) :
    Calls Try.prog 89 #[.slice A n c, .int .i64 x] w fun e w' => e = .returned (.tuple #[.slice A n c, .int .i64 (nth xs (gtN xs x)), .bool true]) ∧ Own w' lo w'.heap.size A n c (xs.set (gtN xs x) x) ∧ ∃ wm, Below w.heap.size w wm ∧ wm.grownBy w' (rowB A) := by
  obtain ⟨w1, hw1⟩ : ∃ w1, w1 = w.alloc (.cells #[.int .i64 x] 3) := ⟨_, rfl⟩
  obtain ⟨g, hg⟩ : ∃ g, g = w.heap.size := ⟨_, rfl⟩
  have hk : Blk w1 g 3 #[.int .i64 x] := by rw [hw1, hg]; exact Blk.new _ _ _
  have ho1 : Own w1 lo w.heap.size A n c xs := by rw [hw1]; exact ho.below ((Below.refl w.heap.size w).alloc (Nat.le_refl _) _) (Nat.le_refl _)
  have hgr : Below w.heap.size w w1 := by rw [hw1]; exact (Below.refl w.heap.size w).alloc (Nat.le_refl _) _
  obtain ⟨k, hkk⟩ : ∃ k, k = gtN xs x := ⟨_, rfl⟩
  have HIX := Lib.hid (indexIns_any A n c xs x g w1 ho1.si hn (hk.cell 0))
  rw [← hkk] at hgt HIX ⊢
  obtain ⟨gr, rfl, hg1, hg2⟩ := ho1.place (by omega)
  have HK := Lib.hid hk
  have HO1 := Lib.hid ho1
  have HGR := Lib.hid hgr
  have HSZ := Lib.hid hgr.size
  have HW := Lib.hid hw1
  have HG := Lib.hid hg
  have HR1 := Lib.hid hg1
  have HR2 := Lib.hid hg2
  clear hk ho1 hgr ho hw1 hg hkk hg1 hg2
  have hkI : (k : Int) < (n : Int) := by omega
  have hk0 : ¬ (k : Int) < 0 := by omega
  have hmf : ∀ (fn : Fn) (first cap : Array Value) (w : World), (Instr.makeFunc fn first cap).run Try.prog w = .ok (.func fn first cap) w := fun _ _ _ _ => rfl
  go_enter Try.func89, Try.ntmps89
  go_upto_region 1 with fail
  rw [← HW.out, ← HG.out]
  go_upto_region 2 with (go_at_call 138; refine HIX.out.mono ?_; rintro e w2 ⟨i, rfl, hi, hd⟩; obtain rfl : i = (k : Int) := (by omega); have HD := Lib.hid hd; clear hi hd)
  have hc2 : w2.cell? ⟨g, 0, none⟩ = some (.int .i64 x) := (HK.out.drawn HD.out).cell 0
  have hOr := HO1.out.drawn HD.out
  have hck := hOr.cellAt hgt
  have hfz := hOr.frozenAt k
  obtain ⟨hset, hgrw⟩ := hOr.set_ (k := k) x
  obtain ⟨y, hy⟩ : ∃ y, y = nth xs k := ⟨_, rfl⟩
  rw [← hy] at hck
  have HY := Lib.hid hy
  have HST := Lib.hid hset
  have HGW := Lib.hid hgrw
  have HZ2 : Hid (w.heap.size ≤ w2.heap.size) := Lib.hid (by have := HSZ.out; have := (HD.out.below w1.heap.size).size; omega)
  have HG2 : Hid (Below w.heap.size w w2) := Lib.hid (HGR.out.trans (HD.out.below _))
  clear hy hset hgrw hOr
  go_wp2
  go_returns
  refine ⟨by rw [HY.out]; rfl, HST.out.wide (Nat.le_refl _) (by have := HZ2.out; simpa using this), w2, HG2.out, HGW.out⟩
end Go.Proofs.Ytfaegfhbbkicgaa
