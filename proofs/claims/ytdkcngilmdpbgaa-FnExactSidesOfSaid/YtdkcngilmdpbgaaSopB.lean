/-
  ShapeOfPerm on both sides. Conditions: lengths below 2^40.
-/
import Derived.Test.YtdkcngilmdpbgaaSop
import Derived.Deep.RegionHeld3
namespace Go.Proofs.Ytdkcngilmdpbgaa
open Go.RowKit

/-- The lengths of the rows, of which there are j, of a permutation whose descent is at d. -/
def sopN (xs : List Int) (d j : Nat) : List Int := (List.range j).map fun (t : Nat) => nth xs (d - t) - ((d - t : Nat) : Int)
theorem sopN_len (xs : List Int) (d j : Nat) : (sopN xs d j).length = j := by simp [sopN]
theorem sopN_succ (xs : List Int) (d j : Nat) : sopN xs d (j + 1) = sopN xs d j ++ [nth xs (d - j) - ((d - j : Nat) : Int)] := by simp [sopN, List.range_succ]
theorem sopN_nth {xs : List Int} {d j t : Nat} (h : t < j) : nth (sopN xs d j) t = nth xs (d - t) - ((d - t : Nat) : Int) := by
  rw [nth_get (by rw [sopN_len]; exact h)]; simp [sopN]
def sopOk (xs : List Int) : Bool := decide ((descPerm xs).length = 1)
def sopD (xs : List Int) : Nat := (nth (descPerm xs) 0).toNat
def sopK (xs : List Int) : Int := if sopOk xs = true then (sopD xs : Int) + 1 else 0
def sopS (xs : List Int) : List Int := if sopOk xs = true then (sopN xs (sopD xs) (sopD xs + 1)).take (bareN (sopN xs (sopD xs) (sopD xs + 1)) (sopD xs + 1)) else []
theorem sop_no {xs : List Int} (h : sopOk xs = false) : sopK xs = 0 ∧ sopS xs = [] := by unfold sopK sopS; rw [h]; exact ⟨rfl, rfl⟩
theorem sop_yes {xs : List Int} (h : sopOk xs = true) {d : Nat} (hd : sopD xs = d) : sopK xs = (d : Int) + 1 ∧ sopS xs = (sopN xs d (d + 1)).take (bareN (sopN xs d (d + 1)) (d + 1)) := by subst hd; unfold sopK sopS; rw [h]; exact ⟨rfl, rfl⟩
theorem descL_inS {xs : List Int} : ∀ {n : Nat} {x : Int}, x ∈ descL xs n → ∃ k : Nat, k < n ∧ x = k ∧ nth xs (k + 1) < nth xs k
  | 0, x, h => by simp [descL] at h
  | n + 1, x, h => by
    by_cases hc : nth xs (n + 1) < nth xs n
    · rw [descL_hit hc] at h
      rcases List.mem_append.1 h with h | h
      · obtain ⟨k, h1, h2⟩ := descL_inS h; exact ⟨k, by omega, h2⟩
      · exact ⟨n, by omega, List.mem_singleton.1 h, hc⟩
    · rw [descL_miss hc] at h
      obtain ⟨k, h1, h2⟩ := descL_inS h; exact ⟨k, by omega, h2⟩
theorem descL_all {xs : List Int} : ∀ {n k : Nat}, k < n → nth xs (k + 1) < nth xs k → (k : Int) ∈ descL xs n
  | 0, k, h, _ => absurd h (by omega)
  | n + 1, k, h, hk => by
    by_cases hkn : k = n
    · subst hkn; rw [descL_hit hk]; simp
    · have := descL_all (n := n) (by omega) hk
      by_cases hc : nth xs (n + 1) < nth xs n
      · rw [descL_hit hc]; exact List.mem_append.2 (.inl this)
      · rw [descL_miss hc]; exact this
structure SopF (xs : List Int) (d : Nat) : Prop where
  perm : isPermP xs
  desc : descPerm xs = [(d : Int)]
  lt : d + 1 < xs.length
  up : ∀ i, i < d → nth xs i < nth xs (i + 1)
theorem sop_facts {xs : List Int} (h : sopOk xs = true) : ∃ d, sopD xs = d ∧ SopF xs d := by
  unfold sopOk at h
  have h1 : (descPerm xs).length = 1 := of_decide_eq_true h
  obtain ⟨x, hx⟩ : ∃ x, descPerm xs = [x] := by
    match hd : descPerm xs, h1 with
    | [x], _ => exact ⟨x, rfl⟩
  have hb : isPermB xs = true := by
    cases hb : isPermB xs with
    | true => rfl
    | false => rw [descPerm_no hb] at hx; cases hx
  have hp := isPermB_P hb
  have hdl := hx
  rw [descPerm_yes hb] at hdl
  obtain ⟨d, h2, rfl, h4⟩ := descL_inS (xs := xs) (n := xs.length - 1) (x := x) (by rw [hdl]; simp)
  refine ⟨d, by unfold sopD; rw [hx]; simp [nth], hp, hx, by omega, fun i hi => ?_⟩
  have hne : ¬ nth xs (i + 1) < nth xs i := fun hlt => by
    have := descL_all (xs := xs) (n := xs.length - 1) (k := i) (by omega) hlt
    rw [hdl] at this
    have := List.mem_singleton.1 this
    omega
  have hd : nth xs i ≠ nth xs (i + 1) := fun e => by
    have h5 := (hp.2.2 (i + 1) (by omega)).2.2
    simp only [hasB, decide_eq_false_iff_not] at h5
    apply h5
    rw [← e, ← nth_take (show i < i + 1 by omega), nth_get (by rw [List.length_take]; omega)]
    exact List.getElem_mem _
  omega
theorem sopS_small (xs : List Int) : (sopS xs).length ≤ 1099511627775 := by
  cases hu : sopOk xs with
  | false => rw [(sop_no hu).2]; simp
  | true =>
    obtain ⟨d, hd, hf⟩ := sop_facts hu
    rw [(sop_yes hu hd).2, List.length_take, sopN_len]
    have := hf.lt; have := hf.perm.2.1
    omega
theorem SopF.ge {xs : List Int} {d : Nat} (h : SopF xs d) : ∀ i, i ≤ d → (i : Int) ≤ nth xs i
  | 0, _ => (h.perm.range 0 (by have := h.lt; omega)).1
  | i + 1, hi => by have := h.ge i (by omega); have := h.up i (by omega); omega
theorem SopF.le7 {xs : List Int} {d : Nat} (h : SopF xs d) : d ≤ 5 ∧ ∀ i, i ≤ d → 0 ≤ nth xs i ∧ nth xs i ≤ 6 := by
  have := h.lt; have := h.perm.2.1
  exact ⟨by omega, fun i hi => by have := h.perm.range i (by omega); omega⟩
theorem SopF.nonneg {xs : List Int} {d : Nat} (h : SopF xs d) (j : Nat) : 0 ≤ nth (sopN xs d (d + 1)) j := by
  by_cases hj : j < d + 1
  · rw [sopN_nth hj]; have := h.ge (d - j) (by omega); omega
  · rw [nth_out (by rw [sopN_len]; omega)]; exact Int.le_refl _
theorem SopF.down {xs : List Int} {d : Nat} (h : SopF xs d) : ∀ i j, i ≤ j → nth (sopN xs d (d + 1)) j ≤ nth (sopN xs d (d + 1)) i := by
  have step : ∀ i, nth (sopN xs d (d + 1)) (i + 1) ≤ nth (sopN xs d (d + 1)) i := fun i => by
    by_cases hi : i + 1 < d + 1
    · rw [sopN_nth hi, sopN_nth (by omega)]
      have := h.up (d - (i + 1)) (by omega)
      rw [show d - (i + 1) + 1 = d - i by omega] at this
      omega
    · rw [nth_out (by rw [sopN_len]; omega)]; exact h.nonneg i
  intro i j hij
  induction j with
  | zero => obtain rfl : i = 0 := by omega
            exact Int.le_refl _
  | succ j ih =>
    by_cases hi : i = j + 1
    · subst hi; exact Int.le_refl _
    · exact Int.le_trans (step j) (ih (by omega))
/-- What a call that answers a list, a number and a Bool hands back. -/
def FreshIB (w w' : World) (e : Ending) (ys : List Int) (k : Int) (b : Bool) : Prop :=
  ∃ A n c, e = .returned (.tuple #[.slice A n c, .int .i64 k, .bool b]) ∧ Own w' w.heap.size w'.heap.size A n c ys ∧ Below w.heap.size w w'
theorem FreshIB.nil_ret {w w' : World} (h : Below w.heap.size w w') : FreshIB w w' (.returned (.tuple #[.slice none 0 0, .int .i64 0, .bool false])) [] 0 false := ⟨none, 0, 0, rfl, Own.nil _ _ _, h⟩
/-- The rows when i numbers are taken. -/
def rowP (xs : List Int) (d i : Nat) : List Int := (List.range 16).map fun (t : Nat) => if d < t + i ∧ t ≤ d then nth xs (d - t) - ((d - t : Nat) : Int) else 0
theorem rowP_len (xs : List Int) (d i : Nat) : (rowP xs d i).length = 16 := by simp [rowP]
theorem rowP_nth {xs : List Int} {d i t : Nat} (h : t < 16) : nth (rowP xs d i) t = if d < t + i ∧ t ≤ d then nth xs (d - t) - ((d - t : Nat) : Int) else 0 := by
  rw [nth_get (by rw [rowP_len]; exact h)]; simp [rowP]
theorem rowP_step {xs : List Int} {d i : Nat} (hd : d ≤ 15) (hi : i ≤ d) : (rowP xs d i).set (d - i) (nth xs i - (i : Int)) = rowP xs d (i + 1) := by
  refine list_ext_nth (by simp [rowP_len]) fun k hk => ?_
  have hk' : k < 16 := by simpa [rowP_len] using hk
  rw [nth_set _ (by rw [rowP_len]; omega), rowP_nth hk', rowP_nth hk']
  by_cases h : k = d - i
  · rw [if_pos h, if_pos (by omega), h, show d - (d - i) = i by omega]
  · rw [if_neg h]
    by_cases h2 : d < k + i ∧ k ≤ d
    · rw [if_pos h2, if_pos (by omega)]
    · rw [if_neg h2, if_neg (by omega)]
theorem rowP_zero (xs : List Int) (d : Nat) : arrD (rowP xs d 0) = zero16 := by
  have h : ∀ k, k < 16 → nth (rowP xs d 0) k = 0 := fun k hk => by rw [rowP_nth hk, if_neg (by omega)]
  simp only [arrD, h 0 (by omega), h 1 (by omega), h 2 (by omega), h 3 (by omega), h 4 (by omega), h 5 (by omega), h 6 (by omega), h 7 (by omega), h 8 (by omega), h 9 (by omega), h 10 (by omega), h 11 (by omega), h 12 (by omega), h 13 (by omega), h 14 (by omega), h 15 (by omega)]
theorem rowP_all {xs : List Int} {d : Nat} (hd : d ≤ 15) (k : Nat) : nth (rowP xs d (d + 1)) k = nth (sopN xs d (d + 1)) k := by
  by_cases hk : k < d + 1
  · rw [rowP_nth (by omega), sopN_nth hk, if_pos (by omega)]
  · rw [nth_out (xs := sopN xs d (d + 1)) (by rw [sopN_len]; omega)]
    by_cases h16 : k < 16
    · rw [rowP_nth h16, if_neg (by omega)]
    · rw [nth_out (by rw [rowP_len]; omega)]
theorem load_rows {w : World} {g : Nat} {l : List Int} (h : Blk w g 65 (arrD l)) : (loadVar 65 ⟨g, 0, none⟩).run Try.prog w = .ok (arr16 l) w :=
  run_loadVar_row w g 65 65 (arrD l) (0, 0) _ h Try.undRows rfl (by rw [Try.infoRows]; rfl)
set_option maxRecDepth 100000 in
set_option maxHeartbeats 1600000 in
theorem implSop_any (A : Option Addr) (n c : Nat) (xs : List Int) (w : World) (hs : SI w A n xs) (hn : n ≤ 1099511627776) :
    Calls Try.prog 61 #[.slice A n c] w fun e w' => FreshIB w w' e (sopS xs) (sopK xs) (sopOk xs) := by
  have HD := Lib.hid (implDescents_any A n c xs w hs hn)
  cases hu : sopOk xs with
  | false =>
    have HE := Lib.hid (sop_no hu)
    have HN : Hid ((descPerm xs).length ≠ 1) := Lib.hid (of_decide_eq_false hu)
    clear hu hs
    go_enter Try.func61, Try.ntmps61
    go_wp2_with (go_at_call 105
                 refine HD.out.mono ?_
                 rintro e w1 ⟨A1, n1, c1, rfl, ho1, hb1⟩
                 have hne : ((n1 : Int) == 1) = false := by have := ho1.len; have := HN.out; simp; omega
                 have HB1 := Lib.hid hb1
                 clear ho1 hb1)
    go_returns
    rw [HE.out.1, HE.out.2]
    exact FreshIB.nil_ret HB1.out
  | true =>
    obtain ⟨d, hd, hf⟩ := sop_facts hu
    have HE := Lib.hid (sop_yes hu hd)
    have HF := Lib.hid hf
    have hd5 := hf.le7.1
    have HR := Lib.hid hf.le7.2
    have hdn : d < n := by have := hf.lt; have := hs.1; omega
    have HDE := Lib.hid hf.desc
    have HS := Lib.hid hs
    clear hu hs hd hf
    go_enter Try.func61, Try.ntmps61
    go_upto_region 5 with (first
      | (go_at_call 105
         refine HD.out.mono ?_
         rintro e w1 ⟨A1, n1, c1, rfl, ho1, hb1⟩
         rw [HDE.out] at ho1
         obtain rfl : n1 = 1 := by have := ho1.len; simpa using this.symm
         obtain ⟨g1, rfl, hg1, hg2⟩ := ho1.place (by omega)
         have HC1 : Hid (w1.cell? ⟨g1, 0, none⟩ = some (.int .i64 d)) := Lib.hid (ho1.cellAt (k := 0) (by omega))
         have HB1 := Lib.hid hb1
         have HG2 := Lib.hid hg2
         clear ho1 hb1 hg1 hg2))
    obtain ⟨w2, hw2⟩ : ∃ w2, w2 = w1.alloc (.cells zero16 65) := ⟨_, rfl⟩
    obtain ⟨g, hg⟩ : ∃ g, g = w1.heap.size := ⟨_, rfl⟩
    have HB2 : Hid (Below w.heap.size w w2) := Lib.hid (by rw [hw2]; exact HB1.out.alloc HB1.out.size _)
    have HK2 : Hid (Blk w2 g 65 (arrD (rowP xs d 0))) := Lib.hid (by rw [hw2, hg, rowP_zero]; exact Blk.new _ _ _)
    have HC2 : Hid (w2.cell? ⟨g1, 0, none⟩ = some (.int .i64 d)) := Lib.hid (by rw [hw2]; exact (Below.cell (Below.alloc_self w1 _) (p := ⟨g1, 0, none⟩) HG2.out).trans HC1.out)
    have HG : Hid (g1 < g ∧ w.heap.size ≤ g) := Lib.hid ⟨by rw [hg]; exact HG2.out, by rw [hg]; exact HB1.out.size⟩
    rw [← hw2, ← hg]
    clear hw2 hg
    have hc1 := HC2.out
    have hwd : IntKind.i64.wrap ((d : Int) + 1) = (d : Int) + 1 := IntWalk.i64_in _ (by omega)
    go_wp2_with fail
    clear hc1
    go_loopw [17] (fun iv wr => ∃ i : Nat, i ≤ d + 1 ∧ iv = .int .i64 i ∧ Blk wr g 65 (arrD (rowP xs d i)) ∧ Below w.heap.size w wr ∧ wr.cell? ⟨g1, 0, none⟩ = some (.int .i64 d))
      (fun iv _ => d + 1 - (intOf iv).toNat)
    case atStart => exact ⟨0, Nat.zero_le _, rfl, HK2.out, HB2.out, HC2.out⟩
    case round =>
      obtain ⟨i, hi, rfl, hk, hb, hcd⟩ := hrel
      clear HK2 HB2 HC2
      have HK := Lib.hid hk
      have HB := Lib.hid hb
      have HCD := Lib.hid hcd
      clear hk hb
      by_cases hlt : i < d + 1
      · have hiI : (i : Int) < (d : Int) + 1 := by omega
        obtain ⟨b, o, rfl, hbb, hc⟩ := (HS.out.below HB.out (Nat.le_refl _)).at_ (by omega)
        have hc1 := hc i (by omega)
        have hr := HR.out i (by omega)
        have hstep := rowP_step (xs := xs) (d := d) (i := i) (by omega) (by omega)
        obtain ⟨x, hx⟩ : ∃ x, x = nth xs i := ⟨_, rfl⟩
        rw [← hx] at hc1 hr hstep
        obtain ⟨hr0, hr1⟩ := hr
        obtain ⟨t, ht⟩ : ∃ t, t = d - i := ⟨_, rfl⟩
        rw [← ht] at hstep
        have hti : (d : Int) - (i : Int) = (t : Int) := by omega
        have ht16 : t < 16 := by omega
        have hct : wr.cell? ⟨g, t, none⟩ = some (.int .i64 (nth (rowP xs d i) t)) := by rw [HK.out.cell, arrD_get _ _ ht16]
        have hft := HK.out.frozen t
        obtain ⟨wx, hwx⟩ : ∃ wx, wx = (wr.setCell ⟨g, t, none⟩ (.int .i64 (x - (i : Int)))).drew := ⟨_, rfl⟩
        have HFIN : Hid (Blk wx g 65 (arrD (rowP xs d (i + 1))) ∧ Below w.heap.size w wx ∧ wx.cell? ⟨g1, 0, none⟩ = some (.int .i64 d)) := Lib.hid (by
          rw [hwx]
          have h1 := HK.out.set_ t (.int .i64 (x - (i : Int)))
          rw [arrD_set _ _ ht16 _ (rowP_len _ _ _), hstep] at h1
          exact ⟨h1, (HB.out.setCell HG.out.2 _).drew, (Below.cell ((Below.refl g wr).setCell (p := ⟨g, t, none⟩) (Nat.le_refl _) (.int .i64 (x - (i : Int)))) (p := ⟨g1, 0, none⟩) HG.out.1).trans HCD.out⟩)
        have HWX := Lib.hid hwx
        clear hwx
        have hw1 : IntKind.i64.wrap ((d : Int) - (i : Int)) = (t : Int) := by rw [hti]; exact IntWalk.i64_in _ (by omega)
        have hw2 : IntKind.i64.wrap (x - (i : Int)) = x - (i : Int) := IntWalk.i64_in _ (by omega)
        have ht0 : (t : Int) < 16 := by omega
        have hinI : (i : Int) < (n : Int) := by omega
        clear hc hx hstep ht hti
        go_wp2_with fail
        go_region
        rw [← HWX.out]
        clear hcd hc1 hct hft hw1 hw2
        go_wp2
        go_roundw
        case rel => exact ⟨i + 1, by omega, by go_num, HFIN.out.1, HFIN.out.2.1, HFIN.out.2.2⟩
        case measure => simp [intOf]; omega
      · obtain rfl : i = d + 1 := by omega
        have hzI : ¬ ((d + 1 : Nat) : Int) < (d : Int) + 1 := by omega
        have hg1w : g1 < wr.heap.size := by have := HK.out.lt; have := HG.out.1; omega
        have hq0 : wr.drew.cell? ⟨g1, 0, none⟩ = some (.int .i64 d) := hcd
        have HK5 : Hid (Blk wr.drew g 65 (arrD (rowP xs d (d + 1)))) := Lib.hid HK.out
        obtain ⟨cs, hcs⟩ : ∃ cs : List Value, cs = (arrD (rowP xs d (d + 1))).toList := ⟨_, rfl⟩
        have hca : Value.agg cs.toArray = arr16 (rowP xs d (d + 1)) := by rw [hcs]
        have hcl : cs.length = 16 := by rw [hcs]; rfl
        have hrg : wr.drew.rangeAt g 0 cs := fun j v hj => by
          rw [Nat.zero_add]
          have := HK.out.cell j
          rw [hcs] at hj
          exact this.trans (by simpa using hj)
        have hif : (Try.prog.info? 65).map (·.size) = some cs.length := by rw [hcl]; exact Try.infoRows
        have hun := Try.undRows
        have CA : Calls Try.prog 68 #[.agg cs.toArray] wr.drew fun e w3 => ∃ A3 n3 c3, e = .returned (.slice A3 n3 c3) ∧ (w3.cell? ⟨g1, 0, none⟩ = some (.int .i64 d) ∧ w3.rangeAt g 0 cs) ∧ Hid (Own w3 w.heap.size w3.heap.size A3 n3 c3 ((sopN xs d (d + 1)).take (bareN (sopN xs d (d + 1)) (d + 1)))) ∧ Hid (Below w.heap.size w w3) := by
          rw [hca]
          refine (rowsShape_any _ wr.drew (rowP_len _ _ _)).mono ?_
          rintro e w3 ⟨q, hq16, hqp, hqe, A3, n3, c3, rfl, ho3, hb3⟩
          have hqq : q = bareN (sopN xs d (d + 1)) (d + 1) := bare_one (sopN_len _ _ _) HF.out.nonneg HF.out.down (fun j hj => by rw [← rowP_all (by omega)]; exact hqp j hj) (by
            rcases hqe with h | h
            · subst h; rw [nth_out (by rw [sopN_len]; omega)]; decide
            · rw [← rowP_all (by omega)]; exact h)
          have htk : (rowP xs d (d + 1)).take q = (sopN xs d (d + 1)).take q := by
            have hqd : q ≤ d + 1 := by rw [hqq]; exact bareN_le _ _
            refine list_ext_nth (by rw [List.length_take, List.length_take, rowP_len, sopN_len]; omega) fun k hk => ?_
            have hkq : k < q := by rw [List.length_take] at hk; omega
            rw [nth_take hkq, nth_take hkq, rowP_all (by omega)]
          rw [htk, hqq] at ho3
          exact ⟨A3, n3, c3, rfl, ⟨(Below.cell hb3 (p := ⟨g1, 0, none⟩) hg1w).trans hq0, fun j v hj => (Below.cell hb3 (p := ⟨g, 0 + j, none⟩) HK.out.lt).trans (hrg j v hj)⟩, Lib.hid (ho3.wide HB.out.size (Nat.le_refl _)), Lib.hid (HB.out.drew.trans (hb3.mono HB.out.size))⟩
        have HCA := Lib.hid CA
        have hwd1 : IntKind.i64.wrap ((d : Int) + 1) = (d : Int) + 1 := IntWalk.i64_in _ (by omega)
        clear CA hcs hca hcl
        go_wp2_with fail
        go_region_held3 (fun w' => w'.cell? ⟨g1, 0, none⟩ = some (.int .i64 d) ∧ w'.rangeAt g 0 cs)
          (first | go_keep | exact ⟨hq0, hrg⟩ | exact K5)
          (first
            | (go_at_call 68
               with_reducible refine HCA.out.mono ?_
               rintro e w3 ⟨A3, n3, c3, rfl, K5, ho3, hb3⟩))
        go_wp2
        go_returns
        rw [HE.out.1, HE.out.2]
        exact ⟨A3, n3, c3, rfl, ho3.out, hb3.out⟩
end Go.Proofs.Ytdkcngilmdpbgaa
