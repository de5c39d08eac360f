/-
  ShapeOfPerm on both sides. Conditions: lengths below 2^40.
-/
import Derived.Test.YtbjnjccolapehaaSop
import Derived.Deep.RegionHeld3
namespace Go.Proofs.Ytbjnjccolapehaa
open Go.RowKit

/-- The lengths of the rows, of which there are j, of a permutation whose descent is at d. -/
def sopN (xs : List Int) (d j : Nat) : List Int := (List.range j).map fun (t : Nat) => nth xs (d - t) - ((d - t : Nat) : Int)
theorem sopN_len (xs : List Int) (d j : Nat) : (sopN xs d j).length = j := by simp [sopN]
theorem sopN_succ (xs : List Int) (d j : Nat) : sopN xs d (j + 1) = sopN xs d j ++ [nth xs (d - j) - ((d - j : Nat) : Int)] := by simp [sopN, List.range_succ]
theorem sopN_nth {xs : List Int} {d j t : Nat} (h : t < j) : nth (sopN xs d j) t = nth xs (d - t) - ((d - t : Nat) : Int) := by
  rw [nth_get (by rw [sopN_len]; exact h)]; simp [sopN]
def sopOk (xs : List Int) : Bool := decide ((descPerm xs).length = 1)
def sopD (xs : List Int) : Nat := (nth (descPerm xs) 0).toNat
def sopK (xs : List Int) : Int := if sopOk xs = true then (sopD xs : Int) + 1 else 0
def sopS (xs : List Int) : List Int := if sopOk xs = true then (sopN xs (sopD xs) (sopD xs + 1)).take (bareN (sopN xs (sopD xs) (sopD xs + 1)) (sopD xs + 1)) else []
theorem sop_no {xs : List Int} (h : sopOk xs = false) : sopK xs = 0 ∧ sopS xs = [] := by unfold sopK sopS; rw [h]; exact ⟨rfl, rfl⟩
theorem sop_yes {xs : List Int} (h : sopOk xs = true) {d : Nat} (hd : sopD xs = d) : sopK xs = (d : Int) + 1 ∧ sopS xs = (sopN xs d (d + 1)).take (bareN (sopN xs d (d + 1)) (d + 1)) := by subst hd; unfold sopK sopS; rw [h]; exact ⟨rfl, rfl⟩
theorem descL_inS {xs : List Int} : ∀ {n : Nat} {x : Int}, x ∈ descL xs n → ∃ k : Nat, k < n ∧ x = k ∧ nth xs (k + 1) < nth xs k
  | 0, x, h => by simp [descL] at h
  | n + 1, x, h => by
    by_cases hc : nth xs (n + 1) < nth xs n
    · rw [descL_hit hc] at h
      rcases List.mem_append.1 h with h | h
      · obtain ⟨k, h1, h2⟩ := descL_inS h; exact ⟨k, by omega, h2⟩
      · exact ⟨n, by omega, List.mem_singleton.1 h, hc⟩
    · rw [descL_miss hc] at h
      obtain ⟨k, h1, h2⟩ := descL_inS h; exact ⟨k, by omega, h2⟩
theorem descL_all {xs : List Int} : ∀ {n k : Nat}, k < n → nth xs (k + 1) < nth xs k → (k : Int) ∈ descL xs n
  | 0, k, h, _ => absurd h (by omega)
  | n + 1, k, h, hk => by
    by_cases hkn : k = n
    · subst hkn; rw [descL_hit hk]; simp
    · have := descL_all (n := n) (by omega) hk
      by_cases hc : nth xs (n + 1) < nth xs n
      · rw [descL_hit hc]; exact List.mem_append.2 (.inl this)
      · rw [descL_miss hc]; exact this
structure SopF (xs : List Int) (d : Nat) : Prop where
  perm : isPermP xs
  desc : descPerm xs = [(d : Int)]
  lt : d + 1 < xs.length
  up : ∀ i, i < d → nth xs i < nth xs (i + 1)
theorem sop_facts {xs : List Int} (h : sopOk xs = true) : ∃ d, sopD xs = d ∧ SopF xs d := by
  unfold sopOk at h
  have h1 : (descPerm xs).length = 1 := of_decide_eq_true h
  obtain ⟨x, hx⟩ : ∃ x, descPerm xs = [x] := by
    match hd : descPerm xs, h1 with
    | [x], _ => exact ⟨x, rfl⟩
  have hb : isPermB xs = true := by
    cases hb : isPermB xs with
    | true => rfl
    | false => rw [descPerm_no hb] at hx; cases hx
  have hp := isPermB_P hb
  have hdl := hx
  rw [descPerm_yes hb] at hdl
  obtain ⟨d, h2, rfl, h4⟩ := descL_inS (xs := xs) (n := xs.length - 1) (x := x) (by rw [hdl]; simp)
  refine ⟨d, by unfold sopD; rw [hx]; simp [nth], hp, hx, by omega, fun i hi => ?_⟩
  have hne : ¬ nth xs (i + 1) < nth xs i := fun hlt => by
    have := descL_all (xs := xs) (n := xs.length - 1) (k := i) (by omega) hlt
    rw [hdl] at this
    have := List.mem_singleton.1 this
    omega
  have hd : nth xs i ≠ nth xs (i + 1) := fun e => by
    have h5 := (hp.2.2 (i + 1) (by omega)).2.2
    simp only [hasB, decide_eq_false_iff_not] at h5
    apply h5
    rw [← e, ← nth_take (show i < i + 1 by omega), nth_get (by rw [List.length_take]; omega)]
    exact List.getElem_mem _
  omega
theorem sopS_small (xs : List Int) : (sopS xs).length ≤ 1099511627775 := by
  cases hu : sopOk xs with
  | false => rw [(sop_no hu).2]; simp
  | true =>
    obtain ⟨d, hd, hf⟩ := sop_facts hu
    rw [(sop_yes hu hd).2, List.length_take, sopN_len]
    have := hf.lt; have := hf.perm.2.1
    omega
theorem SopF.ge {xs : List Int} {d : Nat} (h : SopF xs d) : ∀ i, i ≤ d → (i : Int) ≤ nth xs i
  | 0, _ => (h.perm.range 0 (by have := h.lt; omega)).1
  | i + 1, hi => by have := h.ge i (by omega); have := h.up i (by omega); omega
theorem SopF.le7 {xs : List Int} {d : Nat} (h : SopF xs d) : d ≤ 5 ∧ ∀ i, i ≤ d → 0 ≤ nth xs i ∧ nth xs i ≤ 6 := by
  have := h.lt; have := h.perm.2.1
  exact ⟨by omega, fun i hi => by have := h.perm.range i (by omega); omega⟩
theorem SopF.nonneg {xs : List Int} {d : Nat} (h : SopF xs d) (j : Nat) : 0 ≤ nth (sopN xs d (d + 1)) j := by
  by_cases hj : j < d + 1
  · rw [sopN_nth hj]; have := h.ge (d - j) (by omega); omega
  · rw [nth_out (by rw [sopN_len]; omega)]; exact Int.le_refl _
theorem SopF.down {xs : List Int} {d : Nat} (h : SopF xs d) : ∀ i j, i ≤ j → nth (sopN xs d (d + 1)) j ≤ nth (sopN xs d (d + 1)) i := by
  have step : ∀ i, nth (sopN xs d (d + 1)) (i + 1) ≤ nth (sopN xs d (d + 1)) i := fun i => by
    by_cases hi : i + 1 < d + 1
    · rw [sopN_nth hi, sopN_nth (by omega)]
      have := h.up (d - (i + 1)) (by omega)
      rw [show d - (i + 1) + 1 = d - i by omega] at this
      omega
    · rw [nth_out (by rw [sopN_len]; omega)]; exact h.nonneg i
  intro i j hij
  induction j with
  | zero => obtain rfl : i = 0 := by omega
            exact Int.le_refl _
  | succ j ih =>
    by_cases hi : i = j + 1
    · subst hi; exact Int.le_refl _
    · exact Int.le_trans (step j) (ih (by omega))
/-- What a call that answers a list, a number and a Bool hands back. -/
def FreshIB (w w' : World) (e : Ending) (ys : List Int) (k : Int) (b : Bool) : Prop :=
  ∃ A n c, e = .returned (.tuple #[.slice A n c, .int .i64 k, .bool b]) ∧ Own w' w.heap.size w'.heap.size A n c ys ∧ Below w.heap.size w w'
theorem FreshIB.nil_ret {w w' : World} (h : Below w.heap.size w w') : FreshIB w w' (.returned (.tuple #[.slice none 0 0, .int .i64 0, .bool false])) [] 0 false := ⟨none, 0, 0, rfl, Own.nil _ _ _, h⟩
set_option maxHeartbeats 1600000 in
theorem specSop_any (A : Option Addr) (n c : Nat) (xs : List Int) (w : World) (hs : SI w A n xs) (hnc : n ≤ c) (hn : n ≤ 1099511627776) :
    Calls Try.prog 5 #[.slice A n c] w fun e w' => FreshIB w w' e (sopS xs) (sopK xs) (sopOk xs) := by
  have HD := Lib.hid (specDescents_any A n c xs w hs hnc hn)
  cases hu : sopOk xs with
  | false =>
    have HE := Lib.hid (sop_no hu)
    have HN : Hid ((descPerm xs).length ≠ 1) := Lib.hid (of_decide_eq_false hu)
    clear hu hs
    go_enter Try.func5, Try.ntmps5
    go_wp2_with (go_at_call 22
                 refine HD.out.mono ?_
                 rintro e w1 ⟨A1, n1, c1, rfl, ho1, hb1⟩
                 have hne : ((n1 : Int) == 1) = false := by have := ho1.len; have := HN.out; simp; omega
                 have HB1 := Lib.hid hb1
                 clear ho1 hb1)
    go_returns
    rw [HE.out.1, HE.out.2]
    exact FreshIB.nil_ret HB1.out
  | true =>
    obtain ⟨d, hd, hf⟩ := sop_facts hu
    have HE := Lib.hid (sop_yes hu hd)
    have HF := Lib.hid hf
    have hd5 := hf.le7.1
    have HR := Lib.hid hf.le7.2
    have hdn : d < n := by have := hf.lt; have := hs.1; omega
    have HDE := Lib.hid hf.desc
    have HS := Lib.hid hs
    clear hu hs hd hf
    go_enter Try.func5, Try.ntmps5
    go_wp2_with (go_at_call 22
                 refine HD.out.mono ?_
                 rintro e w1 ⟨A1, n1, c1, rfl, ho1, hb1⟩
                 rw [HDE.out] at ho1
                 obtain rfl : n1 = 1 := by have := ho1.len; simpa using this.symm
                 obtain ⟨g1, rfl, hg1, hg2⟩ := ho1.place (by omega)
                 have hc1 : w1.cell? ⟨g1, 0, none⟩ = some (.int .i64 d) := ho1.cellAt (k := 0) (by omega)
                 have HB1 := Lib.hid hb1
                 have hwd : IntKind.i64.wrap ((d : Int) + 1) = (d : Int) + 1 := IntWalk.i64_in _ (by omega)
                 have hwd2 : IntKind.i64.wrap ((d : Int) + 1 - 1) = (d : Int) := by rw [show (d : Int) + 1 - 1 = (d : Int) by omega]; exact IntWalk.i64_in _ (by omega)
                 clear ho1 hb1 hg1 hg2)
    go_loopw [7, 8] (fun ov iv wr => ∃ (j : Nat) (Ao : Option Addr) (co : Nat), j ≤ d + 1 ∧ iv = .int .i64 ((d : Int) - (j : Int)) ∧ ov = .slice Ao j co ∧ Own wr w.heap.size wr.heap.size Ao j co (sopN xs d j) ∧ Below w.heap.size w wr ∧ (0 < j → Ao ≠ none))
      (fun _ iv _ => (intOf iv + 1).toNat)
    case atStart => exact ⟨0, _, _, Nat.zero_le _, by first | (simp; done) | (simp [hwd2]), rfl, (Own.empty w1).wide HB1.out.size (by simp), HB1.out.alloc HB1.out.size _, fun h => absurd h (by omega)⟩
    case round =>
      obtain ⟨j, Ao, co, hj, rfl, rfl, hown, hbw, hne⟩ := hrel
      have HO := Lib.hid hown
      have HB := Lib.hid hbw
      have HNE := Lib.hid hne
      clear hown hbw hne hc1
      by_cases hlt : j < d + 1
      · have HSU := Lib.hid (sopN_succ xs d j)
        obtain ⟨i, hi⟩ : ∃ i, i = d - j := ⟨_, rfl⟩
        have hij : (d : Int) - (j : Int) = (i : Int) := by omega
        rw [← hi] at HSU
        rw [hij]
        obtain ⟨b, o, rfl, hb, hc⟩ := (HS.out.below HB.out (Nat.le_refl _)).at_ (by omega)
        have hc1 := hc i (by omega)
        have hr := HR.out i (by omega)
        obtain ⟨x, hx⟩ : ∃ x, x = nth xs i := ⟨_, rfl⟩
        rw [← hx] at hc1 hr HSU
        obtain ⟨hr0, hr1⟩ := hr
        have hw1 : IntKind.i64.wrap (x - (i : Int)) = x - (i : Int) := IntWalk.i64_in _ (by omega)
        have hinI : (i : Int) < (n : Int) := by omega
        have HIE := Lib.hid hi
        have HIJ := Lib.hid hij
        clear hc hx hi hij
        go_wp2_with (at_builtin; refine wpList_append1 rfl (.tmp 25) (.tmp 32) rfl w.heap.size Ao j co (sopN xs d j) (x - (i : Int)) rfl rfl HO.out HB.out.size (by omega) ?_; intro A' c' w5 ho5 _ hb5)
        have HIM : Hid (wrap64 ((i : Int) - 1) = (d : Int) - ((j + 1 : Nat) : Int)) := Lib.hid (by have := HIJ.out; unfold wrap64; omega)
        go_roundw
        case rel => exact ⟨j + 1, A', c', by omega, by first | rw [HIM.out] | rw [show (i : Int) - 1 = (d : Int) - ((j + 1 : Nat) : Int) by have := HIJ.out; omega], rfl, by rw [HSU.out]; exact ho5, HB.out.trans hb5, fun _ => by obtain ⟨g', e, _⟩ := ho5.place (by omega); rw [e]; simp⟩
        case measure => simp only [intOf]; have := HIM.out; have := HIJ.out; omega
      · obtain rfl : j = d + 1 := by omega
        have hneg : (d : Int) - ((d + 1 : Nat) : Int) = -1 := by omega
        rw [hneg]
        have HBA := Lib.hid (l4Bare_any Ao (d + 1) co (sopN xs d (d + 1)) wr HO.out.si HO.out.cap (HNE.out (by omega)) (by omega))
        obtain ⟨q, hq⟩ : ∃ q, q = d + 1 := ⟨_, rfl⟩
        rw [← hq] at HBA HE ⊢
        have HQ := Lib.hid hq
        clear hq
        go_wp2_with (go_at_call 23; refine HBA.out.mono ?_; rintro e w5 ⟨A5, n5, c5, rfl, ho5, hb5⟩; have HO5 := Lib.hid ho5; have HB5 := Lib.hid hb5; clear ho5 hb5)
        go_returns
        rw [HE.out.1, HE.out.2]
        exact ⟨A5, n5, c5, rfl, HO5.out.wide HB.out.size (Nat.le_refl _), HB.out.trans (HB5.out.mono HB.out.size)⟩
/-- The rows when i numbers are taken. -/
def rowP (xs : List Int) (d i : Nat) : List Int := (List.range 16).map fun (t : Nat) => if d < t + i ∧ t ≤ d then nth xs (d - t) - ((d - t : Nat) : Int) else 0
theorem rowP_len (xs : List Int) (d i : Nat) : (rowP xs d i).length = 16 := by simp [rowP]
theorem rowP_nth {xs : List Int} {d i t : Nat} (h : t < 16) : nth (rowP xs d i) t = if d < t + i ∧ t ≤ d then nth xs (d - t) - ((d - t : Nat) : Int) else 0 := by
  rw [nth_get (by rw [rowP_len]; exact h)]; simp [rowP]
theorem rowP_step {xs : List Int} {d i : Nat} (hd : d ≤ 15) (hi : i ≤ d) : (rowP xs d i).set (d - i) (nth xs i - (i : Int)) = rowP xs d (i + 1) := by
  refine list_ext_nth (by simp [rowP_len]) fun k hk => ?_
  have hk' : k < 16 := by simpa [rowP_len] using hk
  rw [nth_set _ (by rw [rowP_len]; omega), rowP_nth hk', rowP_nth hk']
  by_cases h : k = d - i
  · rw [if_pos h, if_pos (by omega), h, show d - (d - i) = i by omega]
  · rw [if_neg h]
    by_cases h2 : d < k + i ∧ k ≤ d
    · rw [if_pos h2, if_pos (by omega)]
    · rw [if_neg h2, if_neg (by omega)]
theorem rowP_zero (xs : List Int) (d : Nat) : arrD (rowP xs d 0) = zero16 := by
  have h : ∀ k, k < 16 → nth (rowP xs d 0) k = 0 := fun k hk => by rw [rowP_nth hk, if_neg (by omega)]
  simp only [arrD, h 0 (by omega), h 1 (by omega), h 2 (by omega), h 3 (by omega), h 4 (by omega), h 5 (by omega), h 6 (by omega), h 7 (by omega), h 8 (by omega), h 9 (by omega), h 10 (by omega), h 11 (by omega), h 12 (by omega), h 13 (by omega), h 14 (by omega), h 15 (by omega)]
theorem rowP_all {xs : List Int} {d : Nat} (hd : d ≤ 15) (k : Nat) : nth (rowP xs d (d + 1)) k = nth (sopN xs d (d + 1)) k := by
  by_cases hk : k < d + 1
  · rw [rowP_nth (by omega), sopN_nth hk, if_pos (by omega)]
  · rw [nth_out (xs := sopN xs d (d + 1)) (by rw [sopN_len]; omega)]
    by_cases h16 : k < 16
    · rw [rowP_nth h16, if_neg (by omega)]
    · rw [nth_out (by rw [rowP_len]; omega)]
theorem load_rows {w : World} {g : Nat} {l : List Int} (h : Blk w g 37 (arrD l)) : (loadVar 37 ⟨g, 0, none⟩).run Try.prog w = .ok (arr16 l) w :=
  run_loadVar_row w g 37 37 (arrD l) (0, 0) _ h Try.undRows rfl (by rw [Try.infoRows]; rfl)
set_option maxRecDepth 100000 in
set_option maxHeartbeats 1600000 in
theorem grassRows_any (A : Option Addr) (n c d k : Nat) (xs : List Int) (w : World) (hs : SI w A n xs) (hnc : n ≤ c) (hn : n ≤ 1099511627776) (hf : SopF xs d) (hk : k = d + 1) :
    Calls Try.prog 25 #[.slice A n c, .int .i64 (k : Int)] w fun e w' => e = .returned (arr16 (rowP xs d k)) ∧ Below w.heap.size w w' := by
  have hd5 := hf.le7.1
  have HR := Lib.hid hf.le7.2
  have hdn : d < n := by have := hf.lt; have := hs.1; omega
  obtain ⟨b, o, rfl, hbb, hc0⟩ := hs.at_ (by omega)
  have HS := Lib.hid hs
  clear hbb hc0 hf hs
  obtain ⟨w2, hw2⟩ : ∃ w2, w2 = (w.alloc (.cells zero16 37)).alloc (.cells zero16 37) := ⟨_, rfl⟩
  obtain ⟨g, hg⟩ : ∃ g, g = w.heap.size := ⟨_, rfl⟩
  have HB2 : Hid (Below w.heap.size w w2) := Lib.hid (by rw [hw2]; exact ((Below.refl _ _).alloc (Nat.le_refl _) _).alloc (by simp) _)
  have HA2 : Hid (Blk w2 g 37 zero16) := Lib.hid (by rw [hw2, hg]; exact (Blk.new w 37 zero16).alloc _)
  have HK2 : Hid (Blk w2 (g + 1) 37 (arrD (rowP xs d 0))) := Lib.hid (by
    rw [hw2, hg, rowP_zero]
    have := Blk.new (w.alloc (.cells zero16 37)) 37 zero16
    rwa [show (w.alloc (.cells zero16 37)).heap.size = w.heap.size + 1 from by simp] at this)
  have HG : Hid (w.heap.size = g) := Lib.hid hg.symm
  have hkc : (k : Int) ≤ (c : Int) := by omega
  have hk0 : (0 : Int) ≤ (k : Int) := by omega
  have HK := Lib.hid hk
  have HD := Lib.hid (show d ≤ 5 ∧ d < n from ⟨hd5, hdn⟩)
  clear hk hd5 hdn
  go_enter Try.func25, Try.ntmps25
  go_upto_region 2 with fail
  rw [← hw2, ← hg]
  clear hw2 hg
  go_wp2_with fail
  go_loopw [12] (fun iv wr => ∃ i : Nat, i ≤ k ∧ iv = .int .i64 i ∧ Blk wr (g + 1) 37 (arrD (rowP xs d i)) ∧ Blk wr g 37 zero16 ∧ Below w.heap.size w wr)
    (fun iv _ => k - (intOf iv).toNat)
  case atStart => exact ⟨0, Nat.zero_le _, rfl, HK2.out, HA2.out, HB2.out⟩
  case round =>
    obtain ⟨i, hi, rfl, hkb, hab, hb⟩ := hrel
    clear HK2 HB2 HA2
    have HKB := Lib.hid hkb
    have HAB := Lib.hid hab
    have HB := Lib.hid hb
    clear hkb hab hb
    by_cases hlt : i < k
    · have hkd := HK.out
      have hD := HD.out
      have hiI : (i : Int) < (k : Int) := by omega
      have hi6 : i < 6 := by omega
      obtain ⟨b2, o2, e2, hbb, hc⟩ := (HS.out.below HB.out (Nat.le_refl _)).at_ (by omega)
      obtain ⟨rfl, rfl⟩ : b = b2 ∧ o = o2 := by injection e2 with e2; injection e2 with h1 h2; exact ⟨h1, h2⟩
      have hc1 := hc i (by omega)
      have hr := HR.out i (by omega)
      have hstep := rowP_step (xs := xs) (d := d) (i := i) (by omega) (by omega)
      obtain ⟨x, hx⟩ : ∃ x, x = nth xs i := ⟨_, rfl⟩
      rw [← hx] at hc1 hr hstep
      obtain ⟨hr0, hr1⟩ := hr
      obtain ⟨t, ht⟩ : ∃ t, t = d - i := ⟨_, rfl⟩
      rw [← ht] at hstep
      have hti : (d : Int) - (i : Int) = (t : Int) := by omega
      have ht16 : t < 16 := by omega
      have hct : wr.cell? ⟨g + 1, t, none⟩ = some (.int .i64 (nth (rowP xs d i) t)) := by rw [HKB.out.cell, arrD_get _ _ ht16]
      have hft := HKB.out.frozen t
      have HFIN : Hid (Blk (wr.setCell ⟨g + 1, t, none⟩ (.int .i64 (x - (i : Int)))) (g + 1) 37 (arrD (rowP xs d (i + 1))) ∧ Blk (wr.setCell ⟨g + 1, t, none⟩ (.int .i64 (x - (i : Int)))) g 37 zero16 ∧ Below w.heap.size w (wr.setCell ⟨g + 1, t, none⟩ (.int .i64 (x - (i : Int))))) := Lib.hid (by
        have h1 := HKB.out.set_ t (.int .i64 (x - (i : Int)))
        rw [arrD_set _ _ ht16 _ (rowP_len _ _ _), hstep] at h1
        exact ⟨h1, HAB.out.below ((Below.refl (g + 1) wr).setCell (p := ⟨g + 1, t, none⟩) (Nat.le_refl _) _) (Nat.lt_succ_self g), HB.out.setCell (by have := HG.out; show w.heap.size ≤ g + 1; omega) _⟩)
      have hwk : IntKind.i64.wrap ((k : Int) - 1) = (d : Int) := by rw [show (k : Int) - 1 = (d : Int) by omega]; exact IntWalk.i64_in _ (by omega)
      have hw1 : IntKind.i64.wrap ((d : Int) - (i : Int)) = (t : Int) := by rw [hti]; exact IntWalk.i64_in _ (by omega)
      have hw2 : IntKind.i64.wrap (x - (i : Int)) = x - (i : Int) := IntWalk.i64_in _ (by omega)
      have ht0 : (t : Int) < 16 := by omega
      clear hc hx hstep ht hti hkd hD hbb e2
      go_wp2
      go_roundw
      case rel => exact ⟨i + 1, by omega, by go_num, HFIN.out.1, HFIN.out.2.1, HFIN.out.2.2⟩
      case measure => simp [intOf]; omega
    · obtain rfl : i = k := by omega
      have hzI : ¬ (i : Int) < (i : Int) := by omega
      obtain ⟨l, hl⟩ : ∃ l, l = rowP xs d i := ⟨_, rfl⟩
      rw [← hl] at HKB
      have HLL := Lib.hid hl
      clear hl
      go_wp2_with (first
        | (refine wpList_load_blk rfl 37 (.tmp 5) rfl (g + 1) rfl 37 (arrD l) 16 3 HKB.out Try.undRows Try.infoRows ?_)
        | (refine wpList_store_blk rfl 37 (.tmp 4) (.tmp 26) rfl g (arrD l) rfl rfl 37 zero16 HAB.out Try.infoRows rfl (arrD_one _) ?_; intro w5 hb5 hg5)
        | fail)
      refine bodyPost_ret (results_blk Try.results25 _ _ _ _ _ 16 3 rfl hb5 Try.undRows Try.infoRows) rfl ?_
      rw [← HLL.out]
      exact ⟨rfl, HB.out.grown hg5 HB.out.size (by rintro q ⟨⟩; exact Nat.le_of_eq HG.out)⟩
set_option maxRecDepth 100000 in
set_option maxHeartbeats 1600000 in
theorem implSop_any (A : Option Addr) (n c : Nat) (xs : List Int) (w : World) (hs : SI w A n xs) (hnc : n ≤ c) (hn : n ≤ 1099511627776) :
    Calls Try.prog 7 #[.slice A n c] w fun e w' => FreshIB w w' e (sopS xs) (sopK xs) (sopOk xs) := by
  have HD := Lib.hid (implDescents_any A n c xs w hs hn)
  cases hu : sopOk xs with
  | false =>
    have HE := Lib.hid (sop_no hu)
    have HN : Hid ((descPerm xs).length ≠ 1) := Lib.hid (of_decide_eq_false hu)
    clear hu hs
    go_enter Try.func7, Try.ntmps7
    go_wp2_with (go_at_call 24
                 refine HD.out.mono ?_
                 rintro e w1 ⟨A1, n1, c1, rfl, ho1, hb1⟩
                 have hne : ((n1 : Int) == 1) = false := by have := ho1.len; have := HN.out; simp; omega
                 have HB1 := Lib.hid hb1
                 clear ho1 hb1)
    go_returns
    rw [HE.out.1, HE.out.2]
    exact FreshIB.nil_ret HB1.out
  | true =>
    obtain ⟨d, hd, hf⟩ := sop_facts hu
    have HE := Lib.hid (sop_yes hu hd)
    have HF := Lib.hid hf
    have hd5 := hf.le7.1
    have HR := Lib.hid hf.le7.2
    have hdn : d < n := by have := hf.lt; have := hs.1; omega
    have HDE := Lib.hid hf.desc
    have HS := Lib.hid hs
    clear hu hs hd hf
    obtain ⟨k, hk⟩ : ∃ k, k = d + 1 := ⟨_, rfl⟩
    obtain ⟨va, hva⟩ : ∃ va, va = arr16 (rowP xs d k) := ⟨_, rfl⟩
    have HGR : Hid (∀ u, Below w.heap.size w u → Calls Try.prog 25 #[.slice A n c, .int .i64 (k : Int)] u fun e w' => e = .returned va ∧ Below u.heap.size u w') := Lib.hid (fun u hu => by rw [hva]; exact grassRows_any A n c d k xs u (HS.out.below hu (Nat.le_refl _)) hnc hn HF.out hk)
    have HSH : Hid (∀ u, Below w.heap.size w u → Calls Try.prog 26 #[va] u fun e w3 => ∃ A3 n3 c3, e = .returned (.slice A3 n3 c3) ∧ Own w3 w.heap.size w3.heap.size A3 n3 c3 ((sopN xs d (d + 1)).take (bareN (sopN xs d (d + 1)) (d + 1))) ∧ Below w.heap.size w w3) := Lib.hid (fun u hu => by
      rw [hva]
      refine (rowsShape_any _ u (rowP_len _ _ _)).mono ?_
      rintro e w3 ⟨q, hq16, hqp, hqe, A3, n3, c3, rfl, ho3, hb3⟩
      subst hk
      have hqq : q = bareN (sopN xs d (d + 1)) (d + 1) := bare_one (sopN_len _ _ _) HF.out.nonneg HF.out.down (fun j hj => by rw [← rowP_all (by omega)]; exact hqp j hj) (by
        rcases hqe with h | h
        · subst h; rw [nth_out (by rw [sopN_len]; omega)]; decide
        · rw [← rowP_all (by omega)]; exact h)
      have htk : (rowP xs d (d + 1)).take q = (sopN xs d (d + 1)).take q := by
        have hqd : q ≤ d + 1 := by rw [hqq]; exact bareN_le _ _
        refine list_ext_nth (by rw [List.length_take, List.length_take, rowP_len, sopN_len]; omega) fun k hk => ?_
        have hkq : k < q := by rw [List.length_take] at hk; omega
        rw [nth_take hkq, nth_take hkq, rowP_all (by omega)]
      rw [htk, hqq] at ho3
      exact ⟨A3, n3, c3, rfl, ho3.wide hu.size (Nat.le_refl _), hu.trans (hb3.mono hu.size)⟩)
    have HKK : Hid ((d : Int) + 1 = (k : Int)) := Lib.hid (by omega)
    have hwd : IntKind.i64.wrap ((d : Int) + 1) = (k : Int) := by rw [HKK.out]; exact IntWalk.i64_in _ (by omega)
    clear hk hva
    go_enter Try.func7, Try.ntmps7
    go_wp2_with (first
      | (go_at_call 24
         refine HD.out.mono ?_
         rintro e w1 ⟨A1, n1, c1, rfl, ho1, hb1⟩
         rw [HDE.out] at ho1
         obtain rfl : n1 = 1 := by have := ho1.len; simpa using this.symm
         obtain ⟨g1, rfl, hg1, hg2⟩ := ho1.place (by omega)
         have hc1 : w1.cell? ⟨g1, 0, none⟩ = some (.int .i64 d) := ho1.cellAt (k := 0) (by omega)
         have HB1 := Lib.hid hb1
         clear ho1 hb1 hg1 hg2)
      | (go_at_call 25
         with_reducible refine (HGR.out _ HB1.out).mono ?_
         rintro e w2 ⟨rfl, hb2⟩
         have HB2 := Lib.hid (HB1.out.trans (hb2.mono HB1.out.size))
         clear hb2 hc1)
      | (go_at_call 26
         with_reducible refine (HSH.out _ HB2.out).mono ?_
         rintro e w3 ⟨A3, n3, c3, rfl, ho3, hb3⟩
         have HO3 := Lib.hid ho3
         have HB3 := Lib.hid hb3
         clear ho3 hb3)
      | fail)
    go_returns
    rw [HE.out.1, HE.out.2, HKK.out]
    exact ⟨A3, n3, c3, rfl, HO3.out, HB3.out⟩
end Go.Proofs.Ytbjnjccolapehaa
