/-
  The dual of a shape in a box, on both sides. Conditions: lengths below 2^40.
-/
import Derived.Test.YtdkcngilmdpbgaaStrI
namespace Go.Proofs.Ytdkcngilmdpbgaa
open Go.RowKit

/-- The rows nowhere rise. -/
theorem shape_down {xs : List Int} (h : isShapeP xs) : ∀ j i, i ≤ j → nth xs j ≤ nth xs i
  | 0, i, hi => by obtain rfl : i = 0 := by omega
                   exact Int.le_refl _
  | j + 1, i, hi => by
    by_cases e : i = j + 1
    · subst e; exact Int.le_refl _
    · have h1 := shape_down h j i (by omega)
      by_cases hj : j + 1 < xs.length
      · have := (h.2 (j + 1) hj).2
        have e2 : prevS xs (j + 1) = nth xs j := rfl
        omega
      · rw [nth_out (by omega)]; exact (shape_range h i).1
/-- The first j rows of the dual: d less the rows from behind. -/
def duaN (xs : List Int) (d : Int) (k j : Nat) : List Int := (List.range j).map fun (t : Nat) => d - nth xs (k - 1 - t)
theorem duaN_len (xs : List Int) (d : Int) (k j : Nat) : (duaN xs d k j).length = j := by simp [duaN]
theorem duaN_succ (xs : List Int) (d : Int) (k j : Nat) : duaN xs d k (j + 1) = duaN xs d k j ++ [d - nth xs (k - 1 - j)] := by simp [duaN, List.range_succ]
theorem duaN_nth {xs : List Int} {d : Int} {k j t : Nat} (h : t < j) : nth (duaN xs d k j) t = d - nth xs (k - 1 - t) := by
  rw [nth_get (by rw [duaN_len]; exact h)]; simp [duaN]
theorem duaN_nonneg {xs : List Int} {k m : Nat} (h : boxP xs (k : Int) (m : Int)) (j : Nat) : 0 ≤ nth (duaN xs ((m : Int) - (k : Int)) k k) j := by
  by_cases hj : j < k
  · rw [duaN_nth hj]
    have := shape_down h.2.2.2.2.1 (k - 1 - j) 0 (Nat.zero_le _)
    have := h.2.2.2.2.2.2
    omega
  · rw [nth_out (by rw [duaN_len]; omega)]; exact Int.le_refl _
theorem duaN_down {xs : List Int} {k m : Nat} (h : boxP xs (k : Int) (m : Int)) (i j : Nat) (hij : i ≤ j) : nth (duaN xs ((m : Int) - (k : Int)) k k) j ≤ nth (duaN xs ((m : Int) - (k : Int)) k k) i := by
  by_cases hj : j < k
  · rw [duaN_nth hj, duaN_nth (by omega)]
    have := shape_down h.2.2.2.2.1 (k - 1 - i) (k - 1 - j) (by omega)
    omega
  · rw [nth_out (xs := duaN xs _ k k) (k := j) (by rw [duaN_len]; omega)]; exact duaN_nonneg h i
/-- What DualShape answers. -/
def duaS (xs : List Int) (k m : Int) : List Int := if boxB xs k m = true then (duaN xs (m - k) k.toNat k.toNat).take (bareN (duaN xs (m - k) k.toNat k.toNat) k.toNat) else []
theorem dua_no {xs : List Int} {k m : Int} (h : boxB xs k m = false) : duaS xs k m = [] := by unfold duaS; rw [if_neg (by rw [h]; decide)]
theorem dua_yes {xs : List Int} {k : Nat} {m : Int} (h : boxB xs (k : Int) m = true) : duaS xs (k : Int) m = (duaN xs (m - (k : Int)) k k).take (bareN (duaN xs (m - (k : Int)) k k) k) := by unfold duaS; rw [if_pos h, Int.toNat_natCast]
theorem duaS_small (xs : List Int) (k m : Int) : (duaS xs k m).length ≤ 1099511627775 := by
  unfold duaS
  split
  · rename_i h
    have hp := boxB_P h
    have h1 := hp.2.1; have h2 := hp.2.2.2.1
    rw [List.length_take, duaN_len]
    omega
  · simp
/-- The rows when i of them are taken. -/
def rowU (xs : List Int) (d : Int) (k i : Nat) : List Int := (List.range 16).map fun (t : Nat) => if t < i then d - nth xs (k - 1 - t) else 0
theorem rowU_len (xs : List Int) (d : Int) (k i : Nat) : (rowU xs d k i).length = 16 := by simp [rowU]
theorem rowU_nth {xs : List Int} {d : Int} {k i t : Nat} (h : t < 16) : nth (rowU xs d k i) t = if t < i then d - nth xs (k - 1 - t) else 0 := by
  rw [nth_get (by rw [rowU_len]; exact h)]; simp [rowU]
theorem rowU_step {xs : List Int} {d : Int} {k i : Nat} (hi : i < 16) : (rowU xs d k i).set i (d - nth xs (k - 1 - i)) = rowU xs d k (i + 1) := by
  refine list_ext_nth (by simp [rowU_len]) fun t ht => ?_
  have ht' : t < 16 := by simpa [rowU_len] using ht
  rw [nth_set _ (by rw [rowU_len]; omega), rowU_nth ht', rowU_nth ht']
  by_cases h : t = i
  · rw [if_pos h, if_pos (by omega), h]
  · rw [if_neg h]
    by_cases h2 : t < i
    · rw [if_pos h2, if_pos (by omega)]
    · rw [if_neg h2, if_neg (by omega)]
theorem rowU_zero (xs : List Int) (d : Int) (k : Nat) : arrD (rowU xs d k 0) = zero16 := by
  have h : ∀ t, t < 16 → nth (rowU xs d k 0) t = 0 := fun t ht => by rw [rowU_nth ht, if_neg (by omega)]
  simp only [arrD, h 0 (by omega), h 1 (by omega), h 2 (by omega), h 3 (by omega), h 4 (by omega), h 5 (by omega), h 6 (by omega), h 7 (by omega), h 8 (by omega), h 9 (by omega), h 10 (by omega), h 11 (by omega), h 12 (by omega), h 13 (by omega), h 14 (by omega), h 15 (by omega)]
theorem rowU_all {xs : List Int} {d : Int} {k : Nat} (hk : k ≤ 16) (j : Nat) : nth (rowU xs d k k) j = nth (duaN xs d k k) j := by
  by_cases hj : j < k
  · rw [rowU_nth (by omega), duaN_nth hj, if_pos hj]
  · rw [nth_out (xs := duaN xs d k k) (by rw [duaN_len]; omega)]
    by_cases h16 : j < 16
    · rw [rowU_nth h16, if_neg hj]
    · rw [nth_out (by rw [rowU_len]; omega)]
theorem row_bare {xs : List Int} {k m q : Nat} (h : boxP xs (k : Int) (m : Int)) (h1 : ∀ j, j < q → 0 < nth (rowU xs ((m : Int) - (k : Int)) k k) j) (h2 : q = 16 ∨ ¬ 0 < nth (rowU xs ((m : Int) - (k : Int)) k k) q) :
    (rowU xs ((m : Int) - (k : Int)) k k).take q = (duaN xs ((m : Int) - (k : Int)) k k).take (bareN (duaN xs ((m : Int) - (k : Int)) k k) k) := by
  have hk7 : k ≤ 7 := by have := h.2.1; have := h.2.2.2.1; omega
  have hqq : q = bareN (duaN xs ((m : Int) - (k : Int)) k k) k := bare_one (duaN_len _ _ _ _) (duaN_nonneg h) (duaN_down h) (fun j hj => by rw [← rowU_all (by omega)]; exact h1 j hj) (by
    rcases h2 with e | e
    · subst e; rw [nth_out (by rw [duaN_len]; omega)]; decide
    · rw [← rowU_all (by omega)]; exact e)
  have hqd : q ≤ k := by rw [hqq]; exact bareN_le _ _
  rw [← hqq]
  refine list_ext_nth (by rw [List.length_take, List.length_take, rowU_len, duaN_len]; omega) fun t ht => ?_
  have htq : t < q := by rw [List.length_take] at ht; omega
  rw [nth_take htq, nth_take htq, rowU_all (by omega)]
set_option maxHeartbeats 1600000 in
theorem specDual_any (A : Option Addr) (n c : Nat) (xs : List Int) (k m : Int) (w : World) (hs : SI w A n xs) (hn : n ≤ 1099511627776) :
    Calls Try.prog 19 #[.slice A n c, .int .i64 k, .int .i64 m] w fun e w' => Fresh w w' e (duaS xs k m) := by
  have HI := Lib.hid (l4Box_any A n c xs k m w hs hn)
  cases hu : boxB xs k m with
  | false =>
    rw [hu] at HI
    have HE := Lib.hid (dua_no hu)
    clear hu hs
    go_enter Try.func19, Try.ntmps19
    go_wp2_with (go_at_call 63; refine HI.out.mono ?_; rintro e w1 ⟨rfl, hd1⟩; have HB1 := Lib.hid (hd1.below w.heap.size); clear hd1)
    go_ret
    rw [HE.out]
    exact Fresh.nil_ret' HB1.out
  | true =>
    rw [hu] at HI
    have hp := boxB_P hu
    obtain ⟨k', rfl⟩ : ∃ k' : Nat, k = k' := ⟨k.toNat, by have := hp.2.2.1; omega⟩
    obtain ⟨k, hk0⟩ : ∃ k : Nat, k = k' := ⟨_, rfl⟩
    subst hk0
    have hm7 := hp.2.1
    have hm1 := hp.1
    have hkm := hp.2.2.2.1
    have hk7 : k ≤ 7 := by omega
    have HE := Lib.hid (dua_yes hu)
    have HR := Lib.hid (shape_range hp.2.2.2.2.1)
    obtain ⟨d, hd⟩ : ∃ d : Int, d = m - (k : Int) := ⟨_, rfl⟩
    rw [← hd] at HE
    have hw1 : IntKind.i64.wrap (m - (k : Int)) = d := by rw [hd]; exact IntWalk.i64_in _ (by omega)
    have hw1' : IntKind.i64.wrap ((k : Int) - 1) = (k : Int) - 1 := IntWalk.i64_in _ (by omega)
    have hd7 : 0 ≤ d ∧ d ≤ 7 := by omega
    obtain ⟨hd0, hd7⟩ := hd7
    have HS := Lib.hid hs
    clear hu hs hp hd
    go_enter Try.func19, Try.ntmps19
    go_wp2_with (go_at_call 63; refine HI.out.mono ?_; rintro e w1 ⟨rfl, hd1⟩; have HB1 : Hid (Below w.heap.size w w1) := Lib.hid (hd1.below w.heap.size); clear hd1)
    go_loopw [7, 8] (fun ov iv wr => ∃ (j : Nat) (Ao : Option Addr) (co : Nat), j ≤ k ∧ iv = .int .i64 ((k : Int) - 1 - (j : Int)) ∧ ov = .slice Ao j co ∧ Own wr w.heap.size wr.heap.size Ao j co (duaN xs d k j) ∧ Below w.heap.size w wr ∧ Ao ≠ none)
      (fun _ iv _ => (intOf iv + 1).toNat)
    case atStart => exact ⟨0, _, _, Nat.zero_le _, by simp, rfl, (Own.empty w1).wide HB1.out.size (by simp), HB1.out.alloc HB1.out.size _, by simp⟩
    case round =>
      obtain ⟨j, Ao, co, hj, rfl, rfl, hown, hbw, hne⟩ := hrel
      have HO := Lib.hid hown
      have HB := Lib.hid hbw
      have HNE := Lib.hid hne
      clear hown hbw hne
      by_cases hlt : j < k
      · have HSU := Lib.hid (duaN_succ xs d k j)
        obtain ⟨i, hi⟩ : ∃ i, i = k - 1 - j := ⟨_, rfl⟩
        have hij : (k : Int) - 1 - (j : Int) = (i : Int) := by omega
        rw [← hi] at HSU
        rw [hij]
        obtain ⟨x, hx⟩ : ∃ x, x = nth xs i := ⟨_, rfl⟩
        have HAT := Lib.hid (l4At_any A n c xs i wr (HS.out.below HB.out (Nat.le_refl _)) hn (by omega))
        have hr := HR.out i
        rw [← hx] at HAT hr HSU
        obtain ⟨hr0, hr1⟩ := hr
        have hw2 : IntKind.i64.wrap (d - x) = d - x := IntWalk.i64_in _ (by omega)
        have hi0 : (0 : Int) ≤ (i : Int) := by omega
        have hi7 : (i : Int) ≤ 7 := by omega
        have HIJ := Lib.hid hij
        clear hx hi hij
        go_wp2_with (first
          | (go_at_call 65; refine HAT.out.mono ?_; rintro e w3 ⟨rfl, rfl⟩)
          | (at_builtin; refine wpList_append1 rfl (.tmp 21) (.tmp 29) rfl w.heap.size Ao j co (duaN xs d k j) (d - x) rfl rfl HO.out HB.out.size (by omega) ?_; intro A' c' w5 ho5 _ hb5))
        have HIM : Hid (wrap64 ((i : Int) - 1) = (k : Int) - 1 - ((j + 1 : Nat) : Int)) := Lib.hid (by have := HIJ.out; unfold wrap64; omega)
        go_roundw
        case rel => exact ⟨j + 1, A', c', by omega, by first | rw [HIM.out] | rw [show (i : Int) - 1 = (k : Int) - 1 - ((j + 1 : Nat) : Int) by have := HIJ.out; omega], rfl, by rw [HSU.out]; exact ho5, HB.out.trans hb5, by obtain ⟨g', e, _⟩ := ho5.place (by omega); rw [e]; simp⟩
        case measure => simp only [intOf]; have := HIM.out; have := HIJ.out; omega
      · obtain rfl : j = k := by omega
        have hneg : (j : Int) - 1 - (j : Int) = -1 := by omega
        rw [hneg]
        have HBA := Lib.hid (l4Bare_any Ao j co (duaN xs d j j) wr HO.out.si HO.out.cap HNE.out (by omega))
        go_wp2_with (go_at_call 66; refine HBA.out.mono ?_; rintro e w5 ⟨A5, n5, c5, rfl, ho5, hb5⟩; have HO5 := Lib.hid ho5; have HB5 := Lib.hid hb5; clear ho5 hb5)
        go_ret
        rw [HE.out]
        exact ⟨A5, n5, c5, rfl, HO5.out.wide HB.out.size (Nat.le_refl _), HB.out.trans (HB5.out.mono HB.out.size)⟩
set_option maxRecDepth 100000 in
set_option maxHeartbeats 1600000 in
theorem implDual_any (A : Option Addr) (n c : Nat) (xs : List Int) (k m : Int) (w : World) (hs : SI w A n xs) (hn : n ≤ 1099511627776) :
    Calls Try.prog 20 #[.slice A n c, .int .i64 k, .int .i64 m] w fun e w' => Fresh w w' e (duaS xs k m) := by
  have HI := Lib.hid (fitsInto_any A n c xs k m w hs hn)
  cases hu : boxB xs k m with
  | false =>
    rw [hu] at HI
    have HE := Lib.hid (dua_no hu)
    clear hu hs
    go_enter Try.func20, Try.ntmps20
    go_wp2_with (go_at_call 64; refine HI.out.mono ?_; rintro e w1 ⟨rfl, hd1⟩; have HB1 := Lib.hid (hd1.below w.heap.size); clear hd1)
    go_ret
    rw [HE.out]
    exact Fresh.nil_ret' HB1.out
  | true =>
    rw [hu] at HI
    have hp := boxB_P hu
    obtain ⟨k', rfl⟩ : ∃ k' : Nat, k = k' := ⟨k.toNat, by have := hp.2.2.1; omega⟩
    obtain ⟨m', rfl⟩ : ∃ m' : Nat, m = m' := ⟨m.toNat, by have := hp.1; omega⟩
    obtain ⟨k, hk0⟩ : ∃ k : Nat, k = k' := ⟨_, rfl⟩
    obtain ⟨m, hm0⟩ : ∃ m : Nat, m = m' := ⟨_, rfl⟩
    subst hk0 hm0
    have hm7 := hp.2.1
    have hm1 := hp.1
    have hkm := hp.2.2.2.1
    have hk7 : k ≤ 7 := by omega
    have hn16 : n ≤ 16 := by have := hp.2.2.2.2.2.1; have := hs.1; omega
    have HE := Lib.hid (dua_yes hu)
    have HTK := Lib.hid (fun (q : Nat) h1 h2 => row_bare (q := q) hp h1 h2)
    have HR := Lib.hid (shape_range hp.2.2.2.2.1)
    obtain ⟨d, hd⟩ : ∃ d : Int, d = (m : Int) - (k : Int) := ⟨_, rfl⟩
    rw [← hd] at HE HTK
    have hw1 : IntKind.i64.wrap ((m : Int) - (k : Int)) = d := by rw [hd]; exact IntWalk.i64_in _ (by omega)
    have hw1' : IntKind.i64.wrap ((k : Int) - 1) = (k : Int) - 1 := IntWalk.i64_in _ (by omega)
    obtain ⟨hd0, hd7⟩ : 0 ≤ d ∧ d ≤ 7 := by omega
    have HRW := Lib.hid (fun w' (hd : Drawn w w') => rowLengthsOf_any A n c xs w' (hd.si hs) hn16)
    clear hu hs hp hd
    go_enter Try.func20, Try.ntmps20
    go_upto_region 5 with (first
      | (go_at_call 64; refine HI.out.mono ?_; rintro e w1 ⟨rfl, hd1⟩; have HD1 := Lib.hid hd1; clear hd1)
      | (go_at_call 67; refine (HRW.out _ HD1.out).mono ?_; rintro e w2 ⟨rfl, hb2⟩
         have HB2 : Hid (Below w.heap.size w w2) := Lib.hid ((HD1.out.below _).trans (hb2.mono (HD1.out.below w.heap.size).size)); clear hb2))
    obtain ⟨w4, hw4⟩ : ∃ w4, w4 = (w2.alloc (.cells (arrD (padN 16 xs)) 65)).alloc (.cells zero16 65) := ⟨_, rfl⟩
    obtain ⟨g, hg⟩ : ∃ g, g = w2.heap.size := ⟨_, rfl⟩
    obtain ⟨gd, hgd⟩ : ∃ gd, gd = g + 1 := ⟨_, rfl⟩
    have HB4 : Hid (Below w.heap.size w w4) := Lib.hid (by rw [hw4]; exact (HB2.out.alloc HB2.out.size _).alloc (by have := HB2.out.size; simp; omega) _)
    have HK4 : Hid (Blk w4 g 65 (arrD (padN 16 xs))) := Lib.hid (by rw [hw4, hg]; exact (Blk.new w2 65 (arrD (padN 16 xs))).alloc _)
    have HU4 : Hid (Blk w4 gd 65 (arrD (rowU xs d k 0))) := Lib.hid (by
      rw [hw4, hgd, hg, rowU_zero]
      have := Blk.new (w2.alloc (.cells (arrD (padN 16 xs)) 65)) 65 zero16
      rwa [show (w2.alloc (.cells (arrD (padN 16 xs)) 65)).heap.size = w2.heap.size + 1 from by simp] at this)
    have HG : Hid (w.heap.size ≤ g ∧ w.heap.size ≤ gd ∧ g ≠ gd) := Lib.hid (by have := HB2.out.size; omega)
    rw [← hw4, ← hg]
    rw [← hgd]
    clear hw4 hg hgd
    have HP16 := Lib.hid (fun t => padN_nth 16 xs t)
    generalize padN 16 xs = L0 at HK4 HP16 ⊢
    generalize arr16 L0 = va
    go_wp2_with fail
    go_loopw [18] (fun iv wr => ∃ i : Nat, i ≤ k ∧ iv = .int .i64 i ∧ Blk wr gd 65 (arrD (rowU xs d k i)) ∧ Blk wr g 65 (arrD L0) ∧ Below w.heap.size w wr)
      (fun iv _ => k - (intOf iv).toNat)
    case atStart => exact ⟨0, Nat.zero_le _, rfl, HU4.out, HK4.out, HB4.out⟩
    case round =>
      obtain ⟨i, hi, rfl, hu, hk, hb⟩ := hrel
      clear HU4 HK4 HB4
      have HU := Lib.hid hu
      have HK := Lib.hid hk
      have HB := Lib.hid hb
      clear hu hk hb
      by_cases hlt : i < k
      · have hiI : (i : Int) < (k : Int) := by omega
        have hstep := rowU_step (xs := xs) (d := d) (k := k) (i := i) (by omega)
        obtain ⟨t, ht⟩ : ∃ t, t = k - 1 - i := ⟨_, rfl⟩
        rw [← ht] at hstep
        have hti : (k : Int) - 1 - (i : Int) = (t : Int) := by omega
        have ht16 : t < 16 := by omega
        have hi16 : i < 16 := by omega
        have hr := HR.out t
        have hcx : wr.cell? ⟨g, t, none⟩ = some (.int .i64 (nth xs t)) := by rw [HK.out.cell, arrD_get _ _ ht16, HP16.out]
        obtain ⟨x, hx⟩ : ∃ x, x = nth xs t := ⟨_, rfl⟩
        rw [← hx] at hcx hr hstep
        obtain ⟨hr0, hr1⟩ := hr
        have hct : wr.cell? ⟨gd, i, none⟩ = some (.int .i64 (nth (rowU xs d k i) i)) := by rw [HU.out.cell, arrD_get _ _ hi16]
        have hft := HU.out.frozen i
        have HFIN : Hid (Blk (wr.setCell ⟨gd, i, none⟩ (.int .i64 (d - x))) gd 65 (arrD (rowU xs d k (i + 1)))) := Lib.hid (by
          have h1 := HU.out.set_ i (.int .i64 (d - x))
          rwa [arrD_set _ _ hi16 _ (rowU_len _ _ _ _), hstep] at h1)
        have HFK : Hid (Blk (wr.setCell ⟨gd, i, none⟩ (.int .i64 (d - x))) g 65 (arrD L0)) := Lib.hid (HK.out.far (by have := HG.out; show g ≠ gd; omega) _)
        have HFB : Hid (Below w.heap.size w (wr.setCell ⟨gd, i, none⟩ (.int .i64 (d - x)))) := Lib.hid (HB.out.setCell (by have := HG.out; show w.heap.size ≤ gd; omega) _)
        have hw2 : IntKind.i64.wrap ((k : Int) - 1 - (i : Int)) = (t : Int) := by rw [hti]; exact IntWalk.i64_in _ (by omega)
        have hw3 : IntKind.i64.wrap (d - x) = d - x := IntWalk.i64_in _ (by omega)
        have ht0 : (t : Int) < 16 := by omega
        have hi0 : (i : Int) < 16 := by omega
        have HWX : Hid (∃ wx, wx = wr.setCell ⟨gd, i, none⟩ (.int .i64 (d - x))) := Lib.hid ⟨_, rfl⟩
        clear hx hstep ht hti
        go_wp2
        go_roundw
        case rel => exact ⟨i + 1, by omega, by go_num, HFIN.out, HFK.out, HFB.out⟩
        case measure => simp [intOf]; omega
      · obtain rfl : i = k := by omega
        obtain ⟨L, hL⟩ : ∃ L, L = rowU xs d i i := ⟨_, rfl⟩
        have HLL : Hid (L.length = 16) := Lib.hid (by rw [hL]; exact rowU_len _ _ _ _)
        rw [← hL] at HU HTK
        have hRS := fun w' => rowsShape_any L w' HLL.out
        have HRS := Lib.hid hRS
        clear hL hRS
        go_wp2_with (first
          | (refine wpList_load_blk rfl 65 (.tmp 8) rfl gd rfl 65 (arrD L) 16 3 HU.out Try.undRows Try.infoRows ?_)
          | (go_at_call 68; refine (HRS.out _).mono ?_; rintro e w3 ⟨q, hq16, hqp, hqe, A3, n3, c3, rfl, ho3, hb3⟩
             rw [HTK.out q hqp hqe] at ho3
             have HO3 := Lib.hid ho3
             have HB3 := Lib.hid hb3
             clear ho3 hb3 hqp hqe hq16))
        go_ret
        rw [HE.out]
        exact ⟨A3, n3, c3, rfl, HO3.out.wide HB.out.size (Nat.le_refl _), HB.out.trans (HB3.out.mono HB.out.size)⟩
end Go.Proofs.Ytdkcngilmdpbgaa
