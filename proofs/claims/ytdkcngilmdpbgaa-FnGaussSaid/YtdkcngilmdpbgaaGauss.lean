/-
  Shapes in a box counted by size, on both sides. No conditions.
-/
import Derived.Test.YtdkcngilmdpbgaaShpL
import Derived.Test.YtdkcngilmdpbgaaDeg
namespace Go.Proofs.Ytdkcngilmdpbgaa
open Go.RowKit

theorem idx16 (l : List Int) (k : Nat) (h : k < 16) (w : World) : (Instr.index 65 (arr16 l) (.int .i64 k)).run Try.prog w = .ok (.int .i64 (nth l k)) w := by
  rcases lt16 h with rfl | rfl | rfl | rfl | rfl | rfl | rfl | rfl | rfl | rfl | rfl | rfl | rfl | rfl | rfl | rfl <;> kernel_rfl
theorem sumN_congr {xs ys : List Int} : ∀ k, (∀ j, j < k → nth xs j = nth ys j) → sumN xs k = sumN ys k
  | 0, _ => rfl
  | k + 1, h => by
    show sumN xs k + nth xs k = sumN ys k + nth ys k
    rw [sumN_congr k (fun j hj => h j (by omega)), h k (by omega)]
theorem sumN_out {xs : List Int} : ∀ k, xs.length ≤ k → sumN xs k = sumN xs xs.length
  | 0, h => by rw [show xs.length = 0 by omega]
  | k + 1, h => by
    by_cases e : xs.length = k + 1
    · rw [e]
    · show sumN xs k + nth xs k = _
      rw [nth_out (by omega), sumN_out k (by omega)]; omega
theorem sumN_pad {xs : List Int} (h : xs.length ≤ 16) : sumN (padN 16 xs) 16 = sumN xs xs.length := by
  rw [sumN_congr (ys := xs) 16 (fun j _ => padN_nth 16 xs j), sumN_out 16 h]
set_option maxRecDepth 100000 in
set_option maxHeartbeats 800000 in
/-- The rows of an array added up. -/
theorem rowsSize_any (l : List Int) (w : World) (hb : ∀ k, k ≤ 16 → -1000000 ≤ sumN l k ∧ sumN l k ≤ 1000000) :
    Calls Try.prog 84 #[arr16 l] w fun e w' => e = .returned (.int .i64 (sumN l 16)) ∧ Below w.heap.size w w' := by
  obtain ⟨w0, hw0⟩ : ∃ w0, w0 = w.alloc (.cells (arrD l) 65) := ⟨_, rfl⟩
  obtain ⟨g, hg⟩ : ∃ g, g = w.heap.size := ⟨_, rfl⟩
  have HB0 : Hid (Below w.heap.size w w0) := Lib.hid (by rw [hw0]; exact Below.alloc_self _ _)
  have HK0 : Hid (Blk w0 g 65 (arrD l)) := Lib.hid (by rw [hw0, hg]; exact Blk.new _ _ _)
  have HBD := Lib.hid hb
  clear hb
  go_enter Try.func84, Try.ntmps84
  go_upto_region 1 with fail
  rw [← hw0, ← hg]
  clear hw0 hg
  go_wp2_with (first
    | (refine wpList_load_blk rfl 65 (.tmp 1) rfl g rfl 65 (arrD l) 16 3 HK0.out Try.undRows Try.infoRows ?_)
    | fail)
  have hix : ∀ (k : Nat), k < 16 → ∀ (wx : World), (Instr.index 65 (.agg (arrD l)) (.int .i64 k)).run Try.prog wx = .ok (.int .i64 (nth l k)) wx := fun (k : Nat) (h : k < 16) (wx : World) => idx16 l k h wx
  generalize arr16 l = va
  generalize Value.agg (arrD l) = vb at hix ⊢
  have HIX := Lib.hid hix
  clear hix
  go_loopw [3, 7] (fun sv iv wr => ∃ k : Nat, k ≤ 16 ∧ iv = .int .i64 k ∧ sv = .int .i64 (sumN l k) ∧ Drawn w0 wr)
    (fun _ iv _ => 16 - (intOf iv).toNat)
  case atStart => exact ⟨0, Nat.zero_le _, rfl, rfl, Drawn.refl _⟩
  case round =>
    obtain ⟨k, hk, rfl, rfl, hD⟩ := hrel
    have HD := Lib.hid hD
    clear hD
    by_cases hlt : k < 16
    · have hkI : (k : Int) < 16 := by omega
      have hix := fun wx => HIX.out k hlt wx
      have h1 := HBD.out k hk
      have h2 := HBD.out (k + 1) (by omega)
      have e : sumN l (k + 1) = sumN l k + nth l k := rfl
      rw [e] at h2
      obtain ⟨x, hx⟩ : ∃ x, x = nth l k := ⟨_, rfl⟩
      obtain ⟨s, hs⟩ : ∃ s, s = sumN l k := ⟨_, rfl⟩
      rw [← hx, ← hs] at h2 e
      rw [← hx] at hix
      rw [← hs] at h1 ⊢
      have hw1 : IntKind.i64.wrap (s + x) = s + x := IntWalk.i64_in _ (by omega)
      have HE := Lib.hid e
      clear hx hs h1 h2 e
      go_wp2
      go_roundw
      case rel => exact ⟨k + 1, by omega, by go_num, by rw [HE.out], HD.out⟩
      case measure => simp [intOf]; omega
    · obtain rfl : k = 16 := by omega
      go_wp2
      go_ret
      exact ⟨rfl, HB0.out.trans ((HD.out.below _).mono HB0.out.size)⟩
/-- What is asked of each shape. -/
theorem shp_fact {r d : Nat} (h : r + d ≤ 7) {l : List Int} (hl : l ∈ shapesU r d) : l.length ≤ 7 ∧ (∀ k, k ≤ l.length → 0 ≤ sumN l k ∧ sumN l k ≤ 49) ∧ sumN l l.length ≤ ((r * d : Nat) : Int) := by
  have h0 : ((List.range 8).all fun r => (List.range (8 - r)).all fun d => (shapesU r d).all fun l => decide (l.length ≤ 7) && ((List.range (l.length + 1)).all fun k => decide (0 ≤ sumN l k ∧ sumN l k ≤ 49)) && decide (sumN l l.length ≤ ((r * d : Nat) : Int))) = true := by decide +kernel
  rw [List.all_eq_true] at h0
  have h1 := h0 r (List.mem_range.2 (by omega))
  rw [List.all_eq_true] at h1
  have h2 := h1 d (List.mem_range.2 (by omega))
  rw [List.all_eq_true] at h2
  have h3 := h2 l hl
  simp only [Bool.and_eq_true, decide_eq_true_eq, List.all_eq_true, List.mem_range] at h3
  exact ⟨h3.1.1, fun k hk => h3.1.2 k (by omega), h3.2⟩
/-- The counts when i shapes are taken. -/
def szN (l : List Int) : Nat := (sumN l l.length).toNat
def gauL (L : List (List Int)) (N : Nat) : Nat → List Int
  | 0 => List.replicate N 0
  | i + 1 => (gauL L N i).set (szN (li L i)) (nth (gauL L N i) (szN (li L i)) + 1)
theorem gauL_len (L : List (List Int)) (N : Nat) : ∀ i, (gauL L N i).length = N
  | 0 => by simp [gauL]
  | i + 1 => by simp [gauL, gauL_len L N i]
theorem gauL_bound (L : List (List Int)) (N : Nat) : ∀ i j, 0 ≤ nth (gauL L N i) j ∧ nth (gauL L N i) j ≤ (i : Int)
  | 0, j => by
    by_cases h : j < N
    · rw [show gauL L N 0 = List.replicate N 0 from rfl, nth_get (by simpa using h)]; simp
    · rw [nth_out (by rw [gauL_len]; omega)]; simp
  | i + 1, j => by
    have h1 := gauL_bound L N i j
    have h2 := gauL_bound L N i (szN (li L i))
    by_cases h : szN (li L i) < N
    · show 0 ≤ nth ((gauL L N i).set _ _) j ∧ nth ((gauL L N i).set _ _) j ≤ _
      rw [nth_set _ (by rw [gauL_len]; exact h)]
      split <;> omega
    · have e : gauL L N (i + 1) = gauL L N i := by
        show (gauL L N i).set _ _ = _
        rw [List.set_eq_of_length_le (by rw [gauL_len]; omega)]
      rw [e]; omega
/-- What GaussCounts answers. -/
def gauN (k m : Int) : List Int := if boxB [] k m = true then gauL (shapesU k.toNat (m - k).toNat) (k.toNat * (m - k).toNat + 1) (shapesU k.toNat (m - k).toNat).length else []
theorem gau_no {k m : Int} (h : boxB [] k m = false) : gauN k m = [] := by unfold gauN; rw [if_neg (by rw [h]; decide)]
theorem gau_yes {k d : Nat} {m : Int} (h : boxB [] (k : Int) m = true) (hd : m - (k : Int) = (d : Int)) : gauN (k : Int) m = gauL (shapesU k d) (k * d + 1) (shapesU k d).length := by unfold gauN; rw [if_pos h, hd, Int.toNat_natCast, Int.toNat_natCast]
theorem gau_small (k m : Int) : (gauN k m).length ≤ 1099511627775 := by
  unfold gauN
  split
  · rename_i h
    have hp := boxB_P h
    have h1 := hp.2.1; have h2 := hp.2.2.2.1; have h3 := hp.2.2.1
    rw [gauL_len]
    have := Nat.mul_le_mul (show k.toNat ≤ 7 by omega) (show (m - k).toNat ≤ 7 by omega)
    omega
  · simp
set_option maxRecDepth 100000 in
set_option maxHeartbeats 1600000 in
theorem implGauss_any (k m : Int) (w : World) :
    Calls Try.prog 33 #[.int .i64 k, .int .i64 m] w fun e w' => Fresh w w' e (gauN k m) := by
  have HI := Lib.hid (fun w' => isBox_any k m w')
  rw [← box_empty] at HI
  cases hu : boxB [] k m with
  | false =>
    rw [hu] at HI
    have HE := Lib.hid (gau_no hu)
    clear hu
    go_enter Try.func33, Try.ntmps33
    go_wp2_with (go_at_call 73; refine (HI.out _).mono ?_; rintro e w2 ⟨rfl, rfl⟩)
    go_ret
    rw [HE.out]
    exact Fresh.nil_ret' (Below.refl _ _)
  | true =>
    rw [hu] at HI
    have hp := boxB_P hu
    have hm7 := hp.2.1
    have hkm := hp.2.2.2.1
    obtain ⟨k', rfl⟩ : ∃ k' : Nat, k = k' := ⟨k.toNat, by have := hp.2.2.1; omega⟩
    obtain ⟨k, hk0⟩ : ∃ k : Nat, k = k' := ⟨_, rfl⟩
    subst hk0
    obtain ⟨d, hd⟩ : ∃ d : Nat, m - (k : Int) = (d : Int) := ⟨(m - (k : Int)).toNat, by omega⟩
    have HE := Lib.hid (gau_yes hu hd)
    have hk7 : k ≤ 7 := by omega
    have hd7 : d ≤ 7 := by omega
    obtain ⟨p, hpd⟩ : ∃ p : Nat, p = k * d := ⟨_, rfl⟩
    have hp49 : p ≤ 49 := by rw [hpd]; exact Nat.mul_le_mul hk7 hd7
    have hw1 : IntKind.i64.wrap (m - (k : Int)) = (d : Int) := by rw [hd]; exact IntWalk.i64_in _ (by omega)
    have hw2 : IntKind.i64.wrap ((k : Int) * (d : Int)) = (p : Int) := by rw [hpd, Int.natCast_mul]; exact IntWalk.i64_in _ (by have e := Int.natCast_mul k d; rw [← hpd] at e; omega)
    obtain ⟨N, hN⟩ : ∃ N : Nat, N = p + 1 := ⟨_, rfl⟩
    have hw3 : IntKind.i64.wrap ((p : Int) + 1) = (N : Int) := by rw [show (p : Int) + 1 = (N : Int) by omega]; exact IntWalk.i64_in _ (by omega)
    have HSA := Lib.hid (fun w' => shapesNil_any k d w' hk7 hd7)
    have HFA := Lib.hid (fun (l : List Int) (hl : l ∈ shapesU k d) => shp_fact (by omega : k + d ≤ 7) hl)
    rw [← hpd] at HE HFA
    rw [← hN] at HE
    have hcnt := shapesU_few hk7 hd7
    generalize shapesU k d = L at HSA HFA HE hcnt
    have hN50 : N ≤ 50 := by omega
    have HN := Lib.hid hN
    clear hu hp hd hpd hN
    go_enter Try.func33, Try.ntmps33
    go_wp2_with (first
      | (go_at_call 73; refine (HI.out _).mono ?_; rintro e w2 ⟨rfl, rfl⟩)
      | (at_make; refine wpList_make_zero rfl (.tmp 17) (.tmp 17) rfl N rfl rfl (by omega) ?_; intro x1 hr1 hx1; have HR1 := Lib.hid hr1; have HX1 := Lib.hid hx1; clear hr1 hx1)
      | (go_at_call 83; refine (HSA.out _).mono ?_; rintro e w3 ⟨A3, n3, c3, rfl, ho3, hb3⟩
         have HL3 := Lib.hid ho3
         have HB3 : Hid (Below w.heap.size w w3) := Lib.hid (HX1.out.trans (hb3.mono HX1.out.size))
         have HO3 : Hid (Own w3 w.heap.size x1.heap.size (some ⟨w.heap.size, 0, none⟩) N N (gauL L N 0)) := Lib.hid (HR1.out.below hb3 (Nat.le_refl _))
         have HZ3 : Hid (x1.heap.size ≤ w3.heap.size) := Lib.hid hb3.size
         have hn3 : n3 ≤ 3432 := by have := ho3.len; omega
         have HNL : Hid (L.length = n3) := Lib.hid ho3.len
         clear ho3 hb3))
    obtain ⟨g, hg⟩ : ∃ g, g = w.heap.size := ⟨_, rfl⟩
    have hgx : g < x1.heap.size := by rw [hg]; exact (HR1.out.lt w.heap.size rfl).2
    rw [← hg] at HO3 ⊢
    have HG := Lib.hid hg
    clear hg hcnt
    go_loopw [25] (fun iv wr => ∃ i : Nat, i ≤ n3 ∧ iv = .int .i64 i ∧ Own wr g x1.heap.size (some ⟨g, 0, none⟩) N N (gauL L N i) ∧ OwnL wr x1.heap.size w3.heap.size A3 n3 c3 L ∧ Below g w wr ∧ w3.heap.size ≤ wr.heap.size)
      (fun iv _ => n3 - (intOf iv).toNat)
    case atStart => exact ⟨0, Nat.zero_le _, rfl, HO3.out, HL3.out, by rw [HG.out]; exact HB3.out, Nat.le_refl _⟩
    case round =>
      obtain ⟨i, hi, rfl, ho, hl, hb, hz⟩ := hrel
      clear HO3 HL3 HB3
      have HO := Lib.hid ho
      have HL := Lib.hid hl
      have HB := Lib.hid hb
      have HZ := Lib.hid hz
      clear ho hl hb hz
      by_cases hlt : i < n3
      · have hlI : (i : Int) < (n3 : Int) := by omega
        obtain ⟨b, o, A', n', c', rfl, hbb, hcell, hsi, hnc, hnil⟩ := HL.out.si.at_ hlt
        have hF := HFA.out (li L i) (by rw [li_get (by rw [HNL.out]; exact hlt)]; exact List.getElem_mem _)
        obtain ⟨j, hj⟩ : ∃ j : Nat, sumN (li L i) (li L i).length = (j : Int) := ⟨(sumN (li L i) (li L i).length).toNat, by have := hF.2.1 _ (Nat.le_refl _); omega⟩
        have hjs : szN (li L i) = j := by unfold szN; rw [hj, Int.toNat_natCast]
        have hjN : j < N := by have := hF.2.2; rw [hj] at this; have := HN.out; omega
        have hjI : (j : Int) < (N : Int) := by omega
        have hn' : n' ≤ 16 := by have := hsi.1; have := hF.1; omega
        have hRL := rowLengthsOf_any A' n' c' (li L i) wr hsi hn'
        have hpad := sumN_pad (xs := li L i) (by have := hF.1; omega)
        have hSZ := fun w' => rowsSize_any (padN 16 (li L i)) w' (fun q hq => by
          rw [sumN_congr (ys := li L i) q (fun j _ => padN_nth 16 (li L i) j)]
          by_cases hql : q ≤ (li L i).length
          · have := hF.2.1 q hql; omega
          · rw [sumN_out q (by omega)]; have := hF.2.1 _ (Nat.le_refl (li L i).length); omega)
        rw [hpad, hj] at hSZ
        have hG1 : gauL L N (i + 1) = (gauL L N i).set j (nth (gauL L N i) j + 1) := by show (gauL L N i).set _ _ = _; rw [hjs]
        have hgb := gauL_bound L N i j
        obtain ⟨y, hy⟩ : ∃ y, y = nth (gauL L N i) j := ⟨_, rfl⟩
        rw [← hy] at hG1 hgb
        obtain ⟨hy0, hy1⟩ := hgb
        have hwy : IntKind.i64.wrap (y + 1) = y + 1 := IntWalk.i64_in _ (by omega)
        have HRL := Lib.hid hRL
        have HSZ := Lib.hid hSZ
        have HG1 := Lib.hid hG1
        have HY := Lib.hid hy
        clear hF hj hjs hRL hpad hSZ hG1 hy hsi hnil hnc
        generalize padN 16 (li L i) = lp at HRL HSZ
        go_wp2_with (first
          | (go_at_call 67; refine HRL.out.mono ?_; rintro e w4 ⟨rfl, hb4⟩; have HB4 := Lib.hid hb4; clear hb4)
          | (go_at_call 84; refine (HSZ.out w4).mono ?_; rintro e w5 ⟨rfl, hb5⟩
             have HB5 : Hid (Below wr.heap.size wr w5) := Lib.hid (HB4.out.trans (hb5.mono HB4.out.size))
             have HO5 := Lib.hid (HO.out.below HB5.out (Nat.le_trans HZ3.out HZ.out))
             have hc5 : w5.cell? ⟨g, j, none⟩ = some (.int .i64 y) := by rw [HY.out]; exact HO5.out.cellAt hjN
             have hf5 := HO5.out.frozenAt j
             have HS5 := Lib.hid (HO5.out.set_ (k := j) (y + 1))
             clear hb5))
        have HW5 := Lib.hid (Within.of_grown HS5.out.2 (lo := g) (hi := x1.heap.size) (fun q e => by injection e with e; subst e; exact ⟨Nat.le_refl _, hgx⟩))
        go_roundw
        case rel => exact ⟨i + 1, by omega, by go_num, by rw [HG1.out]; exact HS5.out.1, (HL.out.below HB5.out HZ.out).within HW5.out (.inr (Nat.le_refl _)), (HB.out.trans (HB5.out.mono (by have := HB.out.size; have := HG.out; omega))).grown HS5.out.2 (by have := HB5.out.size; have := HB.out.size; have := HG.out; omega) (by rintro q ⟨⟩; exact Nat.le_refl _), by have := HS5.out.2.size; have := HB5.out.size; have := HZ.out; omega⟩
        case measure => simp [intOf]; omega
      · obtain rfl : i = n3 := by omega
        go_wp2
        go_ret
        rw [HE.out, HNL.out]
        exact ⟨_, N, N, rfl, HO.out.wide (by have := HG.out; omega) (by have := HZ3.out; have := HZ.out; omega), by rw [← HG.out]; exact HB.out⟩
set_option maxRecDepth 100000 in
set_option maxHeartbeats 1600000 in
theorem specGauss_any (k m : Int) (w : World) :
    Calls Try.prog 32 #[.int .i64 k, .int .i64 m] w fun e w' => Fresh w w' e (gauN k m) := by
  cases hu : boxB [] k m with
  | false =>
    have HE := Lib.hid (gau_no hu)
    rw [box_empty] at hu
    have hu := of_decide_eq_false hu
    by_cases h1 : 1 ≤ m ∧ m ≤ 7
    · have H1 := Lib.hid (fun w => l1In_yes' h1.1 h1.2 w)
      have H2 := Lib.hid (fun w => l1In_no' (a := k) (lo := 0) (hi := m) (by omega) w)
      clear hu h1
      go_enter Try.func32, Try.ntmps32
      go_wp2_with (go_at_call 70; first | ((with_reducible refine (H1.out _).mono ?_); rintro e w1 ⟨rfl, rfl⟩) | ((with_reducible refine (H2.out _).mono ?_); rintro e w1 ⟨rfl, rfl⟩))
      go_ret
      rw [HE.out]
      exact Fresh.nil_ret' (Below.refl _ _)
    · have H1 := Lib.hid (fun w => l1In_no' (a := m) (lo := 1) (hi := 7) (by omega) w)
      clear hu h1
      go_enter Try.func32, Try.ntmps32
      go_wp2_with (go_at_call 70; refine (H1.out _).mono ?_; rintro e w1 ⟨rfl, rfl⟩)
      go_ret
      rw [HE.out]
      exact Fresh.nil_ret' (Below.refl _ _)
  | true =>
    have hp := boxB_P hu
    have H1 := Lib.hid (fun w => l1In_yes' hp.1 hp.2.1 w)
    have H2 := Lib.hid (fun w => l1In_yes' hp.2.2.1 hp.2.2.2.1 w)
    have hm7 := hp.2.1
    have hkm := hp.2.2.2.1
    obtain ⟨k', rfl⟩ : ∃ k' : Nat, k = k' := ⟨k.toNat, by have := hp.2.2.1; omega⟩
    obtain ⟨k, hk0⟩ : ∃ k : Nat, k = k' := ⟨_, rfl⟩
    subst hk0
    obtain ⟨d, hd⟩ : ∃ d : Nat, m - (k : Int) = (d : Int) := ⟨(m - (k : Int)).toNat, by omega⟩
    have HE := Lib.hid (gau_yes hu hd)
    have hk7 : k ≤ 7 := by omega
    have hd7 : d ≤ 7 := by omega
    obtain ⟨p, hpd⟩ : ∃ p : Nat, p = k * d := ⟨_, rfl⟩
    have hp49 : p ≤ 49 := by rw [hpd]; exact Nat.mul_le_mul hk7 hd7
    have hw1 : IntKind.i64.wrap (m - (k : Int)) = (d : Int) := by rw [hd]; exact IntWalk.i64_in _ (by omega)
    have hw2 : IntKind.i64.wrap ((k : Int) * (d : Int)) = (p : Int) := by rw [hpd, Int.natCast_mul]; exact IntWalk.i64_in _ (by have e := Int.natCast_mul k d; rw [← hpd] at e; omega)
    obtain ⟨N, hN⟩ : ∃ N : Nat, N = p + 1 := ⟨_, rfl⟩
    have hw3 : IntKind.i64.wrap ((p : Int) + 1) = (N : Int) := by rw [show (p : Int) + 1 = (N : Int) by omega]; exact IntWalk.i64_in _ (by omega)
    have HSA := Lib.hid (fun w' => l4ShapesNew_any k d w' hk7 hd7)
    have HFA := Lib.hid (fun (l : List Int) (hl : l ∈ shapesU k d) => shp_fact (by omega : k + d ≤ 7) hl)
    rw [← hpd] at HE HFA
    rw [← hN] at HE
    have hcnt := shapesU_few hk7 hd7
    generalize shapesU k d = L at HSA HFA HE hcnt
    have hN50 : N ≤ 50 := by omega
    have HN := Lib.hid hN
    clear hu hp hd hpd hN
    go_enter Try.func32, Try.ntmps32
    go_wp2_with (first
      | (go_at_call 70; first | ((with_reducible refine (H1.out _).mono ?_); rintro e w1 ⟨rfl, rfl⟩) | ((with_reducible refine (H2.out _).mono ?_); rintro e w1 ⟨rfl, rfl⟩))
      | (at_make; refine wpList_make_zero rfl (.tmp 22) (.tmp 22) rfl N rfl rfl (by omega) ?_; intro x1 hr1 hx1; have HR1 := Lib.hid hr1; have HX1 := Lib.hid hx1; clear hr1 hx1)
      | (go_at_call 81; refine (HSA.out x1).mono ?_; rintro e w3 ⟨A3, n3, c3, rfl, ho3, hb3⟩
         have HL3 := Lib.hid ho3
         have HB3 : Hid (Below w.heap.size w w3) := Lib.hid (HX1.out.trans (hb3.mono HX1.out.size))
         have HO3 : Hid (Own w3 w.heap.size x1.heap.size (some ⟨w.heap.size, 0, none⟩) N N (gauL L N 0)) := Lib.hid (HR1.out.below hb3 (Nat.le_refl _))
         have HZ3 : Hid (x1.heap.size ≤ w3.heap.size) := Lib.hid hb3.size
         have hn3 : n3 ≤ 3432 := by have := ho3.len; omega
         have HNL : Hid (L.length = n3) := Lib.hid ho3.len
         clear ho3 hb3))
    obtain ⟨g, hg⟩ : ∃ g, g = w.heap.size := ⟨_, rfl⟩
    have hgx : g < x1.heap.size := by rw [hg]; exact (HR1.out.lt w.heap.size rfl).2
    rw [← hg] at HO3 ⊢
    have HG := Lib.hid hg
    clear hg hcnt
    go_loopw [7] (fun iv wr => ∃ i : Nat, i ≤ n3 ∧ iv = .int .i64 i ∧ Own wr g x1.heap.size (some ⟨g, 0, none⟩) N N (gauL L N i) ∧ OwnL wr x1.heap.size w3.heap.size A3 n3 c3 L ∧ Below g w wr ∧ w3.heap.size ≤ wr.heap.size)
      (fun iv _ => n3 - (intOf iv).toNat)
    case atStart => exact ⟨0, Nat.zero_le _, rfl, HO3.out, HL3.out, by rw [HG.out]; exact HB3.out, Nat.le_refl _⟩
    case round =>
      obtain ⟨i, hi, rfl, ho, hl, hb, hz⟩ := hrel
      clear HO3 HL3 HB3
      have HO := Lib.hid ho
      have HL := Lib.hid hl
      have HB := Lib.hid hb
      have HZ := Lib.hid hz
      clear ho hl hb hz
      by_cases hlt : i < n3
      · have hlI : (i : Int) < (n3 : Int) := by omega
        obtain ⟨b, o, A', n', c', rfl, hbb, hcell, hsi, hnc, hnil⟩ := HL.out.si.at_ hlt
        have hF := HFA.out (li L i) (by rw [li_get (by rw [HNL.out]; exact hlt)]; exact List.getElem_mem _)
        obtain ⟨j, hj⟩ : ∃ j : Nat, sumN (li L i) (li L i).length = (j : Int) := ⟨(sumN (li L i) (li L i).length).toNat, by have := hF.2.1 _ (Nat.le_refl _); omega⟩
        have hjs : szN (li L i) = j := by unfold szN; rw [hj, Int.toNat_natCast]
        have hjN : j < N := by have := hF.2.2; rw [hj] at this; have := HN.out; omega
        have hjI : (j : Int) < (N : Int) := by omega
        have hSU := l1Sum_any A' n' c' (li L i) wr hsi (by have := hsi.1; have := hF.1; omega) (fun q hq => by have := hF.2.1 q (by have := hsi.1; omega); omega)
        rw [← hsi.1, hj] at hSU
        rw [hsi.1] at hSU
        have hG1 : gauL L N (i + 1) = (gauL L N i).set j (nth (gauL L N i) j + 1) := by show (gauL L N i).set _ _ = _; rw [hjs]
        have hgb := gauL_bound L N i j
        obtain ⟨y, hy⟩ : ∃ y, y = nth (gauL L N i) j := ⟨_, rfl⟩
        rw [← hy] at hG1 hgb
        obtain ⟨hy0, hy1⟩ := hgb
        have hwy : IntKind.i64.wrap (y + 1) = y + 1 := IntWalk.i64_in _ (by omega)
        have HSU := Lib.hid hSU
        have HG1 := Lib.hid hG1
        have HY := Lib.hid hy
        clear hF hj hjs hSU hG1 hy hsi hnil hnc
        go_wp2_with (first
          | (go_at_call 82; refine HSU.out.mono ?_; rintro e w5 ⟨rfl, hd5⟩
             have HB5 : Hid (Below wr.heap.size wr w5) := Lib.hid (hd5.below _)
             have HO5 := Lib.hid (HO.out.below HB5.out (Nat.le_trans HZ3.out HZ.out))
             have hc5 : w5.cell? ⟨g, j, none⟩ = some (.int .i64 y) := by rw [HY.out]; exact HO5.out.cellAt hjN
             have hf5 := HO5.out.frozenAt j
             have HS5 := Lib.hid (HO5.out.set_ (k := j) (y + 1))
             clear hd5))
        have HW5 := Lib.hid (Within.of_grown HS5.out.2 (lo := g) (hi := x1.heap.size) (fun q e => by injection e with e; subst e; exact ⟨Nat.le_refl _, hgx⟩))
        go_roundw
        case rel => exact ⟨i + 1, by omega, by go_num, by rw [HG1.out]; exact HS5.out.1, (HL.out.below HB5.out HZ.out).within HW5.out (.inr (Nat.le_refl _)), (HB.out.trans (HB5.out.mono (by have := HB.out.size; have := HG.out; omega))).grown HS5.out.2 (by have := HB5.out.size; have := HB.out.size; have := HG.out; omega) (by rintro q ⟨⟩; exact Nat.le_refl _), by have := HS5.out.2.size; have := HB5.out.size; have := HZ.out; omega⟩
        case measure => simp [intOf]; omega
      · obtain rfl : i = n3 := by omega
        go_wp2
        go_ret
        rw [HE.out, HNL.out]
        exact ⟨_, N, N, rfl, HO.out.wide (by have := HG.out; omega) (by have := HZ3.out; have := HZ.out; omega), by rw [← HG.out]; exact HB.out⟩
end Go.Proofs.Ytdkcngilmdpbgaa
