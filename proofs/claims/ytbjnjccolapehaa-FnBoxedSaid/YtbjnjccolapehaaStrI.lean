/-
  Strings of zeros and ones and their shapes, the program's side. Conditions: lengths below 2^40.
-/
import Derived.Test.YtbjnjccolapehaaStrC
namespace Go.Proofs.Ytbjnjccolapehaa
open Go.RowKit

set_option maxHeartbeats 800000 in
theorem implIsString_any (A : Option Addr) (n c : Nat) (xs : List Int) (w : World) (hs : SI w A n xs) (hn : n ≤ 1099511627776) :
    Calls Try.prog 33 #[.slice A n c] w fun e w' => e = .returned (.bool (strB xs)) ∧ Drawn w w' := by
  have HL := Lib.hid hs.1
  by_cases h17 : 1 ≤ n ∧ n ≤ 7
  · have H1 := Lib.hid (fun w => isPermSize_yes (a := (n : Int)) (by omega) (by omega) w)
    by_cases hall : ∀ k, k < n → 0 ≤ nth xs k ∧ nth xs k ≤ 1
    · have HC := Lib.hid (containsStr_no A n c xs w hs hn hall)
      have HF := Lib.hid (strB_true (xs := xs) ⟨by have := HL.out; omega, by have := HL.out; omega, by rw [HL.out]; exact hall⟩)
      clear hs h17 hall
      go_enter Try.func33, Try.ntmps33
      go_wp2_with (first
        | (go_at_call 50; refine (H1.out _).mono ?_; rintro e w1 ⟨rfl, rfl⟩)
        | (go_at_call 51; refine HC.out.mono ?_; rintro e w2 ⟨rfl, hd2⟩; have HD2 := Lib.hid hd2; clear hd2))
      go_ret
      exact ⟨ret_bool HF.out.symm, HD2.out⟩
    · have HC := Lib.hid (containsStr_yes A n c xs w hs hn hall)
      have HF := Lib.hid (strB_false (xs := xs) (fun h => hall (by have := h.2.2; rwa [HL.out] at this)))
      clear hs h17 hall
      go_enter Try.func33, Try.ntmps33
      go_wp2_with (first
        | (go_at_call 50; refine (H1.out _).mono ?_; rintro e w1 ⟨rfl, rfl⟩)
        | (go_at_call 51; refine HC.out.mono ?_; rintro e w2 ⟨rfl, hd2⟩; have HD2 := Lib.hid hd2; clear hd2))
      go_ret
      exact ⟨ret_bool HF.out.symm, HD2.out⟩
  · have H1 := Lib.hid (fun w => isPermSize_no (a := (n : Int)) (by omega) w)
    have HF := Lib.hid (strB_false (xs := xs) (fun h => h17 (by have := h.1; have := h.2.1; have := HL.out; omega)))
    clear h17 hs
    go_enter Try.func33, Try.ntmps33
    go_wp2_with (go_at_call 50; refine (H1.out _).mono ?_; rintro e w1 ⟨rfl, rfl⟩)
    go_ret
    exact ⟨ret_bool HF.out.symm, Drawn.refl _⟩
set_option maxHeartbeats 800000 in
theorem onesOf_any (A : Option Addr) (n c : Nat) (xs : List Int) (w : World) (hs : SI w A n xs) (hp : strP xs) :
    Calls Try.prog 35 #[.slice A n c] w fun e w' => e = .returned (.int .i64 (oneN xs n)) ∧ Drawn w w' := by
  have hl := hs.1
  have hn7 : n ≤ 7 := by have := hp.2.1; omega
  have HR := Lib.hid hp.2.2
  have HL := Lib.hid hl
  clear hl hp
  go_enter Try.func35, Try.ntmps35
  go_wp2
  go_loopw [3, 8] (fun v iv wr => ∃ k : Nat, k ≤ n ∧ iv = .int .i64 k ∧ v = .int .i64 (oneN xs k) ∧ Drawn w wr)
    (fun _ iv _ => n - (intOf iv).toNat)
  case atStart => exact ⟨0, Nat.zero_le _, rfl, rfl, Drawn.refl _⟩
  case round =>
    obtain ⟨k, hk, rfl, rfl, hD⟩ := hrel
    have HDR := Lib.hid hD
    have hs := hD.si hs
    clear hD
    by_cases hlt : k < n
    · have hlI : (k : Int) < (n : Int) := by omega
      obtain ⟨b, o, rfl, hb, hc⟩ := hs.at_ (by omega)
      have hc1 := hc k hlt
      obtain ⟨x, hx⟩ : ∃ x, x = nth xs k := ⟨_, rfl⟩
      rw [← hx] at hc1
      have hr := HR.out k (by have := HL.out; omega)
      rw [← hx] at hr
      have hsum : Hid ((oneN xs (k + 1) : Int) = (oneN xs k : Int) + x) := Lib.hid (by
        by_cases h : nth xs k = 0
        · rw [oneN_zero h, hx, h]; omega
        · rw [oneN_one h]
          omega)
      have hz7 : oneN xs k ≤ 7 := by have := zer_one xs k; omega
      obtain ⟨z, hz⟩ : ∃ z, z = oneN xs k := ⟨_, rfl⟩
      rw [← hz] at hz7 hsum ⊢
      have hw1 : IntKind.i64.wrap ((z : Int) + x) = (z : Int) + x := IntWalk.i64_in _ (by omega)
      clear hc hx hs hz hr
      go_wp2
      go_roundw
      case rel => exact ⟨k + 1, by omega, by go_num, by rw [hsum.out], HDR.out⟩
      case measure => simp [intOf]; omega
    · have hkn : k = n := by omega
      subst hkn
      go_wp2
      go_ret
      exact ⟨rfl, HDR.out⟩
set_option maxRecDepth 100000 in
set_option maxHeartbeats 1600000 in
theorem rowsOfString_any (A : Option Addr) (n c : Nat) (xs : List Int) (w : World) (hs : SI w A n xs) (hp : strP xs) :
    Calls Try.prog 34 #[.slice A n c] w fun e w' => e = .returned (arr16 (rowL xs n n)) ∧ Below w.heap.size w w' := by
  have hl := hs.1
  have hn7 : n ≤ 7 := by have := hp.2.1; omega
  have HON := Lib.hid (fun w' (hb : Below w.heap.size w w') => onesOf_any A n c xs w' (hs.below hb (Nat.le_refl _)) hp)
  have HL := Lib.hid hl
  have HS := Lib.hid hs
  clear hl hp hs
  obtain ⟨w1, hw1⟩ : ∃ w1, w1 = (w.alloc (.cells zero16 37)).alloc (.cells zero16 37) := ⟨_, rfl⟩
  obtain ⟨g, hg⟩ : ∃ g, g = w.heap.size := ⟨_, rfl⟩
  have HB1 : Hid (Below w.heap.size w w1) := Lib.hid (by rw [hw1]; exact ((Below.refl _ _).alloc (Nat.le_refl _) _).alloc (by simp) _)
  have HK1 : Hid (Blk w1 (g + 1) 37 (arrD (rowL xs n 0))) := Lib.hid (by
    rw [hw1, hg, rowL_start (by omega)]
    have := Blk.new (w.alloc (.cells zero16 37)) 37 zero16
    rwa [show (w.alloc (.cells zero16 37)).heap.size = w.heap.size + 1 from by simp] at this)
  have HZ1 : Hid (Blk w1 g 37 zero16) := Lib.hid (by rw [hw1, hg]; exact (Blk.new w 37 zero16).alloc _)
  have HW1 := Lib.hid hw1
  have HG := Lib.hid hg
  obtain ⟨g1, hg1⟩ : ∃ g1, g1 = g + 1 := ⟨_, rfl⟩
  have HG1 := Lib.hid hg1
  rw [← hg1] at HK1
  obtain ⟨z, hz⟩ : ∃ z, z = oneN xs n := ⟨_, rfl⟩
  have HZ := Lib.hid hz
  have hz7 : z ≤ 7 := by have := zer_one xs n; omega
  rw [← hz] at HON
  clear hw1 hg hg1 hz
  go_enter Try.func34, Try.ntmps34
  go_upto_region 2 with fail
  rw [← HW1.out, ← HG.out]
  rw [← HG1.out]
  go_wp2_with (go_at_call 35; refine (HON.out _ HB1.out).mono ?_; rintro e w2 ⟨rfl, hd2⟩
               have HK2 : Hid (Blk w2 g1 37 (arrD (rowL xs n 0))) := Lib.hid (HK1.out.drawn hd2)
               have HZ2 : Hid (Blk w2 g 37 zero16) := Lib.hid (HZ1.out.drawn hd2)
               have HB2 : Hid (Below w.heap.size w w2) := Lib.hid (HB1.out.trans (hd2.below _))
               clear hd2)
  go_loopw [4, 5, 12] (fun zv ov iv wr => ∃ k : Nat, k ≤ n ∧ iv = .int .i64 k ∧ zv = .int .i64 (zerN xs k) ∧ ov = .int .i64 ((z : Int) - (oneN xs k : Int)) ∧ Blk wr g1 37 (arrD (rowL xs n k)) ∧ Blk wr g 37 zero16 ∧ Below w.heap.size w wr)
    (fun _ _ iv _ => n - (intOf iv).toNat)
  case atStart => exact ⟨0, Nat.zero_le _, rfl, rfl, by simp [oneN], HK2.out, HZ2.out, HB2.out⟩
  case round =>
    obtain ⟨k, hk, rfl, rfl, rfl, hbk, hbz, hbw⟩ := hrel
    clear HK2 HZ2 HB2
    have HK := Lib.hid hbk
    have HZB := Lib.hid hbz
    have HB := Lib.hid hbw
    clear hbk hbz hbw
    have hu7 : zerN xs k ≤ 7 := by have := zer_one xs k; omega
    have ho7 : oneN xs k ≤ 7 := by have := zer_one xs k; omega
    by_cases hlt : k < n
    · have hlI : (k : Int) < (n : Int) := by omega
      obtain ⟨b, o, rfl, hb, hc⟩ := (HS.out.below HB.out (Nat.le_refl _)).at_ (by omega)
      have hc1 := hc k hlt
      obtain ⟨x, hx⟩ : ∃ x, x = nth xs k := ⟨_, rfl⟩
      rw [← hx] at hc1
      have HX := Lib.hid hx
      clear hc hx
      by_cases hx0 : x = 0
      · have hxb : (x == 0) = true := by simpa using hx0
        have HX0 : Hid (nth xs k = 0) := Lib.hid (by rw [← HX.out]; exact hx0)
        clear hx0
        obtain ⟨u, hu⟩ : ∃ u, u = zerN xs k := ⟨_, rfl⟩
        rw [← hu] at hu7 ⊢
        have HU := Lib.hid hu
        clear hu
        go_wp2
        go_roundw
        case rel => exact ⟨k + 1, by omega, by go_num, by rw [zerN_zero HX0.out, ← HU.out]; go_num, by rw [oneN_zero HX0.out], by rw [rowL_same HX0.out]; exact HK.out, HZB.out, HB.out⟩
        case measure => simp [intOf]; omega
      · have hxb : (x == 0) = false := by simpa using hx0
        have HX0 : Hid (nth xs k ≠ 0) := Lib.hid (by rw [← HX.out]; exact hx0)
        clear hx0
        have hle := one_le xs (j := k + 1) (k := n) hlt
        rw [oneN_one HX0.out, ← HZ.out] at hle
        have hset := rowL_set (xs := xs) (n := n) (j := k) hlt HX0.out
        rw [← HZ.out] at hset
        obtain ⟨u, hu⟩ : ∃ u, u = zerN xs k := ⟨_, rfl⟩
        rw [← hu] at hu7 hset ⊢
        have HU := Lib.hid hu
        obtain ⟨v, hv⟩ : ∃ v, v = oneN xs k := ⟨_, rfl⟩
        rw [← hv] at ho7 hset hle ⊢
        have HV := Lib.hid hv
        clear hu hv
        obtain ⟨t, ht⟩ : ∃ t, t = z - v - 1 := ⟨_, rfl⟩
        rw [← ht] at hset
        have ht16 : t < 16 := by omega
        have hti : (z : Int) - (v : Int) - 1 = (t : Int) := by omega
        have hw1 : IntKind.i64.wrap ((z : Int) - (v : Int) - 1) = (t : Int) := by rw [hti]; exact IntWalk.i64_in _ (by omega)
        have hct : wr.cell? ⟨g1, t, none⟩ = some (.int .i64 (nth (rowL xs n k) t)) := by rw [HK.out.cell, arrD_get _ _ ht16]
        have hft := HK.out.frozen t
        have HFIN : Hid (Blk (wr.setCell ⟨g1, t, none⟩ (.int .i64 u)) g1 37 (arrD (rowL xs n (k + 1)))) := Lib.hid (by
          have h1 := HK.out.set_ t (.int .i64 u)
          rwa [arrD_set _ _ ht16 _ (rowL_len (by omega) (by omega)), hset] at h1)
        have ht0 : (t : Int) < 16 := by omega
        have HTI := Lib.hid hti
        have HT : Hid ((z : Int) - ((v + 1 : Nat) : Int) = (t : Int)) := Lib.hid (by omega)
        clear hset ht hti
        go_wp2
        go_roundw
        case rel => exact ⟨k + 1, by omega, by go_num, by rw [zerN_one HX0.out, ← HU.out], by rw [oneN_one HX0.out, ← HV.out, HT.out], HFIN.out, HZB.out.far (by have := HG1.out; show g ≠ g1; omega) _, HB.out.setCell (by have := HG1.out; have := HG.out; show w.heap.size ≤ g1; omega) _⟩
        case measure => simp [intOf]; omega
    · have hkn : k = n := by omega
      subst hkn
      obtain ⟨L, hL⟩ : ∃ L, L = rowL xs k k := ⟨_, rfl⟩
      rw [← hL] at HK
      have HLL := Lib.hid hL
      clear hL
      go_wp2_with (first
        | (refine wpList_load_blk rfl 37 (.tmp 3) rfl g1 rfl 37 (arrD L) 16 3 HK.out Try.undRows Try.infoRows ?_)
        | (refine wpList_store_blk rfl 37 (.tmp 2) (.tmp 26) rfl g (arrD L) rfl rfl 37 zero16 HZB.out Try.infoRows rfl (arrD_one _) ?_; intro w5 hb5 hg5)
        | fail)
      refine bodyPost_ret (results_blk Try.results34 _ _ _ _ _ 16 3 rfl hb5 Try.undRows Try.infoRows) rfl ?_
      exact ⟨by rw [HLL.out], HB.out.grown hg5 HB.out.size (by rintro q ⟨⟩; have := HG.out; omega)⟩
theorem row_take {xs : List Int} {n q : Nat} (hn : n ≤ 7) (_hq : q ≤ 16) (h1 : ∀ j, j < q → 0 < nth (rowL xs n n) j) (h2 : q = 16 ∨ ¬ 0 < nth (rowL xs n n) q) : (rowL xs n n).take q = bareS xs n := by
  have hz := zer_one xs n
  have hl : (shpL xs n).length = oneN xs n := shpL_len xs n
  have h3 : ∀ j, j < q → 0 < nth (shpL xs n) j := fun j hj => by have := h1 j hj; rwa [rowL_nth] at this
  have h4 : ¬ 0 < nth (shpL xs n) q := by
    rcases h2 with h | h
    · subst h; rw [nth_out (by omega)]; decide
    · rwa [rowL_nth] at h
  have hb := bare_one hl (fun j => (shpL_range xs n j).1) (fun i j h => shpL_down xs n i j h) h3 h4
  have hq2 : q ≤ oneN xs n := by rw [hb]; exact bareN_le _ _
  unfold bareS
  rw [← hb, rowL_end, List.take_append_of_le_length (by omega)]
set_option maxHeartbeats 800000 in
theorem implSos_any (A : Option Addr) (n c : Nat) (xs : List Int) (w : World) (hs : SI w A n xs) (hn : n ≤ 1099511627776) :
    Calls Try.prog 15 #[.slice A n c] w fun e w' => FreshIB w w' e (sosS xs) (sosK xs) (strB xs) := by
  have HI := Lib.hid (implIsString_any A n c xs w hs hn)
  cases hu : strB xs with
  | false =>
    rw [hu] at HI
    have HE := Lib.hid (sos_no hu)
    clear hu hs
    go_enter Try.func15, Try.ntmps15
    go_wp2_with (go_at_call 33; refine HI.out.mono ?_; rintro e w1 ⟨rfl, hd1⟩; have HB1 : Hid (Below w.heap.size w w1) := Lib.hid (hd1.below _); clear hd1)
    go_returns
    rw [HE.out.1, HE.out.2]
    exact FreshIB.nil_ret HB1.out
  | true =>
    rw [hu] at HI
    have hp := strB_P hu
    have HE := Lib.hid (sos_yes hu)
    have hn7 : n ≤ 7 := by have := hp.2.1; have := hs.1; omega
    have HRW := Lib.hid (fun w' (hd : Drawn w w') => rowsOfString_any A n c xs w' (hd.si hs) hp)
    have HON := Lib.hid (fun w' (hb : Below w.heap.size w w') => onesOf_any A n c xs w' (hs.below hb (Nat.le_refl _)) hp)
    have HL := Lib.hid hs.1
    clear hu hs hp
    go_enter Try.func15, Try.ntmps15
    go_wp2_with (first
      | (go_at_call 33; refine HI.out.mono ?_; rintro e w1 ⟨rfl, hd1⟩; have HD1 := Lib.hid hd1; clear hd1)
      | (go_at_call 34; refine (HRW.out _ HD1.out).mono ?_; rintro e w2 ⟨rfl, hb2⟩
         have HB2 : Hid (Below w.heap.size w w2) := Lib.hid ((HD1.out.below _).trans (hb2.mono (HD1.out.below w.heap.size).size))
         clear hb2)
      | (go_at_call 26; refine (rowsShape_any _ w2 (rowL_len (Nat.le_refl _) (by omega))).mono ?_; rintro e w3 ⟨q, hq16, hqp, hqe, A3, n3, c3, rfl, ho3, hb3⟩
         rw [row_take hn7 hq16 hqp hqe] at ho3
         have HB3 : Hid (Below w.heap.size w w3) := Lib.hid (HB2.out.trans (hb3.mono HB2.out.size))
         have HO3 : Hid (Own w3 w.heap.size w3.heap.size A3 n3 c3 (bareS xs n)) := Lib.hid (ho3.wide HB2.out.size (Nat.le_refl _))
         clear ho3 hb3 hqp hqe hq16)
      | (go_at_call 35; refine (HON.out _ HB3.out).mono ?_; rintro e w4 ⟨rfl, hd4⟩; have HD4 := Lib.hid hd4; clear hd4))
    go_returns
    rw [HE.out.1, HE.out.2, HL.out]
    refine ⟨A3, n3, c3, rfl, ?_, HB3.out.trans (HD4.out.below _)⟩
    have := HO3.out.drawn HD4.out
    rwa [HD4.out.heap]
set_option maxHeartbeats 400000 in
theorem implGrass_no (A : Option Addr) (n c : Nat) (xs : List Int) (k m : Int) (w : World) (hs : SI w A n xs) (hn : n ≤ 1099511627776) (hu : boxB xs k m = false) :
    Calls Try.prog 13 #[.slice A n c, .int .i64 k, .int .i64 m] w fun e w' => e = .returned (.slice none 0 0) ∧ Drawn w w' := by
  have HI := Lib.hid (fitsInto_any A n c xs k m w hs hn)
  rw [hu] at HI
  clear hu hs
  go_enter Try.func13, Try.ntmps13
  go_wp2_with (go_at_call 30; refine HI.out.mono ?_; rintro e w1 ⟨rfl, hd1⟩)
  go_ret
  exact ⟨rfl, hd1⟩
theorem gR_none : ∀ v, (gR [] v).length = v
  | 0 => rfl
  | v + 1 => by
    have e : gR [] (v + 1) = gR [] v ++ [(v : Int)] := if_neg (by simp [hasB])
    rw [e, List.length_append, gR_none v]; rfl
theorem gL_pos {xs : List Int} {k m : Nat} (hm : 1 ≤ m) : 1 ≤ (gL xs k m).length := by
  unfold gL
  cases k with
  | zero =>
    have e : gF xs 0 0 = [] := rfl
    rw [e, List.nil_append, gR_none]; exact hm
  | succ k => rw [List.length_append, gF_len]; omega
theorem SI.kept {w w' : World} {A : Option Addr} {n : Nat} {xs : List Int} {row : Option Nat} (h : SI w A n xs) (hg : w.grownBy w' row) (hr : ∀ b o, A = some ⟨b, o, none⟩ → some b ≠ row) : SI w' A n xs :=
  ⟨h.1, fun hn => by
    obtain ⟨b, o, e, hb, hc⟩ := h.2 hn
    have hs := hg.size
    exact ⟨b, o, e, by omega, fun k hk => hg.cell (hc k hk) (hr b o e)⟩⟩
theorem eql_nil (w : World) : (binOp .eql 22 (.slice none 0 0) (.slice none 0 0)).run Try.prog w = .ok (.bool true) w := by
  have h : ∀ d : Nat, (Op.equalIn (d + 1) 22 (.slice none 0 0) (.slice none 0 0)).run Try.prog w = .ok true w := fun d => by simp [Op.equalIn, run_underlying Try.underlying22]
  simp only [binOp]
  simp [Op.equal, Op.maxDepth, h 9999]
theorem eql_some (a : Addr) (n c : Nat) (w : World) : (binOp .eql 22 (.slice (some a) n c) (.slice none 0 0)).run Try.prog w = .ok (.bool false) w := by
  have h : ∀ d : Nat, (Op.equalIn (d + 1) 22 (.slice (some a) n c) (.slice none 0 0)).run Try.prog w = .ok false w := fun d => by simp [Op.equalIn, run_underlying Try.underlying22]
  simp only [binOp]
  simp [Op.equal, Op.maxDepth, h 9999]
theorem gL_len (xs : List Int) (k m : Nat) (h : k ≤ (gL xs k m).length) {i : Nat} (hi : i < k) : nth (gL xs k m) i = (i : Int) + nth xs (k - 1 - i) := by
  have hl := gF_len xs k k
  rw [nth_get (by omega)]
  simp only [gL]
  rw [List.getElem_append_left (by omega)]
  simp [gF]
set_option maxRecDepth 100000 in
set_option maxHeartbeats 1600000 in
theorem implStrOf_any (A : Option Addr) (n c : Nat) (xs : List Int) (k m : Int) (w : World) (hs : SI w A n xs) (hn : n ≤ 1099511627776) :
    Calls Try.prog 14 #[.slice A n c, .int .i64 k, .int .i64 m] w fun e w' => Fresh w w' e (strOf xs k m) := by
  cases hu : boxB xs k m with
  | false =>
    have HE := Lib.hid (strOf_no hu)
    have HG := Lib.hid (implGrass_no A n c xs k m w hs hn hu)
    have hq := eql_nil
    clear hu hs
    go_enter Try.func14, Try.ntmps14
    go_wp2_with (go_at_call 13; refine HG.out.mono ?_; rintro e w1 ⟨rfl, hd1⟩; have HD1 := Lib.hid hd1; clear hd1)
    go_ret
    rw [HE.out]
    exact Fresh.nil_ret' (HD1.out.below _)
  | true =>
    have hp := boxB_P hu
    obtain ⟨k', rfl⟩ : ∃ k' : Nat, k = k' := ⟨k.toNat, by have := hp.2.2.1; omega⟩
    obtain ⟨m', rfl⟩ : ∃ m' : Nat, m = m' := ⟨m.toNat, by have := hp.1; omega⟩
    obtain ⟨k, hk0⟩ : ∃ k : Nat, k = k' := ⟨_, rfl⟩
    obtain ⟨m, hm0⟩ : ∃ m : Nat, m = m' := ⟨_, rfl⟩
    subst hk0 hm0
    have HE := Lib.hid (strOf_yes hu)
    have hm1 : 1 ≤ m := by have := hp.1; omega
    have hk7 : k ≤ 7 := by have := hp.2.1; have := hp.2.2.2.1; omega
    have hm7 : m ≤ 7 := by have := hp.2.1; omega
    have HR := Lib.hid (fun i (hi : i < k) => box_place hp hi)
    have HG := Lib.hid (implGrass_any A n c xs k m w hs hn)
    rw [graPerm_yes hu] at HG
    have hGL : k ≤ (gL xs k m).length ∧ (gL xs k m).length ≤ 14 ∧ 1 ≤ (gL xs k m).length := by
      refine ⟨?_, ?_, ?_⟩
      · unfold gL; rw [List.length_append, gF_len]; omega
      · unfold gL; rw [List.length_append, gF_len]; have := gR_len (gF xs k k) m; omega
      · exact gL_pos hm1
    have HGL := Lib.hid hGL
    have HGN := Lib.hid (fun i (hi : i < k) => gL_len xs k m hGL.1 hi)
    have hq := eql_some
    clear hu hs hp hGL
    go_enter Try.func14, Try.ntmps14
    go_wp2_with (first
      | (go_at_call 13
         refine HG.out.mono ?_
         rintro e w1 ⟨A1, n1, c1, rfl, ho1, hb1⟩
         have hl1 := ho1.len
         have hk1 : k ≤ n1 := by have := HGL.out.1; omega
         have hn1 : n1 ≤ 14 := by have := HGL.out.2.1; omega
         obtain ⟨g1, rfl, hg1, hg1'⟩ := ho1.place (by have := HGL.out.2.2; omega)
         have hc1 : n1 ≤ c1 := ho1.cap
         have hkc : k ≤ c1 := by omega
         have HO1 := Lib.hid ho1
         have HB1 := Lib.hid hb1
         clear ho1 hb1 hl1 hg1 hg1')
      | (at_make; refine wpList_make_zero rfl (.tmp 17) (.tmp 17) rfl m rfl rfl (by omega) ?_; intro w2 ho2 hb2
         have HO2 := Lib.hid ho2
         have HS2 : Hid (SI w2 (some ⟨g1, 0, none⟩) n1 (gL xs k m)) := Lib.hid (HO1.out.si.below hb2 (Nat.le_refl _))
         have HB2 : Hid (Below w.heap.size w w2) := Lib.hid (HB1.out.trans (hb2.mono HB1.out.size))
         clear ho2 hb2))
    obtain ⟨g, hg⟩ : ∃ g, g = w1.heap.size := ⟨_, rfl⟩
    have HGG : Hid (w.heap.size ≤ g ∧ g1 < g) := Lib.hid ⟨by rw [hg]; exact HB1.out.size, by rw [hg]; exact (HO1.out.lt g1 rfl).2⟩
    rw [← hg] at HO2 ⊢
    clear hg
    go_loopw [23] (fun iv wr => ∃ i : Nat, i ≤ k ∧ iv = .int .i64 i ∧ Own wr g wr.heap.size (some ⟨g, 0, none⟩) m m (soF xs k m i) ∧ SI wr (some ⟨g1, 0, none⟩) n1 (gL xs k m) ∧ Below w.heap.size w wr)
      (fun iv _ => k - (intOf iv).toNat)
    case atStart => exact ⟨0, Nat.zero_le _, rfl, HO2.out, HS2.out, HB2.out⟩
    case round =>
      obtain ⟨i, hi, rfl, hown, hsi, hbw⟩ := hrel
      clear HO2 HB2 HS2
      have HO := Lib.hid hown
      have HB := Lib.hid hbw
      have HSI := Lib.hid hsi
      clear hown hbw hsi
      by_cases hlt : i < k
      · have hiI : (i : Int) < (k : Int) := by omega
        have hin : i < n1 := by omega
        obtain ⟨b, o, e0, hb, hc⟩ := HSI.out.at_ (by omega)
        injection e0 with e0
        injection e0 with e1 e2
        subst e1 e2
        have hcc := hc i hin
        rw [HGN.out i hlt] at hcc
        have hpl := HR.out i hlt
        have HSU : Hid (soF xs k m (i + 1) = (soF xs k m i).set ((i : Int) + nth xs (k - 1 - i)).toNat 1) := Lib.hid rfl
        obtain ⟨p, hpe⟩ : ∃ p : Nat, (p : Int) = (i : Int) + nth xs (k - 1 - i) := ⟨((i : Int) + nth xs (k - 1 - i)).toNat, by omega⟩
        rw [← hpe] at hpl HSU hcc
        rw [Int.toNat_natCast] at HSU
        rw [Nat.zero_add] at hcc
        have hpm : p < m := by omega
        have hpmI : (p : Int) < (m : Int) := by omega
        have hcp := HO.out.cellAt (k := p) hpm
        have hfp := HO.out.frozenAt p
        have HST := Lib.hid (HO.out.set_ (k := p) 1)
        clear hpl hc hpe
        go_wp2_with fail
        go_roundw
        case rel => exact ⟨i + 1, by omega, by go_num, by rw [HSU.out]; simpa using HST.out.1, HSI.out.kept HST.out.2 (by intro b o e h; injection e with e; injection e with e1 e2; injection h with h; have := HGG.out.2; omega), HB.out.grown HST.out.2 HB.out.size (by rintro q ⟨⟩; exact HGG.out.1)⟩
        case measure => simp [intOf]; omega
      · have hik : i = k := by omega
        subst hik
        go_wp2
        go_ret
        rw [HE.out]
        exact ⟨_, _, _, rfl, HO.out.wide HGG.out.1 (Nat.le_refl _), HB.out⟩
end Go.Proofs.Ytbjnjccolapehaa
