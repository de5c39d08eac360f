/-
  Strings of zeros and ones and their shapes, the document's side. Conditions: lengths below 2^40.
-/
import Derived.Test.YtdappakjbclffaaStrM
namespace Go.Proofs.Ytdappakjbclffaa
open Go.RowKit

set_option maxHeartbeats 800000 in
theorem specIsString_any (A : Option Addr) (n c : Nat) (xs : List Int) (w : World) (hs : SI w A n xs) (_hn : n ≤ 1099511627776) :
    Calls Try.prog 15 #[.slice A n c] w fun e w' => e = .returned (.bool (strB xs)) ∧ Drawn w w' := by
  have HL := Lib.hid hs.1
  by_cases h17 : 1 ≤ n ∧ n ≤ 7
  · have H1 := Lib.hid (fun w => l1In_yes' (a := (n : Int)) (lo := 1) (hi := 7) (by omega) (by omega) w)
    go_enter Try.func15, Try.ntmps15
    go_wp2_with (go_at_call 56; refine (H1.out _).mono ?_; rintro e w1 ⟨rfl, rfl⟩)
    go_loopw [3] (fun i wr => ∃ k : Nat, k ≤ n ∧ i = .int .i64 k ∧ Drawn w wr ∧ ∀ j, j < k → 0 ≤ nth xs j ∧ nth xs j ≤ 1)
      (fun i _ => n - (intOf i).toNat)
    case atStart => exact ⟨0, Nat.zero_le _, rfl, Drawn.refl _, fun j hj => absurd hj (by omega)⟩
    case round =>
      obtain ⟨k, hk, rfl, hD, hall⟩ := hrel
      have HA := Lib.hid hall
      have HDR := Lib.hid hD
      have hs := hD.si hs
      clear hall hD
      by_cases hlt : k < n
      · have hlI : (k : Int) < (n : Int) := by omega
        obtain ⟨b, o, rfl, hb, hc⟩ := hs.at_ (by omega)
        have hc1 := hc k hlt
        obtain ⟨x, hx⟩ : ∃ x, x = nth xs k := ⟨_, rfl⟩
        rw [← hx] at hc1
        have HX := Lib.hid hx
        clear hc hx hs
        by_cases hg : 0 ≤ x ∧ x ≤ 1
        · have HG := Lib.hid hg
          have H2 := Lib.hid (fun w => l1In_yes' hg.1 hg.2 w)
          clear hg
          go_wp2_with (go_at_call 56; refine (H2.out _).mono ?_; rintro e w2 ⟨rfl, rfl⟩)
          go_roundw
          case rel => exact ⟨k + 1, by omega, by go_num, HDR.out, fun j hj => by
            rcases Nat.lt_or_ge j k with h | h
            · exact HA.out j h
            · obtain rfl : j = k := by omega
              rw [← HX.out]; exact HG.out⟩
          case measure => simp [intOf]; omega
        · have H2 := Lib.hid (fun w => l1In_no' (a := x) (lo := 0) (hi := 1) (by omega) w)
          have HF := Lib.hid (strB_false (xs := xs) (fun h => hg (by rw [HX.out]; exact h.2.2 k (by have := HL.out; omega))))
          clear hg
          go_wp2_with (go_at_call 56; refine (H2.out _).mono ?_; rintro e w2 ⟨rfl, rfl⟩)
          go_ret
          exact ⟨ret_bool HF.out.symm, HDR.out⟩
      · have hkn : k = n := by omega
        subst hkn
        go_wp2
        go_ret
        exact ⟨ret_bool (strB_true ⟨by have := HL.out; omega, by have := HL.out; omega, by rw [HL.out]; exact HA.out⟩).symm, HDR.out⟩
  · have H1 := Lib.hid (fun w => l1In_no' (a := (n : Int)) (lo := 1) (hi := 7) (by omega) w)
    have HF := Lib.hid (strB_false (xs := xs) (fun h => h17 (by have := h.1; have := h.2.1; have := HL.out; omega)))
    clear h17
    go_enter Try.func15, Try.ntmps15
    go_wp2_with (go_at_call 56; refine (H1.out _).mono ?_; rintro e w1 ⟨rfl, rfl⟩)
    go_ret
    exact ⟨ret_bool HF.out.symm, Drawn.refl _⟩
theorem Own.lit1 {w : World} {x : Int} {lo : Nat} (h : lo ≤ w.heap.size) : Own (w.alloc (.cells #[.int .i64 x] 3)) lo (w.alloc (.cells #[.int .i64 x] 3)).heap.size (some ⟨w.heap.size, 0, none⟩) 1 1 [x] :=
  ⟨World.ownsRow_lit w #[.int .i64 x] 1 h (by unfold maxLen; omega) rfl, fun k hk => by simp [Value.ownBlock] at hk; simp; omega⟩
set_option maxHeartbeats 1600000 in
theorem l5Shape_any (A : Option Addr) (n c : Nat) (xs : List Int) (w : World) (hs : SI w A n xs) (hp : strP xs) :
    Calls Try.prog 63 #[.slice A n c] w fun e w' => Fresh w w' e (bareS xs n) := by
  have hl := hs.1
  have hn7 : n ≤ 7 := by have := hp.2.1; omega
  have HR := Lib.hid hp.2.2
  have HL := Lib.hid hl
  have HS := Lib.hid hs
  clear hs hl hp
  go_enter Try.func63, Try.ntmps63
  go_wp2
  go_loopw [3, 4, 5] (fun ov zv iv wr => ∃ (k no : Nat) (Ao : Option Addr) (co : Nat), k ≤ n ∧ iv = .int .i64 k ∧ zv = .int .i64 (zerN xs k) ∧ ov = .slice Ao no co ∧ Own wr w.heap.size wr.heap.size Ao no co (shpL xs k) ∧ Ao ≠ none ∧ Below w.heap.size w wr)
    (fun _ _ iv _ => n - (intOf iv).toNat)
  case atStart => exact ⟨0, 0, _, _, Nat.zero_le _, rfl, rfl, rfl, (Own.empty w).wide (Nat.le_refl _) (by simp), by simp, Below.alloc_self _ _⟩
  case round =>
    obtain ⟨k, no, Ao, co, hk, rfl, rfl, rfl, hown, hne, hbw⟩ := hrel
    have hno : no ≤ 7 := by have h1 := hown.len; rw [shpL_len] at h1; have := zer_one xs k; omega
    have hz7 : zerN xs k ≤ 7 := by have := zer_one xs k; omega
    have HO := Lib.hid hown
    have HB := Lib.hid hbw
    have HNE := Lib.hid hne
    clear hown hbw hne
    by_cases hlt : k < n
    · have hlI : (k : Int) < (n : Int) := by omega
      obtain ⟨b, o, rfl, hb, hc⟩ := (HS.out.below HB.out (Nat.le_refl _)).at_ (by omega)
      have hc1 := hc k hlt
      obtain ⟨x, hx⟩ : ∃ x, x = nth xs k := ⟨_, rfl⟩
      rw [← hx] at hc1
      have HX := Lib.hid hx
      obtain ⟨z, hz⟩ : ∃ z, z = zerN xs k := ⟨_, rfl⟩
      rw [← hz] at hz7 ⊢
      have HZ := Lib.hid hz
      clear hc hx hz
      by_cases hx0 : x = 0
      · have hxb : (x == 0) = true := by simpa using hx0
        have HX0 := Lib.hid hx0
        clear hx0
        go_wp2
        go_roundw
        case rel => exact ⟨k + 1, no, Ao, co, by omega, by go_num, by rw [zerN_zero (by rw [← HX.out]; exact HX0.out), ← HZ.out]; go_num, rfl, by rw [shpL_zero (by rw [← HX.out]; exact HX0.out)]; exact HO.out, HNE.out, HB.out⟩
        case measure => simp [intOf]; omega
      · have hxb : (x == 0) = false := by simpa using hx0
        have HX0 := Lib.hid hx0
        clear hx0
        go_wp2_with (at_builtin; refine wpList_append_all rfl (.tmp 21) (.tmp 22) rfl w.heap.size (some ⟨wr.heap.size, 0, none⟩) 1 1 [(z : Int)] Ao no co (shpL xs k) rfl rfl (Own.lit1 HB.out.size) (HO.out.si.alloc _) (by have := HB.out.size; simp; omega) (by omega) (by omega) ?_; intro A' c' w5 ho5 _ hb5)
        go_roundw
        case rel => exact ⟨k + 1, 1 + no, A', c', by omega, by go_num, by rw [zerN_one (by rw [← HX.out]; exact HX0.out), ← HZ.out], rfl, by rw [shpL_one (by rw [← HX.out]; exact HX0.out), ← HZ.out]; exact ho5, by obtain ⟨g', e, _⟩ := ho5.place (by omega); rw [e]; simp, (HB.out.alloc HB.out.size _).trans hb5⟩
        case measure => simp [intOf]; omega
    · have hkn : k = n := by omega
      subst hkn
      have HBA := Lib.hid (l4Bare_any Ao no co (shpL xs k) wr HO.out.si HO.out.cap HNE.out (by omega))
      have HNO : Hid (no = oneN xs k) := Lib.hid (by rw [← HO.out.len, shpL_len])
      go_wp2_with (go_at_call 104; refine HBA.out.mono ?_; rintro e w5 ⟨A5, n5, c5, rfl, ho5, hb5⟩; have HO5 := Lib.hid ho5; have HB5 := Lib.hid hb5; clear ho5 hb5)
      go_ret
      refine ⟨A5, n5, c5, rfl, ?_, HB.out.trans (HB5.out.mono HB.out.size)⟩
      unfold bareS
      rw [← HNO.out]
      exact HO5.out.wide HB.out.size (Nat.le_refl _)
set_option maxHeartbeats 800000 in
theorem specSos_any (A : Option Addr) (n c : Nat) (xs : List Int) (w : World) (hs : SI w A n xs) (hn : n ≤ 1099511627776) :
    Calls Try.prog 23 #[.slice A n c] w fun e w' => FreshIB w w' e (sosS xs) (sosK xs) (strB xs) := by
  have HI := Lib.hid (specIsString_any A n c xs w hs hn)
  cases hu : strB xs with
  | false =>
    rw [hu] at HI
    have HE := Lib.hid (sos_no hu)
    clear hu hs
    go_enter Try.func23, Try.ntmps23
    go_wp2_with (go_at_call 15; refine HI.out.mono ?_; rintro e w1 ⟨rfl, hd1⟩; have HB1 : Hid (Below w.heap.size w w1) := Lib.hid (hd1.below _); clear hd1)
    go_returns
    rw [HE.out.1, HE.out.2]
    exact FreshIB.nil_ret HB1.out
  | true =>
    rw [hu] at HI
    have hp := strB_P hu
    have HE := Lib.hid (sos_yes hu)
    have HSH := Lib.hid (fun w' (hd : Drawn w w') => l5Shape_any A n c xs w' (hd.si hs) hp)
    have hn7 : n ≤ 7 := by have := hp.2.1; have := hs.1; omega
    have hsn : sumN xs n = (oneN xs n : Int) := sum_one (fun j hj => hp.2.2 j (by have := hs.1; omega))
    have HSU := Lib.hid (fun w' (hb : Below w.heap.size w w') => l1Sum_any A n c xs w' (hs.below hb (Nat.le_refl _)) hn (fun k hk => by
      rw [sum_one (fun j hj => hp.2.2 j (by have := hs.1; omega))]
      have := zer_one xs k
      omega))
    rw [hsn] at HSU
    clear hsn
    have HL := Lib.hid hs.1
    clear hu hs hp
    go_enter Try.func23, Try.ntmps23
    go_wp2_with (first
      | (go_at_call 15; refine HI.out.mono ?_; rintro e w1 ⟨rfl, hd1⟩; have HD1 := Lib.hid hd1; clear hd1)
      | (go_at_call 63; refine (HSH.out _ HD1.out).mono ?_; rintro e w3 ⟨A3, n3, c3, rfl, ho3, hb3⟩
         have HB3 : Hid (Below w.heap.size w w3) := Lib.hid ((HD1.out.below _).trans (hb3.mono (HD1.out.below w.heap.size).size))
         have HO3 : Hid (Own w3 w.heap.size w3.heap.size A3 n3 c3 (bareS xs n)) := Lib.hid (ho3.wide (HD1.out.below w.heap.size).size (Nat.le_refl _))
         clear ho3 hb3)
      | (go_at_call 64; refine (HSU.out _ HB3.out).mono ?_; rintro e w4 ⟨rfl, hd4⟩; have HD4 := Lib.hid hd4; clear hd4))
    go_returns
    rw [HE.out.1, HE.out.2, HL.out]
    refine ⟨A3, n3, c3, rfl, ?_, HB3.out.trans (HD4.out.below _)⟩
    have := HO3.out.drawn HD4.out
    rwa [HD4.out.heap]
set_option maxHeartbeats 1600000 in
theorem l5String_any (A : Option Addr) (n c : Nat) (xs : List Int) (k m : Nat) (w : World) (hs : SI w A n xs) (hp : boxP xs (k : Int) (m : Int)) :
    Calls Try.prog 61 #[.slice A n c, .int .i64 k, .int .i64 m] w fun e w' => Fresh w w' e (soF xs k m k) := by
  have hk7 : k ≤ 7 := by have := hp.2.1; have := hp.2.2.2.1; omega
  have hm7 : m ≤ 7 := by have := hp.2.1; omega
  have hl := hs.1
  have hn : n ≤ 7 := by have := hp.2.2.2.2.2.1; omega
  have HR := Lib.hid (fun i (hi : i < k) => box_place hp hi)
  have HRG := Lib.hid (shape_range hp.2.2.2.2.1)
  have HS := Lib.hid hs
  clear hs hp hl
  go_enter Try.func61, Try.ntmps61
  go_wp2_with (at_make; refine wpList_make_zero rfl (.tmp 9) (.tmp 9) rfl m rfl rfl (by omega) ?_; intro w2 ho2 hb2; have HO2 := Lib.hid ho2; have HB2 := Lib.hid hb2; clear ho2 hb2)
  obtain ⟨g, hg⟩ : ∃ g, g = w.heap.size := ⟨_, rfl⟩
  have HG := Lib.hid hg
  rw [← hg] at HO2 ⊢
  clear hg
  go_loopw [8] (fun iv wr => ∃ i : Nat, i ≤ k ∧ iv = .int .i64 i ∧ Own wr g wr.heap.size (some ⟨g, 0, none⟩) m m (soF xs k m i) ∧ Below w.heap.size w wr)
    (fun iv _ => k - (intOf iv).toNat)
  case atStart => exact ⟨0, Nat.zero_le _, rfl, HO2.out, HB2.out⟩
  case round =>
    obtain ⟨i, hi, rfl, hown, hbw⟩ := hrel
    clear HO2 HB2
    have HO := Lib.hid hown
    have HB := Lib.hid hbw
    clear hown hbw
    by_cases hlt : i < k
    · have hiI : (i : Int) < (k : Int) := by omega
      obtain ⟨x, hx⟩ : ∃ x, x = nth xs (k - 1 - i) := ⟨_, rfl⟩
      have HAT := Lib.hid (l4At_at (j := (k : Int) - 1 - (i : Int)) A n c xs (k - 1 - i) (by omega) wr (HS.out.below HB.out (Nat.le_refl _)) (by omega) (by omega) hx)
      have hpl := HR.out i hlt
      have hxr := HRG.out (k - 1 - i)
      have HSU : Hid (soF xs k m (i + 1) = (soF xs k m i).set ((i : Int) + nth xs (k - 1 - i)).toNat 1) := Lib.hid rfl
      rw [← hx] at hpl hxr HSU
      obtain ⟨hp0, hp1⟩ := hpl
      have hpm : ((i : Int) + x).toNat < m := by omega
      have hw1 : IntKind.i64.wrap ((k : Int) - 1) = (k : Int) - 1 := IntWalk.i64_in _ (by omega)
      have hw2 : IntKind.i64.wrap ((k : Int) - 1 - (i : Int)) = (k : Int) - 1 - (i : Int) := IntWalk.i64_in _ (by omega)
      have hw3 : IntKind.i64.wrap ((i : Int) + x) = (i : Int) + x := IntWalk.i64_in _ (by omega)
      have hcp := HO.out.cellAt (k := ((i : Int) + x).toNat) hpm
      have hfp := HO.out.frozenAt ((i : Int) + x).toNat
      have HST := Lib.hid (HO.out.set_ (k := ((i : Int) + x).toNat) 1)
      clear hx hxr hpm
      go_wp2_with (go_at_call 100; refine HAT.out.mono ?_; rintro e w3 ⟨rfl, rfl⟩)
      go_roundw
      case rel => exact ⟨i + 1, by omega, by go_num, by rw [HSU.out]; simpa using HST.out.1, HB.out.grown HST.out.2 HB.out.size (by rintro q ⟨⟩; have := HG.out; omega)⟩
      case measure => simp [intOf]; omega
    · have hik : i = k := by omega
      subst hik
      go_wp2
      go_ret
      exact ⟨_, _, _, rfl, HO.out.wide (by have := HG.out; omega) (Nat.le_refl _), HB.out⟩
set_option maxHeartbeats 800000 in
theorem specStrOf_any (A : Option Addr) (n c : Nat) (xs : List Int) (k m : Int) (w : World) (hs : SI w A n xs) (hn : n ≤ 1099511627776) :
    Calls Try.prog 19 #[.slice A n c, .int .i64 k, .int .i64 m] w fun e w' => Fresh w w' e (strOf xs k m) := by
  have HI := Lib.hid (l4Box_any A n c xs k m w hs hn)
  cases hu : boxB xs k m with
  | false =>
    rw [hu] at HI
    have HE := Lib.hid (strOf_no hu)
    clear hu hs
    go_enter Try.func19, Try.ntmps19
    go_wp2_with (go_at_call 60; refine HI.out.mono ?_; rintro e w1 ⟨rfl, hd1⟩)
    go_ret
    rw [HE.out]
    exact Fresh.nil_ret' (hd1.below _)
  | true =>
    rw [hu] at HI
    have hp := boxB_P hu
    obtain ⟨k', rfl⟩ : ∃ k' : Nat, k = k' := ⟨k.toNat, by have := hp.2.2.1; omega⟩
    obtain ⟨m', rfl⟩ : ∃ m' : Nat, m = m' := ⟨m.toNat, by have := hp.1; omega⟩
    have HE := Lib.hid (strOf_yes hu)
    have HP := Lib.hid (fun w' (hd : Drawn w w') => l5String_any A n c xs k' m' w' (hd.si hs) hp)
    clear hu hs hp
    go_enter Try.func19, Try.ntmps19
    go_wp2_with (first
      | (go_at_call 60; refine HI.out.mono ?_; rintro e w1 ⟨rfl, hd1⟩; have HD1 := Lib.hid hd1; clear hd1)
      | (go_at_call 61; refine (HP.out _ HD1.out).mono ?_; rintro e w3 ⟨A3, n3, c3, rfl, ho3, hb3⟩))
    go_ret
    rw [HE.out]
    exact ⟨A3, n3, c3, rfl, ho3.wide (HD1.out.below w.heap.size).size (Nat.le_refl _), (HD1.out.below _).trans (hb3.mono (HD1.out.below w.heap.size).size)⟩
end Go.Proofs.Ytdappakjbclffaa
