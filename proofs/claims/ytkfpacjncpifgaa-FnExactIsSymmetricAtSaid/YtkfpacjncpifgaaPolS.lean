/-
  The document's polynomials as lists of terms by their keys: opened, and shut again. Conditions: lengths below 2^30, keys below 2^49.
-/
import Derived.Test.YtkfpacjncpifgaaLinS
import Derived.Test.YtkfpacjncpifgaaOwnE
import Derived.Test.YtkfpacjncpifgaaPolyOkI
namespace Go.Proofs.Ytkfpacjncpifgaa
open Go.RowKit

/-- The terms of a polynomial by their keys. -/
def openM (ts : List Tm) : List Mn := ts.map fun t => (key7 t.1, t.2)
theorem openM_next {ts : List Tm} {k : Nat} (h : k < ts.length) : openM (ts.take (k + 1)) = openM (ts.take k) ++ [(key7 (tm ts k).1, (tm ts k).2)] := by
  unfold openM; rw [take_tm h]; simp
set_option maxRecDepth 100000 in
set_option maxHeartbeats 1000000 in
theorem l2Open_any (A : Option Addr) (n c : Nat) (ts : List Tm) (w : World) (hs : TS w A n ts) (hn : n ≤ 1000000000) (hg : ∀ k, k < n → (tm ts k).1.length = 7 ∧ smallE (tm ts k).1 = true) :
    Calls Try.prog 62 #[.slice A n c] w fun e w' => FreshM w w' e (openM ts) := by
  have HL := Lib.hid hs.1
  have HGD := Lib.hid hg
  clear hg
  obtain ⟨B, hB⟩ : ∃ B, B = w.heap.size := ⟨_, rfl⟩
  have HB0 : Hid (B = w.heap.size) := Lib.hid hB
  have HO5 : Hid (OwnM (w.alloc (.cells #[] 108)) B (w.alloc (.cells #[] 108)).heap.size (some ⟨B, 0, none⟩) 0 0 []) := Lib.hid (by rw [hB]; simpa using OwnM.empty w)
  have HB5 : Hid (Below B w (w.alloc (.cells #[] 108))) := Lib.hid (by rw [hB]; exact (Below.refl _ _).alloc (Nat.le_refl _) _)
  have HZ5 : Hid (B ≤ (w.alloc (.cells #[] 108)).heap.size) := Lib.hid (by rw [hB]; simp)
  go_enter Try.func62, Try.ntmps62
  go_wp2_with fail
  rw [← hB]
  clear hB
  go_loopw [3, 4] (fun lf k wx => ∃ A5 c5 kk, lf = .slice A5 kk c5 ∧ k = .int .i64 (kk : Nat) ∧ kk ≤ n ∧ OwnM wx B wx.heap.size A5 kk c5 (openM (ts.take kk)) ∧ Below B w wx ∧ B ≤ wx.heap.size)
    (fun _ k _ => n - (intOf k).toNat)
  case atStart => exact ⟨_, 0, 0, rfl, rfl, Nat.zero_le _, by simpa [openM] using HO5.out, HB5.out, HZ5.out⟩
  case round =>
    obtain ⟨A5, c5, k, rfl, rfl, hk, ho5, hb5, hz5⟩ := hrel
    clear HO5 HB5 HZ5
    have HO5 := Lib.hid ho5
    have HB5 := Lib.hid hb5
    have HZ5 := Lib.hid hz5
    have hsr := hs.below hb5 (by rw [← HB0.out]; exact Nat.le_refl _)
    have hs0 := hs
    clear ho5 hb5 hz5 hs
    by_cases hlt : k < n
    · have hltI : (k : Int) < (n : Int) := by omega
      have HNX := Lib.hid (openM_next (ts := ts) (k := k) (by rw [HL.out]; exact hlt))
      have hg := HGD.out k hlt
      obtain ⟨b, o, A2, n2, c2, rfl, hb, hi0, hi1, hsi, hnc, hnil⟩ := hsr.at_ (k := k) hlt
      have hbw : b < B := by
        obtain ⟨b2, o2, _, _, _, e2, hb2, _⟩ := hs0.at_ (k := k) hlt
        simp only [Option.some.injEq, Addr.mk.injEq, and_true] at e2
        rw [HB0.out, e2.1]; exact hb2
      obtain rfl : n2 = 7 := by rw [← hsi.1]; exact hg.1
      obtain ⟨z, hz⟩ : ∃ z, z = key7 (tm ts k).1 := ⟨_, rfl⟩
      obtain ⟨q1, hq1⟩ : ∃ q1, q1 = (tm ts k).2 := ⟨_, rfl⟩
      rw [← hq1] at hi1
      have CA : Calls Try.prog 113 #[.slice A2 7 c2] wr.drew fun e w3 => e = .returned (.int .i64 z) ∧ (w3.cell? ⟨b, o + k * 2, none⟩ = some (.slice A2 7 c2) ∧ w3.cell? ⟨b, o + k * 2 + 1, none⟩ = some (.int .i64 q1)) ∧ Hid (OwnM w3 B w3.heap.size A5 k c5 (openM (ts.take k))) ∧ Hid (Below B w w3) ∧ Hid (B ≤ w3.heap.size) := by
        refine (l2Key_any A2 c2 (tm ts k).1 wr.drew (hsi.drewN 1) hg.2).mono ?_
        rintro e w3 ⟨rfl, m, rfl⟩
        exact ⟨by rw [hz], ⟨hi0, hi1⟩, Lib.hid (HO5.out.drawn ⟨1 + m, by rw [← World.drewN_drewN]; rfl⟩), Lib.hid ((HB5.out.drawnN 1).drawnN m), Lib.hid HZ5.out⟩
      have HPQ : Hid ((key7 (tm ts k).1, (tm ts k).2) = (z, q1)) := Lib.hid (by rw [hz, hq1])
      have HCA := Lib.hid CA
      have HK : Hid (b < B) := Lib.hid hbw
      clear hsr hs0 hq1 hb CA hz hbw hg hsi hnil
      go_wp2_with fail
      go_region_held3 (fun w' => w'.cell? ⟨b, o + k * 2, none⟩ = some (.slice A2 7 c2) ∧ w'.cell? ⟨b, o + k * 2 + 1, none⟩ = some (.int .i64 q1))
        (first | go_keep | exact K3 | exact K5)
        (first
          | (go_at_call 113
             with_reducible refine HCA.out.mono ?_
             rintro r3 w3 ⟨rfl, K3, HO3, HB3, HZ3⟩)
          | (refine step_appendM _ (by rfl) (.tmp 12) (.tmp 25) (by rfl) B w3.heap.size A5 k c5 (openM (ts.take k)) z q1 w3.heap.size (by rfl) (by rfl) (Blk.new w3 _ _) (HO3.out.below ((Below.refl w3.heap.size w3).alloc (Nat.le_refl _) _) (Nat.le_refl _)) (by have := HZ3.out; simp; omega) (by omega) ?_
             intro A6 c6 w6 ho6 hb6
             have K5 : w6.cell? ⟨b, o + k * 2, none⟩ = some (.slice A2 7 c2) ∧ w6.cell? ⟨b, o + k * 2 + 1, none⟩ = some (.int .i64 q1) := by
               have g3 := ((Below.refl B w3).alloc HZ3.out (.cells #[.int .i64 z, .int .i64 q1] 108)).trans hb6
               exact ⟨(Below.cell g3 (p := ⟨b, o + k * 2, none⟩) HK.out).trans K3.1, (Below.cell g3 (p := ⟨b, o + k * 2 + 1, none⟩) HK.out).trans K3.2⟩
             have HO6 := Lib.hid ho6
             have HB6 : Hid (Below B w w6) := Lib.hid ((HB3.out.alloc HZ3.out _).trans hb6)
             have HZ6 : Hid (B ≤ w6.heap.size) := Lib.hid (Nat.le_trans HZ3.out (Nat.le_trans (by simp) hb6.size))
             clear ho6 hb6))
      go_wp2
      go_roundw
      case rel => exact ⟨A6, c6, k + 1, rfl, by go_num, by omega, by rw [HNX.out, HPQ.out]; exact HO6.out, HB6.out, HZ6.out⟩
      case measure => simp [intOf]; omega
    · have hkn : k = n := by omega
      subst hkn
      have HOL : Hid (OwnM wr B wr.heap.size A5 k c5 (openM ts)) := Lib.hid (by have := HO5.out; rwa [List.take_of_length_le (by rw [HL.out]; omega)] at this)
      go_wp2
      go_ret
      exact ⟨A5, k, c5, rfl, by rw [← HB0.out]; exact HOL.out, by rw [← HB0.out]; exact HB5.out⟩

/-- The first i exponents that a key holds. -/
def digN (x : Int) (i : Nat) : List Int := (List.range i).map fun j => x / unitI j % 128
theorem digN_next (x : Int) (i : Nat) : digN x (i + 1) = digN x i ++ [x / unitI i % 128] := by unfold digN; rw [List.range_succ, List.map_append]; rfl
theorem unitI_next (x : Int) (i : Nat) : x / unitI i / 128 = x / unitI (i + 1) := by
  unfold unitI
  rw [Int.pow_succ, Int.ediv_ediv_of_nonneg (Int.pow_nonneg (by omega))]
theorem dig_pos {x : Int} (h : 0 ≤ x) (i : Nat) : 0 ≤ x / unitI i ∧ x / unitI i ≤ x := by
  have h1 : (0 : Int) ≤ unitI i := by unfold unitI; exact Int.pow_nonneg (by omega)
  exact ⟨Int.ediv_nonneg h h1, Int.ediv_le_self _ h⟩
set_option maxRecDepth 100000 in
set_option maxHeartbeats 400000 in
theorem l2Exp_any (x : Int) (w : World) (h : in49 x) : Calls Try.prog 114 #[.int .i64 x] w fun e w' => Fresh w w' e (digN x 7) := by
  obtain ⟨h0, h1⟩ := h
  obtain ⟨B, hB⟩ : ∃ B, B = w.heap.size := ⟨_, rfl⟩
  have HB0 : Hid (B = w.heap.size) := Lib.hid hB
  have HO5 : Hid (Own (w.alloc (.cells #[] 3)) B (w.alloc (.cells #[] 3)).heap.size (some ⟨B, 0, none⟩) 0 0 []) := Lib.hid (by rw [hB]; simpa using Own.empty w)
  have HB5 : Hid (Below B w (w.alloc (.cells #[] 3))) := Lib.hid (by rw [hB]; exact (Below.refl _ _).alloc (Nat.le_refl _) _)
  have HZ5 : Hid (B ≤ (w.alloc (.cells #[] 3)).heap.size) := Lib.hid (by rw [hB]; simp)
  go_enter Try.func114, Try.ntmps114
  go_wp2_with fail
  rw [← hB]
  clear hB
  go_loopw [0, 3, 4] (fun kv lf i wx => ∃ A5 c5 j, kv = .int .i64 (x / unitI j) ∧ lf = .slice A5 j c5 ∧ i = .int .i64 (j : Nat) ∧ j ≤ 7 ∧ Own wx B wx.heap.size A5 j c5 (digN x j) ∧ Below B w wx ∧ B ≤ wx.heap.size)
    (fun _ _ i _ => 7 - (intOf i).toNat)
  case atStart => exact ⟨_, 0, 0, by simp [unitI], rfl, rfl, by omega, by simpa [digN] using HO5.out, HB5.out, HZ5.out⟩
  case round =>
    obtain ⟨A5, c5, j, rfl, rfl, rfl, hj, ho5, hb5, hz5⟩ := hrel
    clear HO5 HB5 HZ5
    have HO5 := Lib.hid ho5
    have HB5 := Lib.hid hb5
    have HZ5 := Lib.hid hz5
    clear ho5 hb5 hz5
    by_cases hlt : j < 7
    · have hltI : (j : Int) < 7 := by omega
      have HNX := Lib.hid (digN_next x j)
      have hy := dig_pos h0 j
      have HN := Lib.hid (unitI_next x j)
      obtain ⟨y, hyy⟩ : ∃ y, y = x / unitI j := ⟨_, rfl⟩
      rw [← hyy] at hy HN HNX ⊢
      have hy1 : y < 562949953421312 := by omega
      have hy0 := hy.1
      have HYY := Lib.hid hyy
      have ht1 : Int.tmod y 128 = y % 128 := Int.tmod_eq_emod_of_nonneg hy0
      have ht2 : Int.tdiv y 128 = y / 128 := Int.tdiv_eq_ediv_of_nonneg hy0
      have hw1 : IntKind.i64.wrap (y / 128) = y / 128 := IntWalk.i64_in _ (by omega)
      have hw2 : IntKind.i64.wrap (y % 128) = y % 128 := IntWalk.i64_in _ (by omega)
      clear hy hyy
      go_wp2_with (at_builtin; refine wpList_append1 rfl (.tmp 10) (.tmp 13) rfl B A5 j c5 (digN x j) (y % 128) rfl rfl HO5.out HZ5.out (by omega) ?_; intro A6 c6 w6 ho6 hg6 hb6; have HO6 := Lib.hid ho6; have HB6 := Lib.hid hb6; clear ho6 hb6 hg6)
      go_roundw
      case rel => exact ⟨A6, c6, j + 1, by rw [← HN.out], rfl, by go_num, by omega, by rw [HNX.out]; exact HO6.out, HB5.out.trans HB6.out, Nat.le_trans HZ5.out HB6.out.size⟩
      case measure => simp [intOf]; omega
    · have hj7 : j = 7 := by omega
      subst hj7
      go_wp2
      go_ret
      exact ⟨A5, 7, c5, rfl, by rw [← HB0.out]; exact HO5.out, by rw [← HB0.out]; exact HB5.out⟩

/-- The terms that keys stand for. -/
def termsK (l : List Mn) : List Tm := l.map fun t => (digN t.1 7, t.2)
/-- .. where they are a polynomial. -/
def shutL (l : List Mn) : List Tm := if polyB (termsK l) = true then termsK l else []
theorem termsK_next {l : List Mn} {k : Nat} (h : k < l.length) : termsK (l.take (k + 1)) = termsK (l.take k) ++ [(digN (ce l k).1 7, (ce l k).2)] := by
  unfold termsK; rw [take_ce h]; simp
theorem digN_len (x : Int) (i : Nat) : (digN x i).length = i := by simp [digN]
theorem termsK_exp {l : List Mn} {k : Nat} (h : k < (termsK l).length) : (tm (termsK l) k).1.length = 7 := by
  unfold tm termsK at *
  simp at h
  simp [List.getD, h, digN_len]
set_option maxRecDepth 100000 in
set_option maxHeartbeats 1000000 in
theorem l2Shut_any (A : Option Addr) (n c : Nat) (l : List Mn) (w : World) (hs : MS w A n l) (hn : n ≤ 1000000000) (h49 : ∀ t ∈ l, in49 t.1) :
    Calls Try.prog 60 #[.slice A n c] w fun e w' => ∃ A' n' c', e = .returned (.tuple #[.slice A' n' c', .bool (polyB (termsK l))]) ∧ OwnT w' w.heap.size w'.heap.size A' n' c' (shutL l) ∧ Below w.heap.size w w' := by
  have HL := Lib.hid hs.1
  have H49 := Lib.hid h49
  clear h49
  by_cases hbig : 600 < n
  · have hP : polyB (termsK l) = false := polyB_big (by unfold termsK; rw [List.length_map, HL.out]; exact hbig)
    have HS : Hid (shutL l = []) := Lib.hid (by unfold shutL; rw [hP]; rfl)
    have hbI : (600 : Int) < (n : Int) := by omega
    have HP := Lib.hid hP
    clear hP
    go_enter Try.func60, Try.ntmps60
    go_wp2
    go_ret2
    rw [HP.out, HS.out]
    exact ⟨none, 0, 0, rfl, OwnT.nil _ _ _, Below.refl _ _⟩
  · obtain ⟨B, hB⟩ : ∃ B, B = w.heap.size := ⟨_, rfl⟩
    have HB0 : Hid (B = w.heap.size) := Lib.hid hB
    have HO5 : Hid (OwnT (w.alloc (.cells #[] 68)) B (w.alloc (.cells #[] 68)).heap.size (some ⟨B, 0, none⟩) 0 0 []) := Lib.hid (by rw [hB]; simpa using OwnT.empty w)
    have HB5 : Hid (Below B w (w.alloc (.cells #[] 68))) := Lib.hid (by rw [hB]; exact (Below.refl _ _).alloc (Nat.le_refl _) _)
    have HZ5 : Hid (B ≤ (w.alloc (.cells #[] 68)).heap.size) := Lib.hid (by rw [hB]; simp)
    have hbI : ¬ (600 : Int) < (n : Int) := by omega
    go_enter Try.func60, Try.ntmps60
    go_wp2_with fail
    rw [← hB]
    clear hB
    go_loopw [4, 5] (fun lf k wx => ∃ A5 c5 kk, lf = .slice A5 kk c5 ∧ k = .int .i64 (kk : Nat) ∧ kk ≤ n ∧ OwnT wx B wx.heap.size A5 kk c5 (termsK (l.take kk)) ∧ Below B w wx ∧ B ≤ wx.heap.size)
      (fun _ k _ => n - (intOf k).toNat)
    case atStart => exact ⟨_, 0, 0, rfl, rfl, Nat.zero_le _, by simpa [termsK] using HO5.out, HB5.out, HZ5.out⟩
    case round =>
      obtain ⟨A5, c5, k, rfl, rfl, hk, ho5, hb5, hz5⟩ := hrel
      clear HO5 HB5 HZ5
      have HO5 := Lib.hid ho5
      have HB5 := Lib.hid hb5
      have HZ5 := Lib.hid hz5
      have hsr := hs.below hb5 (by rw [← HB0.out]; exact Nat.le_refl _)
      have hs0 := hs
      clear ho5 hb5 hz5 hs
      by_cases hlt : k < n
      · have hltI : (k : Int) < (n : Int) := by omega
        have HNX := Lib.hid (termsK_next (l := l) (k := k) (by rw [HL.out]; exact hlt))
        have h49 := H49.out _ (ce_mem (l := l) (k := k) (by rw [HL.out]; exact hlt))
        obtain ⟨b, o, rfl, hb, hi0, hi1⟩ := hsr.at_ (k := k) hlt
        have hbw : b < B := by
          obtain ⟨b2, o2, e2, hb2, _⟩ := hs0.at_ (k := k) hlt
          simp only [Option.some.injEq, Addr.mk.injEq, and_true] at e2
          rw [HB0.out, e2.1]; exact hb2
        obtain ⟨p1, hp1⟩ : ∃ p1, p1 = (ce l k).1 := ⟨_, rfl⟩
        obtain ⟨q1, hq1⟩ : ∃ q1, q1 = (ce l k).2 := ⟨_, rfl⟩
        rw [← hp1] at hi0 h49
        rw [← hq1] at hi1
        have HPQ : Hid ((digN (ce l k).1 7, (ce l k).2) = (digN p1 7, q1)) := Lib.hid (by rw [hp1, hq1])
        have CA : Calls Try.prog 114 #[.int .i64 p1] wr.drew fun e w3 => ∃ A3 c3, e = .returned (.slice A3 7 c3) ∧ (w3.cell? ⟨b, o + k * 2, none⟩ = some (.int .i64 p1) ∧ w3.cell? ⟨b, o + k * 2 + 1, none⟩ = some (.int .i64 q1)) ∧ Hid (OwnT w3 B wr.heap.size A5 k c5 (termsK (l.take k))) ∧ Hid (Own w3 wr.heap.size w3.heap.size A3 7 c3 (digN p1 7)) ∧ Hid (Below B w w3) ∧ Hid (wr.heap.size ≤ w3.heap.size) := by
          refine (l2Exp_any p1 wr.drew h49).mono ?_
          rintro e w3 ⟨A3, n3, c3, rfl, ho3, hb3⟩
          obtain rfl : 7 = n3 := by have := ho3.len; rw [digN_len] at this; exact this
          have hb3' : Below wr.heap.size wr w3 := (Below.refl wr.heap.size wr).drew.trans hb3
          exact ⟨A3, c3, rfl, ⟨(Below.cell hb3' (p := ⟨b, o + k * 2, none⟩) hb).trans hi0, (Below.cell hb3' (p := ⟨b, o + k * 2 + 1, none⟩) hb).trans hi1⟩, Lib.hid (HO5.out.below hb3' (Nat.le_refl _)), Lib.hid ho3, Lib.hid (HB5.out.trans (hb3'.mono HZ5.out)), Lib.hid hb3'.size⟩
        have HCA := Lib.hid CA
        have HK : Hid (b < B) := Lib.hid hbw
        clear hsr hs0 hp1 hq1 hb h49 CA hbw
        go_wp2_with fail
        go_region_held3 (fun w' => w'.cell? ⟨b, o + k * 2, none⟩ = some (.int .i64 p1) ∧ w'.cell? ⟨b, o + k * 2 + 1, none⟩ = some (.int .i64 q1))
          (first | go_keep | exact K3 | exact K5)
          (first
            | (refine step_appendT _ (by rfl) (.tmp 16) (.tmp 29) (by rfl) B wr.heap.size A5 k c5 (termsK (l.take k)) wr.heap.size w3.heap.size A3 7 c3 (digN p1 7) q1 w3.heap.size (by rfl) (by rfl) (Blk.new w3 _ _)
                 (HO3.out.below ((Below.refl w3.heap.size w3).alloc (Nat.le_refl _) _) HZ3.out) (HE3.out.below ((Below.refl w3.heap.size w3).alloc (Nat.le_refl _) _) (Nat.le_refl _)) HZ5.out (Nat.le_refl _) (by simp) (by have := HZ3.out; simp; omega) (by have := HZ3.out; have := HZ5.out; simp; omega) (by omega) ?_
               intro A6 c6 w6 ho6 hb6
               have hz3 : B ≤ w3.heap.size := Nat.le_trans HZ5.out HZ3.out
               have K5 : w6.cell? ⟨b, o + k * 2, none⟩ = some (.int .i64 p1) ∧ w6.cell? ⟨b, o + k * 2 + 1, none⟩ = some (.int .i64 q1) := by
                 have g3 := ((Below.refl B w3).alloc hz3 (.cells #[.slice A3 7 c3, .int .i64 q1] 68)).trans hb6
                 exact ⟨(Below.cell g3 (p := ⟨b, o + k * 2, none⟩) HK.out).trans K3.1, (Below.cell g3 (p := ⟨b, o + k * 2 + 1, none⟩) HK.out).trans K3.2⟩
               have HO6 := Lib.hid ho6
               have HB6 : Hid (Below B w w6) := Lib.hid ((HB3.out.alloc hz3 _).trans hb6)
               have HZ6 : Hid (B ≤ w6.heap.size) := Lib.hid (Nat.le_trans hz3 (Nat.le_trans (by simp) hb6.size))
               clear ho6 hb6 hz3)
            | (go_at_call 114
               with_reducible refine HCA.out.mono ?_
               rintro r3 w3 ⟨A3, c3, rfl, K3, HO3, HE3, HB3, HZ3⟩))
        go_wp2
        go_roundw
        case rel => exact ⟨A6, c6, k + 1, rfl, by go_num, by omega, by rw [HNX.out, HPQ.out]; exact HO6.out, HB6.out, HZ6.out⟩
        case measure => simp [intOf]; omega
      · have hkn : k = n := by omega
        subst hkn
        have HOL : Hid (OwnT wr B wr.heap.size A5 k c5 (termsK l)) := Lib.hid (by have := HO5.out; rwa [List.take_of_length_le (by rw [HL.out]; omega)] at this)
        have hP := specPolyOk_any A5 k c5 (termsK l) wr HOL.out.si (by omega) (fun j hj => by rw [termsK_exp (by rw [HOL.out.len]; exact hj)]; omega)
        obtain ⟨q, hq⟩ : ∃ q, q = polyB (termsK l) := ⟨_, rfl⟩
        rw [← hq] at hP
        have HQ := Lib.hid hq
        have HP := Lib.hid hP
        have HST : Hid (q = true → shutL l = termsK l) := Lib.hid (fun h => by unfold shutL; rw [← hq, if_pos h])
        have HSF : Hid (q = false → shutL l = []) := Lib.hid (fun h => by unfold shutL; rw [← hq, h]; rfl)
        clear hP hq
        cases q with
        | true =>
          go_wp2_with (go_at_call 58; refine HP.out.mono ?_; rintro e w7 ⟨rfl, hd7⟩; have HD7 := Lib.hid hd7; clear hd7)
          go_ret2
          rw [HST.out (by simp), ← HQ.out]
          refine ⟨A5, k, c5, rfl, ?_, by rw [← HB0.out]; exact HB5.out.trans (HD7.out.below _)⟩
          rw [← HB0.out]
          have := HOL.out.drawn HD7.out
          rwa [show w7.heap.size = wr.heap.size by rw [HD7.out.heap]]
        | false =>
          go_wp2_with (go_at_call 58; refine HP.out.mono ?_; rintro e w7 ⟨rfl, hd7⟩; have HD7 := Lib.hid hd7; clear hd7)
          go_ret2
          rw [HSF.out (by simp), ← HQ.out]
          exact ⟨none, 0, 0, rfl, OwnT.nil _ _ _, by rw [← HB0.out]; exact HB5.out.trans (HD7.out.below _)⟩
end Go.Proofs.Ytkfpacjncpifgaa
