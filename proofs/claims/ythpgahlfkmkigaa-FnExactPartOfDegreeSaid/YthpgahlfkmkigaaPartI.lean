/-
  The part of a degree, by the program. Conditions: lengths below 2^40.
-/
import Derived.Test.YthpgahlfkmkigaaPart
import Derived.Test.YthpgahlfkmkigaaImplA
namespace Go.Proofs.Ythpgahlfkmkigaa
open Go.RowKit

set_option maxRecDepth 100000 in
set_option maxHeartbeats 800000 in
theorem termClone_any (A : Option Addr) (n c : Nat) (xs : List Int) (x : Int) (w : World) (hs : SI w A n xs) (hA : A = none → n = 0 ∧ c = 0) (hn : n ≤ 1099511627776) :
    Calls Try.prog 62 #[.agg #[.slice A n c, .int .i64 x]] w fun e w' => ∃ A' c', e = .returned (.agg #[.slice A' n c', .int .i64 x]) ∧ Own w' w.heap.size w'.heap.size A' n c' xs ∧ Below w.heap.size w w' := by
  have hlx := hs.1
  go_enter Try.func62, Try.ntmps62
  go_wp2_with fail
  obtain ⟨g1, hg1⟩ : ∃ g1, g1 = w.heap.size := ⟨_, rfl⟩
  have hK1 : Blk ((w.alloc (.cells #[.slice A n c, .int .i64 x] 51)).alloc (.cells #[.slice none 0 0, .int .i64 0] 51)) g1 51 #[.slice A n c, .int .i64 x] := by rw [hg1]; exact (Blk.new w _ _).alloc _
  have hK2 : Blk ((w.alloc (.cells #[.slice A n c, .int .i64 x] 51)).alloc (.cells #[.slice none 0 0, .int .i64 0] 51)) (w.heap.size + 1) 51 #[.slice none 0 0, .int .i64 0] := by
    have := Blk.new (w.alloc (.cells #[.slice A n c, .int .i64 x] 51)) 51 #[.slice none 0 0, .int .i64 0]
    simpa using this
  have hb3 : Below w.heap.size w ((w.alloc (.cells #[.slice A n c, .int .i64 x] 51)).alloc (.cells #[.slice none 0 0, .int .i64 0] 51)) := by go_grown
  have hs3 := hs.below hb3 (Nat.le_refl _)
  generalize ((w.alloc (.cells #[.slice A n c, .int .i64 x] 51)).alloc (.cells #[.slice none 0 0, .int .i64 0] 51)) = w3 at *
  rw [← hg1] at hK2 ⊢
  obtain ⟨g2, hg2⟩ : ∃ g2, g2 = g1 + 1 := ⟨_, rfl⟩
  rw [← hg2] at hK2 ⊢
  have q0 : w3.cell? ⟨g1, 0, none⟩ = some (.slice A n c) := hK1.cell 0
  have q1 : w3.cell? ⟨g1, 1, none⟩ = some (.int .i64 x) := hK1.cell 1
  have hsd : SI w3.drew A n xs := hs3.below ((Below.refl w3.heap.size w3).drew) (Nat.le_refl _)
  have HSD := Lib.hid hsd
  have HK1 := Lib.hid hK1
  have HK2 := Lib.hid hK2
  have HB3 := Lib.hid hb3
  have hl3 := hK2.lt
  have n1 : ¬ g1 = g2 := by omega
  have n2 : ¬ g2 = g1 := by omega
  have HG := Lib.hid (And.intro hg1 hg2)
  have hl1 : g1 < w3.heap.size := by omega
  clear hg1 hg2 hs3 hsd hK1 hK2 hb3 hs
  go_region_held3 (fun w' => w'.cell? ⟨g1, 0, none⟩ = some (.slice A n c) ∧ w'.cell? ⟨g1, 1, none⟩ = some (.int .i64 x))
    (first | go_keep | exact K4)
    ((refine (clone_any A n c xs w3.drew HSD.out hA hn).mono ?_
      rintro r w4 ⟨A4, n4, c4, rfl, ho4, hb4⟩
      obtain rfl : n = n4 := by have := ho4.len; omega
      have k1 := HK1.out.below ((Below.refl w3.heap.size w3).drew.trans hb4) (by omega)
      have k2 := HK2.out.below ((Below.refl w3.heap.size w3).drew.trans hb4) (by omega)
      have K4 : w4.cell? ⟨g1, 0, none⟩ = some (.slice A n c) ∧ w4.cell? ⟨g1, 1, none⟩ = some (.int .i64 x) := ⟨k1.cell 0, k1.cell 1⟩
      have hc5 : w4.cell? ⟨g2, 0, none⟩ = some (.slice none 0 0) := k2.cell 0
      have hf5 := k2.frozen 0
      have hc6 : w4.cell? ⟨g2, 1, none⟩ = some (.int .i64 0) := k2.cell 1
      have hf6 := k2.frozen 1
      have H2 := Lib.hid k2
      have HO4 := Lib.hid ho4
      have HB4 := Lib.hid (HB3.out.trans (((Below.refl w3.heap.size w3).drew.trans hb4).mono HB3.out.size))
      clear k1 k2 ho4 hb4))
  obtain ⟨hg1, hg2⟩ := HG.out
  go_wp2
  have R := (H2.out.set_ 0 (.slice A4 n c4)).set_ 1 (.int .i64 x)
  refine bodyPost_ret (results_row Try.results62 _ _ g2 51 #[.slice A4 n c4, .int .i64 x] _ rfl R Try.underlying51 rfl (by kernel_rfl)) rfl ?_
  refine ⟨A4, c4, rfl, ?_, ?_⟩
  · refine ((HO4.out.kept (grown_set _ _ _) ?_).kept (grown_set _ _ _) ?_).wide (by show w.heap.size ≤ w3.heap.size; omega) (by simp) <;>
      (intro b hb e; have := HO4.out.lt b hb; injection e with e; have e3 : w3.heap.size ≤ b := this.1; simp only [] at e; omega)
  · exact (HB4.out.setCell (by show w.heap.size ≤ g2; omega) _).setCell (by show w.heap.size ≤ g2; omega) _

set_option maxRecDepth 100000 in
set_option maxHeartbeats 1600000 in
theorem implPart_any (A : Option Addr) (n c : Nat) (ts : List Tm) (d : Int) (w : World) (hs : TS w A n ts) (hn : n ≤ 1099511627776) (hne : ∀ k, k < n → (tm ts k).1.length ≤ 1099511627776) :
    Calls Try.prog 32 #[.slice A n c, .int .i64 d] w fun r w' => FreshT w w' r (partPoly ts d) := by
  have HL := Lib.hid hs.1
  have hP := implPolyOk_any A n c ts w hs hn hne
  cases hu : polyB ts with
  | false =>
    rw [hu] at hP
    have HP := Lib.hid hP
    have HE := Lib.hid (partPoly_no (d := d) hu)
    clear hP hu
    go_enter Try.func32, Try.ntmps32
    go_wp2_with fail
    refine HP.out.mono ?_
    rintro r w1 ⟨rfl, hd1⟩
    go_wp2
    go_ret
    rw [HE.out]
    exact FreshT.nil_ret hd1
  | true =>
    rw [hu] at hP
    have HP := Lib.hid hP
    have HE := Lib.hid (partPoly_yes (d := d) hu)
    have HU := Lib.hid hu
    have h600 : n ≤ 600 := by have := polyB_len hu; have := hs.1; omega
    clear hP hu
    obtain ⟨i0, hi0, hz0, hz1, hz2⟩ := info_parts Try.infoTermZ
    have HI := Lib.hid (And.intro hi0 (And.intro hz0 (And.intro hz1 hz2)))
    clear hi0 hz0 hz1 hz2
    go_enter Try.func32, Try.ntmps32
    go_wp2_with fail
    refine HP.out.mono ?_
    rintro r w1 ⟨rfl, hd1⟩
    have HBE := Lib.hid hd1
    clear hd1
    go_wp2
    go_loopw [5, 13] (fun v i wr => ∃ (k m c' : Nat) (A' : Option Addr), k ≤ n ∧ i = .int .i64 k ∧ v = .slice A' m c' ∧ OwnT wr w.heap.size wr.heap.size A' m c' (partL ts d k) ∧ Below w.heap.size w wr)
      (fun _ i _ => n - (intOf i).toNat)
    case atStart => exact ⟨0, 0, 0, none, Nat.zero_le _, rfl, rfl, OwnT.nil _ _ _, HBE.out⟩
    case round =>
      obtain ⟨k, m, c', A', hk, rfl, rfl, hown, hbel⟩ := hrel
      have HB2 := Lib.hid hbel
      have HO2 := Lib.hid hown
      have hmk : m ≤ k := by rw [← hown.len]; exact partL_len ts d k
      have hts := hs.below hbel (Nat.le_refl _)
      have hwr := hbel.size
      clear hown HBE hbel
      by_cases hlt : k < n
      · have hlI : (k : Int) < (n : Int) := by omega
        obtain ⟨b, o, A2, n2, c2, rfl, hb, hc0, hc1, hsi, hnc, hnil⟩ := hts.at_ hlt
        have hg := (goodT_iff _).1 (polyB_good HU.out (k := k) (by rw [HL.out]; exact hlt))
        obtain rfl : n2 = 7 := by rw [← hsi.1]; exact hg.1
        obtain ⟨z, hz⟩ : ∃ z, z = (tm ts k).2 := ⟨_, rfl⟩
        rw [← hz] at hc1
        have hS := degree_any A2 7 c2 (tm ts k).1 z (wr.alloc (.cells #[.slice A2 7 c2, .int .i64 z] 51)) (hsi.alloc _) (by omega) (fun j hj => by have := sumN_small hg.1 hg.2.1 j hj; omega)
        obtain ⟨x, hx⟩ : ∃ x, x = sumN (tm ts k).1 7 := ⟨_, rfl⟩
        have e : partL ts d (k + 1) = if x = d then partL ts d k ++ [((tm ts k).1, z)] else partL ts d k := by rw [hx, hz]; rfl
        rw [← hx] at hS
        have HS := Lib.hid hS
        have HEE := Lib.hid e
        have HSI := Lib.hid (hsi.alloc (.cells #[.slice A2 7 c2, .int .i64 z] 51))
        have HNL := Lib.hid hnil
        clear hts hsi hnil hg hS e hx hz hs hne
        go_wp2_with fail
        refine HS.out.mono ?_
        rintro r w2 ⟨rfl, hD2⟩
        have LG := (Blk.new wr 51 #[.slice A2 7 c2, .int .i64 z]).below hD2 (Blk.new wr 51 #[.slice A2 7 c2, .int .i64 z]).lt
        have hb2 : Below wr.heap.size wr w2 := ((Below.refl wr.heap.size wr).alloc (Nat.le_refl _) _).trans (hD2.mono (by simp))
        have hwb := hb2.size
        have HD2 := Lib.hid hb2
        by_cases hxd : x = d
        · subst hxd
          have e := HEE.out
          rw [if_pos rfl] at e
          have HE1 := Lib.hid e
          have q0 : w2.cell? ⟨wr.heap.size, 0, none⟩ = some (.slice A2 7 c2) := LG.cell 0
          have q1 : w2.cell? ⟨wr.heap.size, 1, none⟩ = some (.int .i64 z) := LG.cell 1
          have hcl := termClone_any A2 7 c2 (tm ts k).1 z w2 (HSI.out.below hD2 (Nat.le_refl _)) HNL.out (by omega)
          have HCL := Lib.hid hcl
          clear hD2 e hcl hb2 LG hc0 hc1
          go_wp2_with fail
          refine HCL.out.mono ?_
          rintro r3 w3 ⟨A3, c3, rfl, ho3, hb3⟩
          obtain ⟨E, hE3⟩ := (HO2.out.below (HD2.out.trans (hb3.mono hwb)) (Nat.le_refl _)).named
          have hw3 := hb3.size
          have HE3 := Lib.hid hE3
          have HO3 := Lib.hid ho3
          have HB3 := Lib.hid hb3
          clear hE3 ho3 hb3 q0 q1
          go_wp2_with (at_builtin; refine wpList_append_lies _ rfl (.tmp 21) (.tmp 24) 25 rfl w.heap.size 51 i0 _ 2 32 Try.underlying25 HI.out.1 HI.out.2.1 HI.out.2.2.1 HI.out.2.2.2 rfl (by omega) (.slice A' m c') m _ rfl (HE3.out.2.1.alloc _) ⟨w3.heap.size, 0, none⟩ 1 1 [.slice A3 7 c3, .int .i64 z] rfl rfl (World.news_of_block (cs := #[.slice A3 7 c3, .int .i64 z]) (t := 51) (fr := (0, 0)) (heap_alloc_new w3 _)) (by simp [Value.oneCell']) (by omega) (by unfold maxLen; omega) (by omega) (by simp; omega) (w3.heap.size + 1) (by simp) ?_; intro g cap w5 hrow5 hgrow hat hlt5)
          have hE4 := HE3.out.below ((Below.refl w3.heap.size w3).alloc (Nat.le_refl _) (.cells #[.slice A3 7 c3, .int .i64 z] 51)) (by omega)
          have hx4 := HO3.out.below ((Below.refl w3.heap.size w3).alloc (Nat.le_refl _) (.cells #[.slice A3 7 c3, .int .i64 z] 51)) (Nat.le_refl _)
          have h5 := hE4.app z hx4 (by omega) (by omega) (H := w3.heap.size) (Nat.le_refl _) (by omega) (by simp) hrow5 hgrow (hat.imp id (fun h => by omega)) hlt5
          have HO5 := Lib.hid h5
          have hb5 : Below w.heap.size w w5 := by
            have g1 : Below w.heap.size w w2 := HB2.out.trans (HD2.out.mono hwr)
            have g2 : Below w.heap.size w w3 := g1.trans (HB3.out.mono g1.size)
            have g3 := g2.alloc g2.size (.cells #[.slice A3 7 c3, .int .i64 z] 51)
            exact g3.trans (grow_below hgrow (by simp; omega) (fun b hb => (HE3.out.2.1.lt b hb).1))
          have HB5 := Lib.hid hb5
          clear hE4 hx4 h5 hb5 hrow5 hgrow hat
          go_wp2
          go_roundw
          case rel => exact ⟨k + 1, m + 1, cap, _, by omega, by go_num, rfl, by rw [HE1.out]; exact HO5.out, HB5.out⟩
          case measure => simp [intOf]; omega
        · have e := HEE.out
          rw [if_neg hxd] at e
          have HE1 := Lib.hid e
          have HB6 := Lib.hid (HB2.out.trans (hb2.mono hwr))
          have HO6 := Lib.hid ((HO2.out.below hb2 (Nat.le_refl _)).wide (Nat.le_refl _) hwb)
          clear e hb2 hD2 hc0 hc1 LG
          go_wp2
          go_roundw
          case rel => exact ⟨k + 1, m, c', A', by omega, by go_num, rfl, by rw [HE1.out]; exact HO6.out, HB6.out⟩
          case measure => simp [intOf]; omega
      · have hkn : k = n := by omega
        subst hkn
        go_wp2
        go_ret
        rw [HE.out, HL.out]
        exact ⟨_, _, _, rfl, HO2.out, HB2.out⟩
end Go.Proofs.Ythpgahlfkmkigaa
