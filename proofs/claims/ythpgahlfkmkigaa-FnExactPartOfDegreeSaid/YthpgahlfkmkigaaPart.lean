/-
  The part of a degree, by the document's side: a list of terms that grows by a copy of a term. Conditions: lengths below 2^40.
-/
import Derived.Test.YthpgahlfkmkigaaDegree
import Derived.Test.YthpgahlfkmkigaaConstMono
import Derived.Test.YthpgahlfkmkigaaSpecF
import Derived.Deep.RegionHeld3
import Derived.Deep.AppendLies
namespace Go.Proofs.Ythpgahlfkmkigaa
open Go.RowKit

/-- The terms of degree d among the first k. -/
def partL (ts : List Tm) (d : Int) : Nat → List Tm
  | 0 => []
  | k + 1 => if sumN (tm ts k).1 7 = d then partL ts d k ++ [((tm ts k).1, (tm ts k).2)] else partL ts d k
def partPoly (ts : List Tm) (d : Int) : List Tm := if polyB ts = true then partL ts d ts.length else []
theorem partPoly_no {ts : List Tm} {d : Int} (h : polyB ts = false) : partPoly ts d = [] := by unfold partPoly; rw [if_neg (by rw [h]; decide)]
theorem partPoly_yes {ts : List Tm} {d : Int} (h : polyB ts = true) : partPoly ts d = partL ts d ts.length := by unfold partPoly; rw [if_pos h]
theorem partL_len (ts : List Tm) (d : Int) : ∀ k, (partL ts d k).length ≤ k
  | 0 => Nat.le_refl _
  | k + 1 => by
    have := partL_len ts d k
    unfold partL
    split
    · rw [List.length_append]; simp; omega
    · omega
theorem OwnT.empty (w : World) : OwnT (w.alloc (.cells #[] 51)) w.heap.size (w.heap.size + 1) (some ⟨w.heap.size, 0, none⟩) 0 0 [] :=
  ⟨fun _ => (none, 0, 0), rfl, World.ownsRow_lit w #[] 0 (Nat.le_refl _) (Nat.zero_le _) rfl, fun k hk => by simp [Value.ownBlock] at hk; omega, fun j hj => absurd hj (by omega), fun j g hj => absurd hj (by omega), fun i j g _ hj => absurd hj (by omega)⟩
theorem OwnT.wide {w : World} {lo hi lo' hi' n c : Nat} {A : Option Addr} {ts : List Tm} (h : OwnT w lo hi A n c ts) (h1 : lo' ≤ lo) (h2 : hi ≤ hi') : OwnT w lo' hi' A n c ts := by
  obtain ⟨E, e1, e2, e3, e4, e5, e6⟩ := h
  refine ⟨E, e1, ⟨e2.1, ?_⟩, fun k hk => Nat.lt_of_lt_of_le (e3 k hk) h2, fun j hj => (e4 j hj).wide h1 h2, e5, e6⟩
  rcases e2.2 with hn | ⟨g, cap, cur, e, hl, rest⟩
  · exact .inl hn
  · exact .inr ⟨g, cap, cur, e, Nat.le_trans h1 hl, rest⟩
/-- The same, the blocks of the exponents named. -/
def OwnE (E : Nat → Sv) (w : World) (lo hi : Nat) (A : Option Addr) (n c : Nat) (ts : List Tm) : Prop :=
  ts.length = n ∧ w.ownsRow lo 51 2 (.slice A n c) n (cells2 n fun k => (sv (E k), .int .i64 (tm ts k).2)) ∧ (∀ k, (Value.slice A n c).ownBlock = some k → k < hi) ∧
    (∀ j, j < n → Own w lo hi (E j).1 (E j).2.1 (E j).2.2 (tm ts j).1) ∧ (∀ j g, j < n → (sv (E j)).ownBlock = some g → (Value.slice A n c).ownBlock ≠ some g) ∧
    (∀ i j g, i < j → j < n → (sv (E i)).ownBlock = some g → (sv (E j)).ownBlock ≠ some g)
theorem OwnE.below {E : Nat → Sv} {w w' : World} {lo hi n c B : Nat} {A : Option Addr} {ts : List Tm} (h : OwnE E w lo hi A n c ts) (hb : Below B w w') (hB : hi ≤ B) : OwnE E w' lo hi A n c ts := by
  obtain ⟨h1, h2, h3, h4, h5, h6⟩ := h
  refine ⟨h1, ⟨h2.1, ?_⟩, h3, fun j hj => (h4 j hj).below hb hB, h5, h6⟩
  rcases h2.2 with hn | ⟨g, cap, cur, e, hl, hg, rest⟩
  · exact .inl hn
  · have hlt := h3 g (by rw [e]; rfl)
    exact .inr ⟨g, cap, cur, e, hl, (hb.block g (by omega)).trans hg, rest⟩
theorem OwnT.named {w : World} {lo hi n c : Nat} {A : Option Addr} {ts : List Tm} (h : OwnT w lo hi A n c ts) : ∃ E, OwnE E w lo hi A n c ts := h
/-- A term more behind them. -/
theorem OwnE.app {E : Nat → Sv} {w w' : World} {lo hi n c : Nat} {A : Option Addr} {ts : List Tm} (h : OwnE E w lo hi A n c ts) {lo2 hi2 n2 c2 : Nat} {A2 : Option Addr} {xs : List Int} (x : Int) (hx : Own w lo2 hi2 A2 n2 c2 xs)
    (hlo : lo ≤ lo2) (hd : hi ≤ lo2) {H g cap : Nat} (hH : hi2 ≤ H) (hHh : hi ≤ H) (hHw : H ≤ w.heap.size)
    (ho : w'.ownsRow lo 51 2 (.slice (some ⟨g, 0, none⟩) (n + 1) cap) (n + 1) (cells2 n (fun k => (sv (E k), .int .i64 (tm ts k).2)) ++ [.slice A2 n2 c2, .int .i64 x]))
    (hg : w.grownBy w' (Value.slice A n c).ownBlock) (hat : (Value.slice A n c).ownBlock = some g ∨ H ≤ g) (hlt : g < w'.heap.size) : OwnT w' lo w'.heap.size (some ⟨g, 0, none⟩) (n + 1) cap (ts ++ [(xs, x)]) := by
  obtain ⟨h1, h2, h3, h4, h5, h6⟩ := h
  have hsz := hg.size
  rw [cells2_app] at ho
  have eE : ∀ j, j < n → (if j = n then ((A2, n2, c2) : Sv) else E j) = E j := fun j hj => by rw [if_neg (by omega)]
  have eN : (if n = n then ((A2, n2, c2) : Sv) else E n) = (A2, n2, c2) := if_pos rfl
  refine ⟨fun j => if j = n then (A2, n2, c2) else E j, by simp [h1], row_eq ho (cells2_congr fun j hj => ?_), ?_, ?_, ?_, ?_⟩
  · by_cases e : j = n
    · subst e
      have := @tm_app_at ts (xs, x)
      rw [h1] at this
      rw [if_pos rfl]
      show (Value.slice A2 n2 c2, Value.int .i64 x) = (sv (if j = j then ((A2, n2, c2) : Sv) else E j), Value.int .i64 (tm (ts ++ [(xs, x)]) j).2)
      rw [eN, this]; rfl
    · rw [if_neg e]
      show _ = (sv (if j = n then ((A2, n2, c2) : Sv) else E j), Value.int .i64 (tm (ts ++ [(xs, x)]) j).2)
      rw [eE j (by omega), tm_app_lt (by rw [h1]; omega)]
  · intro k hk
    simp [Value.ownBlock] at hk
    omega
  · intro j hj
    by_cases e : j = n
    · subst e
      have := @tm_app_at ts (xs, x)
      rw [h1] at this
      rw [this]
      show Own w' lo w'.heap.size (if j = j then ((A2, n2, c2) : Sv) else E j).1 (if j = j then ((A2, n2, c2) : Sv) else E j).2.1 (if j = j then ((A2, n2, c2) : Sv) else E j).2.2 xs
      rw [eN]
      exact (hx.kept hg (fun b hb e => by have h7 := hx.lt b hb; have h8 := h3 b e; omega)).wide hlo (by omega)
    · rw [tm_app_lt (by rw [h1]; omega)]
      show Own w' lo w'.heap.size (if j = n then ((A2, n2, c2) : Sv) else E j).1 (if j = n then ((A2, n2, c2) : Sv) else E j).2.1 (if j = n then ((A2, n2, c2) : Sv) else E j).2.2 _
      rw [eE j (by omega)]
      exact ((h4 j (by omega)).kept hg (fun b hb e => h5 j b (by omega) hb e)).wide (Nat.le_refl _) (by omega)
  · intro j b hj hb e2
    have hbg : b = g := by simp [Value.ownBlock] at e2; omega
    subst hbg
    have hb' : (sv (if j = n then ((A2, n2, c2) : Sv) else E j)).ownBlock = some b := hb
    by_cases e : j = n
    · subst e
      rw [eN] at hb'
      have h7 := hx.lt b hb'
      rcases hat with ha | ha
      · have := h3 b ha; omega
      · omega
    · rw [eE j (by omega)] at hb'
      rcases hat with ha | ha
      · exact h5 j b (by omega) hb' ha
      · have := (h4 j (by omega)).lt b hb'; omega
  · intro i j b hij hj hb hb2
    have hb' : (sv (if i = n then ((A2, n2, c2) : Sv) else E i)).ownBlock = some b := hb
    have hb2' : (sv (if j = n then ((A2, n2, c2) : Sv) else E j)).ownBlock = some b := hb2
    rw [eE i (by omega)] at hb'
    by_cases e : j = n
    · subst e
      rw [eN] at hb2'
      have h7 := hx.lt b hb2'
      have h8 := (h4 i (by omega)).lt b hb'
      omega
    · rw [eE j (by omega)] at hb2'
      exact h6 i j b hij (by omega) hb' hb2'

set_option maxRecDepth 100000 in
set_option maxHeartbeats 1600000 in
theorem specPart_any (A : Option Addr) (n c : Nat) (ts : List Tm) (d : Int) (w : World) (hs : TS w A n ts) (hn : n ≤ 1099511627776) (hne : ∀ k, k < n → (tm ts k).1.length ≤ 1099511627776) :
    Calls Try.prog 31 #[.slice A n c, .int .i64 d] w fun r w' => FreshT w w' r (partPoly ts d) := by
  have HL := Lib.hid hs.1
  have hP := specPolyOk_any A n c ts w hs hn hne
  cases hu : polyB ts with
  | false =>
    rw [hu] at hP
    have HP := Lib.hid hP
    have HE := Lib.hid (partPoly_no (d := d) hu)
    clear hP hu
    go_enter Try.func31, Try.ntmps31
    go_wp2_with fail
    refine HP.out.mono ?_
    rintro r w1 ⟨rfl, hd1⟩
    go_wp2
    go_ret
    rw [HE.out]
    exact FreshT.nil_ret (hd1.below _)
  | true =>
    rw [hu] at hP
    have HP := Lib.hid hP
    have HE := Lib.hid (partPoly_yes (d := d) hu)
    have HU := Lib.hid hu
    have h600 : n ≤ 600 := by have := polyB_len hu; have := hs.1; omega
    clear hP hu
    obtain ⟨i0, hi0, hz0, hz1, hz2⟩ := info_parts Try.infoTermZ
    have HI := Lib.hid (And.intro hi0 (And.intro hz0 (And.intro hz1 hz2)))
    clear hi0 hz0 hz1 hz2
    go_enter Try.func31, Try.ntmps31
    go_wp2_with fail
    refine HP.out.mono ?_
    rintro r w1 ⟨rfl, hd1⟩
    have hb1 : Below w.heap.size w w1 := hd1.below _
    have hbe : Below w.heap.size w (w1.alloc (.cells #[] 51)) := hb1.alloc hb1.size _
    have hoe : OwnT (w1.alloc (.cells #[] 51)) w.heap.size (w1.alloc (.cells #[] 51)).heap.size (some ⟨w1.heap.size, 0, none⟩) 0 0 [] :=
      (OwnT.empty w1).wide hb1.size (by simp)
    have HOE := Lib.hid hoe
    have HBE := Lib.hid hbe
    clear hoe hbe hb1 hd1
    go_wp2
    go_loopw [5, 6] (fun v i wr => ∃ (k m c' : Nat) (A' : Option Addr), k ≤ n ∧ i = .int .i64 k ∧ v = .slice A' m c' ∧ OwnT wr w.heap.size wr.heap.size A' m c' (partL ts d k) ∧ Below w.heap.size w wr)
      (fun _ i _ => n - (intOf i).toNat)
    case atStart => exact ⟨0, 0, 0, _, Nat.zero_le _, rfl, rfl, HOE.out, HBE.out⟩
    case round =>
      obtain ⟨k, m, c', A', hk, rfl, rfl, hown, hbel⟩ := hrel
      have HB2 := Lib.hid hbel
      have HO2 := Lib.hid hown
      have hmk : m ≤ k := by rw [← hown.len]; exact partL_len ts d k
      have hts := hs.below hbel (Nat.le_refl _)
      clear hown HOE HBE
      by_cases hlt : k < n
      · have hlI : (k : Int) < (n : Int) := by omega
        obtain ⟨b, o, A2, n2, c2, rfl, hb, hc0, hc1, hsi, hnc, hnil⟩ := hts.at_ hlt
        have hbw : b < w.heap.size := by
          obtain ⟨b', o', _, _, _, e', hb', _⟩ := hs.at_ hlt
          injection e' with e'
          injection e' with e1 _ _
          omega
        have hg := (goodT_iff _).1 (polyB_good HU.out (k := k) (by rw [HL.out]; exact hlt))
        obtain rfl : n2 = 7 := by rw [← hsi.1]; exact hg.1
        have hS := l1Sum_any A2 7 c2 (tm ts k).1 wr hsi (by omega) (fun j hj => by have := sumN_small hg.1 hg.2.1 j hj; omega)
        obtain ⟨x, hx⟩ : ∃ x, x = sumN (tm ts k).1 7 := ⟨_, rfl⟩
        obtain ⟨z, hz⟩ : ∃ z, z = (tm ts k).2 := ⟨_, rfl⟩
        have e : partL ts d (k + 1) = if x = d then partL ts d k ++ [((tm ts k).1, z)] else partL ts d k := by rw [hx, hz]; rfl
        rw [← hx] at hS
        rw [← hz] at hc1
        have HS := Lib.hid hS
        have HEE := Lib.hid e
        have HSI := Lib.hid hsi
        have hcc := And.intro hc0 hc1
        have HCC := Lib.hid hcc
        clear hts hc1 hsi hnil hg hS e hx hz hcc hs hne
        go_wp2_with fail
        refine HS.out.mono ?_
        rintro r w2 ⟨rfl, hD2⟩
        have hb2 : Below wr.heap.size wr w2 := hD2.below _
        have hwb := hb2.size
        have hwr := hbel.size
        have HD2 := Lib.hid hb2
        by_cases hxd : x = d
        · subst hxd
          have e := HEE.out
          rw [if_pos rfl] at e
          have HE1 := Lib.hid e
          have q0 : w2.cell? ⟨b, o + k * 2, none⟩ = some (.slice A2 7 c2) := by rw [Below.cell hb2 (p := ⟨b, o + k * 2, none⟩) hb]; exact HCC.out.1
          have q1 : w2.cell? ⟨b, o + k * 2 + 1, none⟩ = some (.int .i64 z) := by rw [Below.cell hb2 (p := ⟨b, o + k * 2 + 1, none⟩) hb]; exact HCC.out.2
          have hsd : SI w2.drew A2 7 (tm ts k).1 := (HSI.out.below hb2 (Nat.le_refl _)).below ((Below.refl w2.heap.size w2).drew) (Nat.le_refl _)
          have hod : OwnT w2.drew w.heap.size wr.heap.size A' m c' (partL ts x k) := (HO2.out.below hb2 (Nat.le_refl _)).below ((Below.refl w2.heap.size w2).drew) (by omega)
          have HSD := Lib.hid hsd
          have HOD := Lib.hid hod
          clear hD2 e hc0 hsd hod hb2 hbel
          go_wp2_with fail
          go_region_held3 (fun w' => w'.cell? ⟨b, o + k * 2, none⟩ = some (.slice A2 7 c2) ∧ w'.cell? ⟨b, o + k * 2 + 1, none⟩ = some (.int .i64 z))
            (first | go_keep | exact K3 | exact K5)
            (first
              | (refine (l1Ints_any A2 7 c2 (tm ts k).1 w2.drew HSD.out (by omega)).mono ?_
                 rintro r3 w3 ⟨A3, n3, c3, rfl, ho3, hb3⟩
                 have K3 : w3.cell? ⟨b, o + k * 2, none⟩ = some (.slice A2 7 c2) ∧ w3.cell? ⟨b, o + k * 2 + 1, none⟩ = some (.int .i64 z) :=
                   ⟨by rw [Below.cell hb3 (p := ⟨b, o + k * 2, none⟩) (by show b < w2.heap.size; omega)]; exact q0, by rw [Below.cell hb3 (p := ⟨b, o + k * 2 + 1, none⟩) (by show b < w2.heap.size; omega)]; exact q1⟩
                 obtain ⟨E, hE3⟩ := (HOD.out.below hb3 (by show wr.heap.size ≤ w2.heap.size; omega)).named
                 obtain rfl : 7 = n3 := by have := ho3.len; have := HSD.out.1; omega
                 have HE3 := Lib.hid hE3
                 have HO3 := Lib.hid ho3
                 have HB3 := Lib.hid hb3
                 have hw3 : w2.heap.size ≤ w3.heap.size := hb3.size
                 clear hE3 ho3 hb3)
              | (refine step_append_lies _ (by rfl) (.tmp 25) (.tmp 38) 25 (by rfl) w.heap.size 51 i0 _ 2 32 Try.underlying25 HI.out.1 HI.out.2.1 HI.out.2.2.1 HI.out.2.2.2 rfl (by omega) (.slice A' m c') m _ (by rfl) (HE3.out.2.1.alloc _)
                   ⟨w3.heap.size, 0, none⟩ 1 1 [.slice A3 7 c3, .int .i64 z] (by rfl) (by rfl) (World.news_of_block (cs := #[.slice A3 7 c3, .int .i64 z]) (t := 51) (fr := (0, 0)) (heap_alloc_new w3 _)) (by simp [Value.oneCell'])
                   (by omega) (by unfold maxLen; omega) (by omega) (by simp; omega) (w3.heap.size + 1) (by simp) ?_
                 intro g cap w5 hrow5 hgrow hat hlt5
                 have HR5 := Lib.hid hrow5
                 have HG5 := Lib.hid hgrow
                 have HA5 := Lib.hid hat
                 have K5 : w5.cell? ⟨b, o + k * 2, none⟩ = some (.slice A2 7 c2) ∧ w5.cell? ⟨b, o + k * 2 + 1, none⟩ = some (.int .i64 z) := by
                   have hne : some b ≠ (Value.slice A' m c').ownBlock := fun e => by have := HE3.out.2.1.lt b e.symm; omega
                   exact ⟨by rw [hgrow.cell_far ⟨b, o + k * 2, none⟩ (by simp; omega) hne]; exact (Below.cell ((Below.refl w3.heap.size w3).alloc (Nat.le_refl _) _) (p := ⟨b, o + k * 2, none⟩) (by show b < w3.heap.size; omega)).trans K3.1, by rw [hgrow.cell_far ⟨b, o + k * 2 + 1, none⟩ (by simp; omega) hne]; exact (Below.cell ((Below.refl w3.heap.size w3).alloc (Nat.le_refl _) _) (p := ⟨b, o + k * 2 + 1, none⟩) (by show b < w3.heap.size; omega)).trans K3.2⟩
                 clear hrow5 hgrow hat))
          have hE4 := HE3.out.below ((Below.refl w3.heap.size w3).alloc (Nat.le_refl _) (.cells #[.slice A3 7 c3, .int .i64 z] 51)) (by omega)
          have hx4 := HO3.out.below ((Below.refl w3.heap.size w3).alloc (Nat.le_refl _) (.cells #[.slice A3 7 c3, .int .i64 z] 51)) (Nat.le_refl _)
          have h5 := hE4.app z hx4 (by show w.heap.size ≤ w2.heap.size; omega) (by show wr.heap.size ≤ w2.heap.size; omega) (H := w3.heap.size) (Nat.le_refl _) (by omega) (by simp) HR5.out HG5.out (HA5.out.imp id (fun h => by omega)) hlt5
          have HO5 := Lib.hid h5
          have hb5 : Below w.heap.size w w5 := by
            have g1 : Below w.heap.size w w2 := HB2.out.trans (HD2.out.mono hwr)
            have g2 : Below w.heap.size w w3 := g1.drew.trans (HB3.out.mono (by show w.heap.size ≤ w2.heap.size; omega))
            have g3 := g2.alloc g2.size (.cells #[.slice A3 7 c3, .int .i64 z] 51)
            exact g3.trans (grow_below HG5.out (by simp; omega) (fun b hb => (HE3.out.2.1.lt b hb).1))
          have HB5 := Lib.hid hb5
          clear hE4 hx4 h5 hb5 K3 K5
          go_wp2
          go_roundw
          case rel => exact ⟨k + 1, m + 1, cap, _, by omega, by go_num, rfl, by rw [HE1.out]; exact HO5.out, HB5.out⟩
          case measure => simp [intOf]; omega
        · have e := HEE.out
          rw [if_neg hxd] at e
          have HE1 := Lib.hid e
          have HB6 := Lib.hid (HB2.out.trans (hb2.mono hwr))
          have HO6 := Lib.hid ((HO2.out.below hb2 (Nat.le_refl _)).wide (Nat.le_refl _) hwb)
          clear e hb2 hD2 hc0 hbel
          go_wp2
          go_roundw
          case rel => exact ⟨k + 1, m, c', A', by omega, by go_num, rfl, by rw [HE1.out]; exact HO6.out, HB6.out⟩
          case measure => simp [intOf]; omega
      · have hkn : k = n := by omega
        subst hkn
        go_wp2
        go_ret
        rw [HE.out, HL.out]
        exact ⟨_, _, _, rfl, HO2.out, HB2.out⟩
end Go.Proofs.Ythpgahlfkmkigaa
