/-
  Contracts of words and of what comes of them: the specification's side. Conditions: lengths below 2^40.
-/
import Derived.Test.YthmnaakaogpohaaSpecA
import Derived.Test.YthmnaakaogpohaaSpecF
namespace Go.Proofs.Ythmnaakaogpohaa
open Go.RowKit

/-- Two places exchanged. -/
def swapL (l : List Int) (i j : Nat) : List Int := (l.set i (nth l j)).set j (nth l i)
theorem swapL_len (l : List Int) (i j : Nat) : (swapL l i j).length = l.length := by simp [swapL]
theorem swapL_take {l : List Int} {i j n : Nat} (hi : i < n) (hj : j < n) : (swapL l i j).take n = swapL (l.take n) i j := by
  unfold swapL
  rw [List.take_set, List.take_set, nth_take hi, nth_take hj]

set_option maxHeartbeats 800000 in
theorem l1Swap_any (A : Option Addr) (n c i j : Nat) (xs : List Int) (w : World) (hs : SI w A n xs) (hi : i < n) (hj : j < n) (hij : i ≠ j) (hn : n ≤ 1099511627776) :
    Calls Try.prog 65 #[.slice A n c, .int .i64 i, .int .i64 j] w fun e w' => Fresh w w' e (swapL xs i j) := by
  have HL := Lib.hid hs.1
  go_enter Try.func65, Try.ntmps65
  go_wp2_with fail
  refine (l1Ints_any A n c xs _ hs hn).mono ?_
  rintro e w1 ⟨A1, n1, c1, rfl, ho1, hb1⟩
  have en : n1 = n := by have := ho1.len; have := HL.out; omega
  subst en
  obtain ⟨g, rfl, hg1, hg2⟩ := ho1.place (by omega)
  obtain ⟨b, o, rfl, hb, hc⟩ := (hs.below hb1 (Nat.le_refl _)).at_ (by omega)
  obtain ⟨b0, o0, e0, hb0, hc0⟩ := hs.at_ (by omega)
  have hbb : b = b0 := by injection e0 with e1; injection e1
  have hbg : b ≠ g := by omega
  have hci := hc i hi
  have hcj := hc j hj
  obtain ⟨x, hx⟩ : ∃ x, x = nth xs i := ⟨_, rfl⟩
  obtain ⟨y, hy⟩ : ∃ y, y = nth xs j := ⟨_, rfl⟩
  rw [← hx] at hci
  rw [← hy] at hcj
  have hgi := ho1.cellAt hi
  have hgj := ho1.cellAt hj
  have hfi := ho1.frozenAt i
  have h1 := (ho1.set_ (k := i) y).1
  have hgj2 : (w1.setCell ⟨g, i, none⟩ (.int .i64 y)).cell? ⟨g, j, none⟩ = some (.int .i64 (nth xs j)) := (World.cell?_setCell_other w1 _ _ _ (by intro e; injection e with _ e2; exact hij e2)).trans hgj
  have hci2 : (w1.setCell ⟨g, i, none⟩ (.int .i64 y)).cell? ⟨b, o + i, none⟩ = some (.int .i64 x) := (World.cell?_setCell_other w1 _ _ _ (by intro e; injection e with e2; exact hbg e2.symm)).trans hci
  have hfj2 := h1.frozenAt j
  have h2 := (h1.set_ (k := j) x).1
  have HS : Hid (Own ((w1.setCell ⟨g, i, none⟩ (.int .i64 y)).setCell ⟨g, j, none⟩ (.int .i64 x)) w.heap.size w1.heap.size (some ⟨g, 0, none⟩) n1 c1 (swapL xs i j)) := Lib.hid (by unfold swapL; rw [← hx, ← hy]; exact h2)
  have HB := Lib.hid hb1
  have hiI : (i : Int) < (n1 : Int) := by omega
  have hjI : (j : Int) < (n1 : Int) := by omega
  have HG := Lib.hid hg1
  clear hx hy h1 h2 ho1 hb1 hs hc hc0 e0 hb hb0 hbb hbg hg2 hg1 hgj
  go_wp2
  go_ret
  exact ⟨_, _, _, rfl, HS.out.wide (Nat.le_refl _) (by simp), (HB.out.setCell HG.out _).setCell HG.out _⟩

/-- Is the list a word for a size. -/
def wordP (a : Int) (ws : List Int) : Prop := 1 ≤ a ∧ a ≤ 7 ∧ ws.length ≤ 60 ∧ ∀ k, k < ws.length → 0 ≤ nth ws k ∧ nth ws k ≤ a - 2
def wordB (a : Int) (ws : List Int) : Bool := decide (1 ≤ a) && decide (a ≤ 7) && decide (ws.length ≤ 60) && (List.range ws.length).all fun k => decide (0 ≤ nth ws k) && decide (nth ws k ≤ a - 2)
theorem wordB_iff (a : Int) (ws : List Int) : wordB a ws = true ↔ wordP a ws := by
  simp [wordB, wordP, and_assoc]
theorem wordB_P {a : Int} {ws : List Int} (h : wordB a ws = true) : wordP a ws := (wordB_iff a ws).1 h
theorem wordB_true {a : Int} {ws : List Int} (h : wordP a ws) : wordB a ws = true := (wordB_iff a ws).2 h
theorem wordB_false {a : Int} {ws : List Int} (h : ¬ wordP a ws) : wordB a ws = false := by
  cases hb : wordB a ws with
  | false => rfl
  | true => exact absurd (wordB_P hb) h

/-- What comes of the first k numbers of a word: all of the swaps, or those that make longer. -/
def playL (ws : List Int) (all : Bool) : Nat → List Int
  | 0 => idL 7
  | k + 1 => if all = true ∨ nth (playL ws all k) (nth ws k).toNat < nth (playL ws all k) ((nth ws k).toNat + 1) then swapL (playL ws all k) (nth ws k).toNat ((nth ws k).toNat + 1) else playL ws all k
theorem playL_len (ws : List Int) (all : Bool) (k : Nat) : (playL ws all k).length = 7 := by
  induction k with
  | zero => rfl
  | succ k ih => unfold playL; split <;> simp [swapL_len, ih]
theorem playL_hit {ws : List Int} {all : Bool} {k i : Nat} (hi : (nth ws k).toNat = i) (h : all = true ∨ nth (playL ws all k) i < nth (playL ws all k) (i + 1)) : playL ws all (k + 1) = swapL (playL ws all k) i (i + 1) := by
  subst hi
  show (if all = true ∨ nth (playL ws all k) (nth ws k).toNat < nth (playL ws all k) ((nth ws k).toNat + 1) then swapL (playL ws all k) (nth ws k).toNat ((nth ws k).toNat + 1) else playL ws all k) = _
  rw [if_pos h]
theorem playL_miss {ws : List Int} {all : Bool} {k i : Nat} (hi : (nth ws k).toNat = i) (h : ¬ (all = true ∨ nth (playL ws all k) i < nth (playL ws all k) (i + 1))) : playL ws all (k + 1) = playL ws all k := by
  subst hi
  show (if all = true ∨ nth (playL ws all k) (nth ws k).toNat < nth (playL ws all k) ((nth ws k).toNat + 1) then swapL (playL ws all k) (nth ws k).toNat ((nth ws k).toNat + 1) else playL ws all k) = _
  rw [if_neg h]
theorem idL_take {n : Nat} (h : n ≤ 7) : (idL 7).take n = idL n := by
  rw [idL, idL, ← List.map_take, List.take_range, Nat.min_eq_left h]
theorem Drawn.own {w w' : World} {lo hi n c : Nat} {A : Option Addr} {xs : List Int} (hd : Drawn w w') (h : Own w lo hi A n c xs) : Own w' lo hi A n c xs := h.drawn hd

set_option maxHeartbeats 2000000 in
theorem l1Play_any (m : Nat) (all : Bool) (A : Option Addr) (n c : Nat) (ws : List Int) (w : World) (hs : SI w A n ws) (hw : wordP (m : Int) ws) :
    Calls Try.prog 74 #[.int .i64 m, .slice A n c, .bool all] w fun e w' => Fresh w w' e ((playL ws all n).take m) := by
  have HW := Lib.hid hw
  have HL := Lib.hid hs.1
  have hm1 : 1 ≤ m := by have := hw.1; omega
  have hm7 : m ≤ 7 := by have := hw.2.1; omega
  have hn60 : n ≤ 60 := by have := hw.2.2.1; have := hs.1; omega
  clear hw
  go_enter Try.func74, Try.ntmps74
  go_wp2_with fail
  refine (specIdentity_in m _ hm1 hm7).mono ?_
  rintro e w1 ⟨A1, n1, c1, rfl, ho1, hb1⟩
  have en : n1 = m := by have := ho1.len; rw [idL_len] at this; omega
  subst en
  go_wp2
  go_loopw [7, 8] (fun v i wr => ∃ (k : Nat) (A : Option Addr) (c : Nat), k ≤ n ∧ i = .int .i64 k ∧ v = .slice A n1 c ∧ Own wr w.heap.size wr.heap.size A n1 c ((playL ws all k).take n1) ∧ Below w.heap.size w wr)
    (fun _ i _ => n - (intOf i).toNat)
  case atStart => exact ⟨0, _, _, Nat.zero_le _, rfl, rfl, by show Own _ _ _ _ _ _ ((idL 7).take n1); rw [idL_take hm7]; exact ho1, hb1⟩
  case round =>
    obtain ⟨k, A0, c0, hk, rfl, rfl, hown, hbel⟩ := hrel
    have HO := Lib.hid hown
    have HB := Lib.hid hbel
    by_cases hlt : k < n
    · obtain ⟨b, o, e1, hb, hc⟩ := (hs.below hbel (Nat.le_refl _)).at_ (by omega)
      have hc1 := hc k hlt
      obtain ⟨hw1, hw2⟩ := HW.out.2.2.2 k (by have := HL.out; omega)
      obtain ⟨q, hq⟩ : ∃ q : Nat, nth ws k = (q : Int) := ⟨(nth ws k).toNat, by omega⟩
      have hqt : (nth ws k).toNat = q := by omega
      rw [hq] at hc1
      have hq2 : q + 1 < n1 := by omega
      have HQ := Lib.hid hqt
      obtain ⟨g, rfl, hg1, hg2⟩ := hown.place (by omega)
      have hcq := hown.cellAt (k := q) (by omega)
      have hcq1 := hown.cellAt (k := q + 1) (by omega)
      rw [nth_take (by omega)] at hcq hcq1
      obtain ⟨x, hx⟩ : ∃ x, x = nth (playL ws all k) q := ⟨_, rfl⟩
      obtain ⟨y, hy⟩ : ∃ y, y = nth (playL ws all k) (q + 1) := ⟨_, rfl⟩
      rw [← hx] at hcq
      rw [← hy] at hcq1
      have HX := Lib.hid hx
      have HY := Lib.hid hy
      subst e1
      clear hc hs hx hy hq hqt hw1 hw2 hown hbel ho1 hb1 hb hg1 hg2
      have hqI : (q : Int) < (n1 : Int) := by omega
      have hqI1 : (q : Int) + 1 < (n1 : Int) := by omega
      have swap : ∀ wx : World, Drawn wr wx → Calls Try.prog 65 #[.slice (some ⟨g, 0, none⟩) n1 c0, .int .i64 q, .int .i64 ((q : Int) + 1)] wx (fun e w' => Fresh wx w' e ((swapL (playL ws all k) q (q + 1)).take n1)) := fun wx hd => by
        rw [swapL_take (by omega) (by omega)]
        exact l1Swap_any _ _ _ q (q + 1) _ _ (hd.own HO.out).si (by omega) (by omega) (by omega) (by omega)
      have SW := Lib.hid swap
      clear swap
      have hwr : IntKind.i64.wrap ((q : Int) + 1) = (q : Int) + 1 := IntWalk.i64_in _ (by omega)
      have hn1 : ((q : Int) + 1).toNat = q + 1 := by omega
      have h01 : (0 : Int) ≤ (q : Int) + 1 := by omega
      cases all with
      | true =>
        go_wp2_with fail
        go_quiet (fail)
        clear hwr hn1 h01
        go_wp2_with fail
        refine (SW.out _ ⟨_, rfl⟩).mono ?_
        rintro e w3 ⟨A3, n3, c3, rfl, ho3, hb3⟩
        have e3 : n3 = n1 := by have := ho3.len; rw [List.length_take, swapL_len, playL_len] at this; omega
        subst e3
        have HO3 := Lib.hid ho3
        have HB3 := Lib.hid hb3
        clear ho3 hb3
        go_wp2
        go_roundw
        case rel => exact ⟨k + 1, _, _, by omega, by go_num, rfl, by rw [playL_hit HQ.out (.inl rfl)]; exact HO3.out.wide HB.out.size (Nat.le_refl _), (HB.out.drawnN _).trans (HB3.out.mono HB.out.size)⟩
        case measure => simp [intOf]; omega
      | false =>
        by_cases hxy : x < y
        · go_wp2_with fail
          go_quiet (fail)
          clear hwr hn1 h01
          go_wp2_with fail
          refine (SW.out _ ⟨_, rfl⟩).mono ?_
          rintro e w3 ⟨A3, n3, c3, rfl, ho3, hb3⟩
          have e3 : n3 = n1 := by have := ho3.len; rw [List.length_take, swapL_len, playL_len] at this; omega
          subst e3
          have HO3 := Lib.hid ho3
          have HB3 := Lib.hid hb3
          clear ho3 hb3
          go_wp2
          go_roundw
          case rel => exact ⟨k + 1, _, _, by omega, by go_num, rfl, by rw [playL_hit HQ.out (.inr (by have := HX.out; have := HY.out; omega))]; exact HO3.out.wide HB.out.size (Nat.le_refl _), (HB.out.drawnN _).trans (HB3.out.mono HB.out.size)⟩
          case measure => simp [intOf]; omega
        · go_wp2_with fail
          go_quiet (fail)
          clear hwr hn1 h01
          go_wp2
          go_roundw
          case rel =>
            have e0 : playL ws false (k + 1) = playL ws false k := playL_miss HQ.out (by
              have := HX.out
              have := HY.out
              rintro (h | h)
              · cases h
              · omega)
            exact ⟨k + 1, _, _, by omega, by go_num, rfl, by rw [e0]; exact HO.out.drawn ⟨_, rfl⟩, HB.out.drawnN _⟩
          case measure => simp [intOf]; omega
    · have hkn : k = n := by omega
      subst hkn
      clear hown hbel
      go_wp2
      go_ret
      exact ⟨A0, _, c0, rfl, HO.out, HB.out⟩

/-- What WordPerm (all) and DemazurePerm answer. -/
def playPerm (all : Bool) (a : Int) (ws : List Int) : List Int := if wordB a ws = true then (playL ws all ws.length).take a.toNat else []
theorem playPerm_no {all : Bool} {a : Int} {ws : List Int} (h : wordB a ws = false) : playPerm all a ws = [] := by unfold playPerm; rw [if_neg (by rw [h]; decide)]
theorem playPerm_yes {all : Bool} {m : Nat} {ws : List Int} (h : wordB (m : Int) ws = true) : playPerm all (m : Int) ws = (playL ws all ws.length).take m := by unfold playPerm; rw [if_pos h, Int.toNat_natCast]
theorem playPerm_small (all : Bool) (a : Int) (ws : List Int) : (playPerm all a ws).length ≤ 1099511627775 := by
  unfold playPerm
  split
  · rw [List.length_take, playL_len]; omega
  · simp
end Go.Proofs.Ythmnaakaogpohaa
