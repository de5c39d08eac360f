/-
  The bottom dream of a permutation, both sides. Conditions: lengths below 2^40.
-/
import Derived.Test.YtkfpacjncpifgaaCells
import Derived.Test.YtkfpacjncpifgaaImplD
namespace Go.Proofs.Ytkfpacjncpifgaa
open Go.RowKit

/-- The first m cells of row i. -/
def bRow (i : Nat) : Nat → List Ce
  | 0 => []
  | m + 1 => bRow i m ++ [((i : Int), (m : Int))]
theorem bRow_len (i : Nat) : ∀ m, (bRow i m).length = m
  | 0 => rfl
  | m + 1 => by have := bRow_len i m; simp [bRow, this]
/-- The first k rows, as many cells in each as ys says. -/
def bAll (ys : List Int) : Nat → List Ce
  | 0 => []
  | i + 1 => bAll ys i ++ bRow i (nth ys i).toNat
theorem bAll_len {ys : List Int} : ∀ k, (∀ i, i < k → nth ys i ≤ 7) → (bAll ys k).length ≤ 7 * k
  | 0, _ => by simp [bAll]
  | k + 1, h => by
    have h1 := bAll_len (ys := ys) k (fun i hi => h i (by omega))
    have h2 := bRow_len k (nth ys k).toNat
    have h3 := h k (by omega)
    have e : bAll ys (k + 1) = bAll ys k ++ bRow k (nth ys k).toNat := rfl
    rw [e, List.length_append]
    omega
def botPerm (xs : List Int) : List Ce := if isPermB xs = true ∧ xs.length ≤ 6 then bAll (codeL xs xs.length xs.length) xs.length else []
theorem botPerm_no {xs : List Int} (h : ¬ (isPermB xs = true ∧ xs.length ≤ 6)) : botPerm xs = [] := by unfold botPerm; rw [if_neg h]
theorem botPerm_yes {xs : List Int} (h : isPermB xs = true) (h6 : xs.length ≤ 6) : botPerm xs = bAll (codeL xs xs.length xs.length) xs.length := by unfold botPerm; rw [if_pos ⟨h, h6⟩]
theorem code_range (xs : List Int) {n k : Nat} (h : k < n) : 0 ≤ nth (codeL xs n n) k ∧ nth (codeL xs n n) k ≤ n := by
  rw [codeL_nth _ _ _ _ h, if_pos h]
  have := codeCnt_le xs k n
  omega
theorem botPerm_small (xs : List Int) : (botPerm xs).length ≤ 49 := by
  unfold botPerm
  split
  · rename_i h
    have := bAll_len (ys := codeL xs xs.length xs.length) xs.length (fun i hi => by have := (code_range xs hi).2; omega)
    omega
  · simp

set_option maxRecDepth 100000 in
set_option maxHeartbeats 1600000 in
theorem specBottom_any (A : Option Addr) (n c : Nat) (xs : List Int) (w : World) (hs : SI w A n xs) (hnc : n ≤ c) (hn : n ≤ 1099511627776) :
    Calls Try.prog 44 #[.slice A n c] w fun e w' => FreshC w w' e (botPerm xs) := by
  have HL := Lib.hid hs.1
  cases hu : isPermB xs with
  | false =>
    have HE := Lib.hid (botPerm_no (xs := xs) (fun h => by rw [hu] at h; cases h.1))
    have HU := Lib.hid hu
    clear hu
    go_enter Try.func44, Try.ntmps44
    go_wp2_with (go_at_call 72; refine (specIsPerm_is c HU.out hs hnc hn).mono ?_; rintro e w1 ⟨rfl, hd1⟩)
    go_ret
    rw [HE.out]
    exact FreshC.nil_ret (hd1.below _)
  | true =>
    have HU := Lib.hid hu
    by_cases h6 : n ≤ 6
    · have HE := Lib.hid (botPerm_yes hu (by rw [hs.1]; exact h6))
      have h1 : 1 ≤ n := by have := (isPermB_P hu).1; have := hs.1; omega
      have h6I : (n : Int) ≤ 6 := by omega
      clear hu
      go_enter Try.func44, Try.ntmps44
      go_wp2_with (go_at_call 72; refine (specIsPerm_is c HU.out hs hnc hn).mono ?_; rintro e w1 ⟨rfl, hd1⟩; have HD1 := Lib.hid hd1; clear hd1)
      have hz : w1.heap.size = w.heap.size := by rw [HD1.out.heap]
      have hC0 := (OwnC.empty w1)
      have hb1 : Below w.heap.size w (w1.alloc (.cells #[] 98)) := (HD1.out.below _).alloc (by rw [hz]; exact Nat.le_refl _) _
      have hs1 := hs.below hb1 (Nat.le_refl _)
      have hsz : (w1.alloc (.cells #[] 98)).heap.size = w1.heap.size + 1 := by simp
      generalize (w1.alloc (.cells #[] 98)) = w2 at *
      have HC0 := Lib.hid hC0
      have HB1 := Lib.hid hb1
      have HSZ := Lib.hid (And.intro hsz hz)
      have HI := Lib.hid (l1Code_any A n c xs w2 hs1 hn)
      clear hC0 hb1 hs1 hsz hs hz
      refine HI.out.mono ?_
      rintro e w3 ⟨Ab, nb, cb, rfl, hob, hbb⟩
      have enb : nb = n := by have := hob.len; rw [codeL_len] at this; exact this.symm
      subst enb
      obtain ⟨gb, rfl, hgb1, hgb2⟩ := hob.place (by omega)
      have HC3 : Hid (OwnC w3 w.heap.size w3.heap.size (some ⟨w1.heap.size, 0, none⟩) 0 0 []) := Lib.hid ((HC0.out.below hbb (by rw [HSZ.out.1]; exact Nat.le_refl _)).wide (by rw [HSZ.out.2]; exact Nat.le_refl _) (by have := hbb.size; have := HSZ.out.1; omega))
      have HB3 := Lib.hid (HB1.out.trans (hbb.mono HB1.out.size))
      have HGB : Hid (w1.heap.size < gb ∧ gb < w3.heap.size) := Lib.hid ⟨by have := HSZ.out.1; omega, hgb2⟩
      obtain ⟨bk, hbk⟩ : ∃ bk, bk = codeL xs nb nb := ⟨_, rfl⟩
      have hcr : ∀ k, k < nb → 0 ≤ nth bk k ∧ nth bk k ≤ nb := fun k hk => by rw [hbk]; exact code_range xs hk
      rw [← hbk] at hob
      have HOS := Lib.hid hob.si
      have HCR := Lib.hid hcr
      have HBK := Lib.hid hbk
      clear hbk hcr hob hbb hgb1 hgb2 HC0 HI
      go_wp2
      go_loopw [3, 5] (fun v i wr => ∃ (k m : Nat) (A' : Option Addr) (c' : Nat), k ≤ nb ∧ i = .int .i64 k ∧ v = .slice A' m c' ∧ OwnC wr w.heap.size wr.heap.size A' m c' (bAll bk k) ∧ (∀ g, (Value.slice A' m c').ownBlock = some g → g ≠ gb) ∧ SI wr (some ⟨gb, 0, none⟩) nb bk ∧ gb < wr.heap.size ∧ Below w.heap.size w wr)
        (fun _ i _ => nb - (intOf i).toNat)
      case atStart => exact ⟨0, 0, _, _, Nat.zero_le _, rfl, rfl, HC3.out, (fun g hg => by have := HGB.out.1; simp [Value.ownBlock] at hg; omega), HOS.out, HGB.out.2, HB3.out⟩
      case round =>
        obtain ⟨k, m, A', c', hk, rfl, rfl, hoc, hne, hsb, hgw, hbel⟩ := hrel
        have HOC := Lib.hid hoc
        have HNE := Lib.hid hne
        have HSB := Lib.hid hsb
        have HGW := Lib.hid hgw
        have HB := Lib.hid hbel
        clear hoc hne hsb hgw hbel HC3 HOS HB3 HGB
        by_cases hlt : k < nb
        · have hlI : (k : Int) < (nb : Int) := by omega
          obtain ⟨hx0, hx1⟩ := HCR.out k hlt
          obtain ⟨q, hq⟩ : ∃ q : Nat, nth bk k = (q : Int) := ⟨(nth bk k).toNat, by omega⟩
          have hqn : q ≤ nb := by omega
          have HQ := Lib.hid hq
          have hda : bAll bk (k + 1) = bAll bk k ++ bRow k q := by show _ ++ bRow k (nth bk k).toNat = _; rw [hq, Int.toNat_natCast]
          have HDA := Lib.hid hda
          clear hq hda hx0 hx1
          go_wp2
          go_loopw [3, 6] (fun v i w5 => ∃ (j m : Nat) (A' : Option Addr) (c' : Nat), j ≤ q ∧ i = .int .i64 j ∧ v = .slice A' m c' ∧ OwnC w5 w.heap.size w5.heap.size A' m c' (bAll bk k ++ bRow k j) ∧ (∀ g, (Value.slice A' m c').ownBlock = some g → g ≠ gb) ∧ SI w5 (some ⟨gb, 0, none⟩) nb bk ∧ gb < w5.heap.size ∧ Below w.heap.size w w5)
            (fun _ i _ => q - (intOf i).toNat)
          case atStart => exact ⟨0, m, A', c', Nat.zero_le _, rfl, rfl, by simpa [bRow] using HOC.out, HNE.out, HSB.out, HGW.out, HB.out⟩
          case round =>
            clear HOC HNE HSB HGW HB
            obtain ⟨j, m, A', c', hj, rfl, rfl, hoc, hne, hsb, hgw, hbel⟩ := hrel
            have HOC := Lib.hid hoc
            have HNE := Lib.hid hne
            have HSB := Lib.hid hsb
            have HGW := Lib.hid hgw
            have HB := Lib.hid hbel
            obtain ⟨b2, o2, e2, hb2, hc2⟩ := hsb.at_ (by omega)
            injection e2 with e2
            injection e2 with e21 e22 e23
            subst e21; subst e22
            have hck := hc2 k hlt
            rw [Nat.zero_add, HQ.out] at hck
            clear hc2
            by_cases hjq : j < q
            · have hjI : (j : Int) < (q : Int) := by omega
              have hml : m ≤ 1099511627776 := by
                have h1 := hoc.len
                have h2 := bAll_len (ys := bk) k (fun i hi => by have := (HCR.out i (by omega)).2; omega)
                have h3 := bRow_len k j
                rw [List.length_append] at h1
                omega
              clear hoc hne hsb hgw hbel
              go_wp2_with (at_builtin; refine wpList_appendC rfl (.tmp 32) (.tmp 36) rfl w.heap.size A' m c' (bAll bk k ++ bRow k j) k j rfl rfl HOC.out HB.out.size hml ?_; intro A2 c2 w6 ho6 hb6 hg6 hn6)
              have hsb6 : SI w6 (some ⟨gb, 0, none⟩) nb bk := ⟨HSB.out.1, fun hn => by
                obtain ⟨b4, o4, e4, hb4, hc4⟩ := HSB.out.2 hn
                refine ⟨b4, o4, e4, Nat.lt_of_lt_of_le hb4 hg6.size, fun t ht => ?_⟩
                injection e4 with e4
                injection e4 with e41 e42 _
                subst e41; subst e42
                exact hg6.cell (hc4 t ht) (fun e => HNE.out gb e.symm rfl)⟩
              go_roundw
              case rel => exact ⟨j + 1, m + 1, A2, c2, by omega, by go_num, rfl, by show OwnC _ _ _ _ _ _ (bAll bk k ++ (bRow k j ++ [((k : Int), (j : Int))])); rw [← List.append_assoc]; exact ho6, (fun g hg => by
                rcases hn6 g hg with h | h
                · exact HNE.out g h
                · have := HGW.out; omega), hsb6, Nat.lt_of_lt_of_le HGW.out hg6.size, HB.out.trans (hb6.mono (Nat.le_refl _))⟩
              case measure => simp [intOf]; omega
            · have hjn : j = q := by omega
              subst hjn
              clear hoc hne hsb hgw hbel
              go_wp2
              go_roundw
              case rel => exact ⟨k + 1, m, A', c', by omega, by go_num, rfl, by rw [HDA.out]; exact HOC.out, HNE.out, HSB.out, HGW.out, HB.out⟩
              case measure => simp [intOf]; omega
        · have hkn : k = nb := by omega
          subst hkn
          go_wp2
          go_ret
          refine ⟨A', m, c', rfl, ?_, HB.out⟩
          rw [HE.out, HL.out, ← HBK.out]
          exact HOC.out
    · have HE := Lib.hid (botPerm_no (xs := xs) (fun h => by have := h.2; have := hs.1; omega))
      have h6I : (6 : Int) < (n : Int) := by omega
      clear hu
      go_enter Try.func44, Try.ntmps44
      go_wp2_with (go_at_call 72; refine (specIsPerm_is c HU.out hs hnc hn).mono ?_; rintro e w1 ⟨rfl, hd1⟩)
      go_ret
      rw [HE.out]
      exact FreshC.nil_ret (hd1.below _)

set_option maxHeartbeats 400000 in
theorem isDreamPerm_any (A : Option Addr) (n c : Nat) (xs : List Int) (w : World) (hs : SI w A n xs) (hn : n ≤ 1099511627776) :
    Calls Try.prog 98 #[.slice A n c] w fun e w' => e = .returned (.bool (isPermB xs && decide (n ≤ 6))) ∧ Below w.heap.size w w' := by
  have hP := implIsPerm_any A n c xs w hs hn
  cases hu : isPermB xs with
  | false =>
    rw [hu] at hP
    have HP := Lib.hid hP
    clear hP hu
    go_enter Try.func98, Try.ntmps98
    go_wp2_with (go_at_call 105; refine HP.out.mono ?_; rintro e w7 ⟨rfl, hd7⟩; have HD7 := Lib.hid hd7; clear hd7)
    go_ret
    exact ⟨rfl, HD7.out⟩
  | true =>
    rw [hu] at hP
    have HP := Lib.hid hP
    clear hP hu
    by_cases h6 : n ≤ 6
    · have h6I : (n : Int) ≤ 6 := by omega
      go_enter Try.func98, Try.ntmps98
      go_wp2_with (go_at_call 105; refine HP.out.mono ?_; rintro e w7 ⟨rfl, hd7⟩; have HD7 := Lib.hid hd7; clear hd7)
      go_ret
      exact ⟨by simp [h6], HD7.out⟩
    · have h6I : ¬ (n : Int) ≤ 6 := by omega
      go_enter Try.func98, Try.ntmps98
      go_wp2_with (go_at_call 105; refine HP.out.mono ?_; rintro e w7 ⟨rfl, hd7⟩; have HD7 := Lib.hid hd7; clear hd7)
      go_ret
      exact ⟨by simp [h6]; exact h6I, HD7.out⟩

set_option maxRecDepth 100000 in
set_option maxHeartbeats 1600000 in
theorem implBottom_any (A : Option Addr) (n c : Nat) (xs : List Int) (w : World) (hs : SI w A n xs) (hn : n ≤ 1099511627776) :
    Calls Try.prog 45 #[.slice A n c] w fun e w' => FreshC w w' e (botPerm xs) := by
  have hD := isDreamPerm_any A n c xs w hs hn
  by_cases hu : isPermB xs = true ∧ n ≤ 6
  · obtain ⟨hp, h6⟩ := hu
    have HE := Lib.hid (botPerm_yes hp (by rw [hs.1]; exact h6))
    rw [hp, decide_eq_true h6] at hD
    have h1 : 1 ≤ n := by have := (isPermB_P hp).1; have := hs.1; omega
    have HCODE := Lib.hid (codePerm_yes hp)
    have HD := Lib.hid hD
    have HL := Lib.hid hs.1
    clear hD hp
    go_enter Try.func45, Try.ntmps45
    go_wp2_with (first
      | (go_at_call 98; refine HD.out.mono ?_; rintro e w7 ⟨rfl, hd7⟩; have HD7 := Lib.hid hd7; clear hd7)
      | (go_at_call 99; refine (implCode_any A n c xs _ (hs.below HD7.out (Nat.le_refl _)) hn).mono ?_; rintro e w3 ⟨Ab, nb, cb, rfl, hob, hbb⟩
         rw [HCODE.out, HL.out] at hob
         obtain rfl : nb = n := by have := hob.len; rw [codeL_len] at this; exact this.symm
         have HO := Lib.hid hob
         have HB3 := Lib.hid (HD7.out.trans (hbb.mono HD7.out.size))
         clear hob hbb))
    obtain ⟨gb, rfl, hgb1, hgb2⟩ := HO.out.place (by omega)
    obtain ⟨bk, hbk⟩ : ∃ bk, bk = codeL xs nb nb := ⟨_, rfl⟩
    have hcr : ∀ k, k < nb → 0 ≤ nth bk k ∧ nth bk k ≤ nb := fun k hk => by rw [hbk]; exact code_range xs hk
    rw [← hbk] at HO
    have HOS := Lib.hid HO.out.si
    have HCR := Lib.hid hcr
    have HBK := Lib.hid hbk
    clear hbk hcr HO hgb1 hgb2 HD7
    go_loopw [3, 13] (fun v i wr => ∃ (k m : Nat) (A' : Option Addr) (c' : Nat), k ≤ nb ∧ i = .int .i64 k ∧ v = .slice A' m c' ∧ OwnC wr w3.heap.size wr.heap.size A' m c' (bAll bk k) ∧ Below w3.heap.size w3 wr)
      (fun _ i _ => nb - (intOf i).toNat)
    case atStart => exact ⟨0, 0, _, _, Nat.zero_le _, rfl, rfl, OwnC.nil _ _ _, Below.refl _ _⟩
    case round =>
      obtain ⟨k, m, A', c', hk, rfl, rfl, hoc, hbel⟩ := hrel
      have HOC := Lib.hid hoc
      have HB := Lib.hid hbel
      have hsb := HOS.out.below hbel (Nat.le_refl _)
      obtain ⟨b2, o2, e2, hb2, hc2⟩ := hsb.at_ (by omega)
      injection e2 with e2
      injection e2 with e21 e22 e23
      subst e21; subst e22
      clear hoc hbel hsb
      by_cases hlt : k < nb
      · have hlI : (k : Int) < (nb : Int) := by omega
        obtain ⟨hx0, hx1⟩ := HCR.out k hlt
        obtain ⟨q, hq⟩ : ∃ q : Nat, nth bk k = (q : Int) := ⟨(nth bk k).toNat, by omega⟩
        have hqn : q ≤ nb := by omega
        have hda : bAll bk (k + 1) = bAll bk k ++ bRow k q := by show _ ++ bRow k (nth bk k).toNat = _; rw [hq, Int.toNat_natCast]
        have HDA := Lib.hid hda
        have hck := hc2 k hlt
        rw [Nat.zero_add, hq] at hck
        clear hq hda hx0 hx1 hc2
        go_wp2
        go_loopw [3, 19] (fun v i w5 => ∃ (j m : Nat) (A' : Option Addr) (c' : Nat), j ≤ q ∧ i = .int .i64 j ∧ v = .slice A' m c' ∧ OwnC w5 w3.heap.size w5.heap.size A' m c' (bAll bk k ++ bRow k j) ∧ Below w3.heap.size w3 w5)
          (fun _ i _ => q - (intOf i).toNat)
        case atStart => exact ⟨0, m, A', c', Nat.zero_le _, rfl, rfl, by simpa [bRow] using HOC.out, HB.out⟩
        case round =>
          clear HOC HB hck
          obtain ⟨j, m, A', c', hj, rfl, rfl, hoc, hbel⟩ := hrel
          have HOC := Lib.hid hoc
          have HB := Lib.hid hbel
          by_cases hjq : j < q
          · have hjI : (j : Int) < (q : Int) := by omega
            have hml : m ≤ 1099511627776 := by
              have h1 := hoc.len
              have h2 := bAll_len (ys := bk) k (fun i hi => by have := (HCR.out i (by omega)).2; omega)
              have h3 := bRow_len k j
              rw [List.length_append] at h1
              omega
            clear hoc hbel
            go_wp2_with (at_builtin; refine wpList_appendC rfl (.tmp 22) (.tmp 26) rfl w3.heap.size A' m c' (bAll bk k ++ bRow k j) k j rfl rfl HOC.out HB.out.size hml ?_; intro A2 c2 w6 ho6 hb6 hg6 hn6)
            go_roundw
            case rel => exact ⟨j + 1, m + 1, A2, c2, by omega, by go_num, rfl, by show OwnC _ _ _ _ _ _ (bAll bk k ++ (bRow k j ++ [((k : Int), (j : Int))])); rw [← List.append_assoc]; exact ho6, HB.out.trans (hb6.mono (Nat.le_refl _))⟩
            case measure => simp [intOf]; omega
          · have hjn : j = q := by omega
            subst hjn
            clear hoc hbel
            go_wp2
            go_roundw
            case rel => exact ⟨k + 1, m, A', c', by omega, by go_num, rfl, by rw [HDA.out]; exact HOC.out, HB.out⟩
            case measure => simp [intOf]; omega
      · have hkn : k = nb := by omega
        subst hkn
        clear hc2
        go_wp2
        go_ret
        refine ⟨A', m, c', rfl, ?_, HB3.out.trans (HB.out.mono HB3.out.size)⟩
        rw [HE.out, HL.out, ← HBK.out]
        exact HOC.out.wide HB3.out.size (Nat.le_refl _)
  · have HE := Lib.hid (botPerm_no (xs := xs) (fun h => hu ⟨h.1, by have := h.2; have := hs.1; omega⟩))
    have hd : (isPermB xs && decide (n ≤ 6)) = false := by
      cases h : isPermB xs
      · rfl
      · rw [decide_eq_false (fun h2 => hu ⟨h, h2⟩)]; rfl
    rw [hd] at hD
    have HD := Lib.hid hD
    clear hD hu hd
    go_enter Try.func45, Try.ntmps45
    go_wp2_with (go_at_call 98; refine HD.out.mono ?_; rintro e w7 ⟨rfl, hd7⟩; have HD7 := Lib.hid hd7; clear hd7)
    go_ret
    rw [HE.out]
    exact FreshC.nil_ret HD7.out
end Go.Proofs.Ytkfpacjncpifgaa
