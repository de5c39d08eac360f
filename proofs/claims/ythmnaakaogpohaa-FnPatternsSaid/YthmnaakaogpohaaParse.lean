/-
  Permutations read from texts, on both sides. Conditions: the text is shorter than 2^40.
-/
import Derived.Test.YthmnaakaogpohaaPermImpl
import Derived.Test.YthmnaakaogpohaaOwn
import Derived.ChangeMaps5
namespace Go.Proofs.Ythmnaakaogpohaa
open Go.RowKit

/-- The numbers that a text's bytes stand for. -/
def digs (s : ByteArray) : List Int := s.data.toList.map fun b => (b.toNat : Int) - 49
theorem digs_len (s : ByteArray) : (digs s).length = s.size := by simp [digs]
theorem nth_digs (s : ByteArray) (k : Nat) (h : k < s.size) : nth (digs s) k = (s[k].toNat : Int) - 49 := by
  have h' : k < (digs s).length := by rw [digs_len]; exact h
  rw [nth_get h']
  simp [digs]
  rfl
theorem byte_lt (s : ByteArray) (k : Nat) (h : k < s.size) : s[k].toNat < 256 := UInt8.toNat_lt _
/-- Is the text that of a permutation, and which. -/
def okP (s : ByteArray) : Bool := decide (s.size ≤ 7) && isPermB (digs s)
def parP (s : ByteArray) : List Int := if okP s = true then digs s else []
theorem parP_small (s : ByteArray) : (parP s).length ≤ 1099511627775 := by
  unfold parP
  split
  · rename_i h
    unfold okP at h
    have h7 := (isPermB_P (Bool.and_eq_true _ _ ▸ h).2).2.1
    omega
  · simp
def FreshB (w w' : World) (e : Ending) (ys : List Int) (b : Bool) : Prop :=
  ∃ A n c, e = .returned (.tuple #[.slice A n c, .bool b]) ∧ Own w' w.heap.size w'.heap.size A n c ys ∧ Below w.heap.size w w'

/-- The first k numbers, then zeros. -/
def fillZ (xs : List Int) (k : Nat) : List Int := xs.take k ++ List.replicate (xs.length - k) 0
theorem fillZ_zero (xs : List Int) : fillZ xs 0 = List.replicate xs.length 0 := by simp [fillZ]
theorem fillZ_all (xs : List Int) : fillZ xs xs.length = xs := by simp [fillZ]
theorem fillZ_succ {xs : List Int} {k : Nat} (h : k < xs.length) : (fillZ xs k).set k (nth xs k) = fillZ xs (k + 1) := by
  unfold fillZ
  have hl : (xs.take k).length = k := by simp; omega
  rw [List.set_append_right _ _ (by omega), hl, Nat.sub_self, show xs.length - k = (xs.length - (k + 1)) + 1 by omega, List.replicate_succ, List.set_cons_zero, take_nth h, List.append_assoc]
  rfl

set_option maxHeartbeats 800000 in
theorem implParse_any (s : ByteArray) (w : World) (hs : s.size ≤ 1099511627776) :
    Calls Try.prog 13 #[.string s] w fun e w' => FreshB w w' e (parP s) (okP s) := by
  by_cases hr : 1 ≤ s.size ∧ s.size ≤ 7
  · obtain ⟨hr1, hr7⟩ := hr
    obtain ⟨B, hB⟩ : ∃ B, B = w.heap.size := ⟨_, rfl⟩
    have HB0 : Hid (B = w.heap.size) := hB
    go_enter Try.func13, Try.ntmps13
    go_wp2_with (first | (go_at_call 57; refine (isPermSize_yes (by omega) (by omega) _).mono ?_; rintro e w1 ⟨rfl, rfl⟩) | (at_make; refine wpList_make_zero rfl (.tmp 11) (.tmp 11) rfl s.size rfl rfl (by omega) ?_; intro w2 ho hb))
    rw [← hB] at ho hb ⊢
    go_loopw [15] (fun i wr => ∃ k : Nat, k ≤ s.size ∧ i = .int .i64 k ∧ Own wr B wr.heap.size (some ⟨B, 0, none⟩) s.size s.size (fillZ (digs s) k) ∧ Below B w wr)
      (fun i _ => s.size - (intOf i).toNat)
    case atStart => exact ⟨0, Nat.zero_le _, rfl, by rw [fillZ_zero, digs_len]; exact ho, hb⟩
    case round =>
      obtain ⟨k, hk, rfl, hown, hbel⟩ := hrel
      clear ho hb w2
      have HO := Lib.hid hown
      have HB := Lib.hid hbel
      by_cases hlt : k < s.size
      · have hlI : (k : Int) < (s.size : Int) := by omega
        have hb8 := byte_lt s k hlt
        have hx := nth_digs s k hlt
        have hf := hown.frozenAt k
        have hc2 := hown.cellAt (k := k) hlt
        obtain ⟨y, hy⟩ : ∃ y, y = nth (fillZ (digs s) k) k := ⟨_, rfl⟩
        rw [← hy] at hc2
        have hst := hown.set_ (k := k) (nth (digs s) k)
        rw [fillZ_succ (by rw [digs_len]; exact hlt), hx] at hst
        have HS := Lib.hid hst
        clear hx hy hst hown hbel hB
        go_wp2
        go_roundw
        case rel => exact ⟨k + 1, by omega, by go_num, by simpa using HS.out.1, HB.out.setCell (Nat.le_refl _) _⟩
        case measure => simp [intOf]; omega
      · have hks : k = s.size := by omega
        have hall := fillZ_all (digs s)
        rw [digs_len] at hall
        rw [hks, hall] at HO
        subst hks
        have hz : ¬ (s.size : Int) < (s.size : Int) := by omega
        have e0 := HB0.out
        subst e0
        clear hall hown hbel
        cases hp : isPermB (digs s) with
        | false =>
          have hok : okP s = false := by unfold okP; rw [hp, Bool.and_false]
          have HN := Lib.hid hp
          have HK := Lib.hid hok
          clear hp hok
          have hI := implIsPerm_any (some ⟨w.heap.size, 0, none⟩) s.size s.size (digs s) wr HO.out.si (by omega)
          rw [HN.out] at hI
          have HI := Lib.hid hI
          clear hI
          go_wp2_with (go_at_call 58; refine HI.out.mono ?_; rintro e w2 ⟨rfl, hb2⟩; have HB2 := Lib.hid (HB.out.trans (hb2.mono HB.out.size)); clear hb2)
          go_ret2
          exact ⟨none, 0, 0, by rw [HK.out]; rfl, by unfold parP; rw [if_neg (by rw [HK.out]; decide)]; exact Own.nil _ _ _, HB2.out⟩
        | true =>
          have hok : okP s = true := by unfold okP; rw [hp, decide_eq_true (by omega)]; rfl
          have HN := Lib.hid hp
          have HK := Lib.hid hok
          clear hp hok
          have hI := implIsPerm_any (some ⟨w.heap.size, 0, none⟩) s.size s.size (digs s) wr HO.out.si (by omega)
          rw [HN.out] at hI
          have HI := Lib.hid hI
          clear hI
          go_wp2_with (go_at_call 58; refine HI.out.mono ?_; rintro e w2 ⟨rfl, hb2⟩; have HB2 := Lib.hid (HB.out.trans (hb2.mono HB.out.size)); have HO2 := Lib.hid ((HO.out.below hb2 (Nat.le_refl _)).wide (Nat.le_refl _) hb2.size); clear hb2)
          go_ret2
          exact ⟨_, _, _, by rw [HK.out]; rfl, by unfold parP; rw [if_pos HK.out]; exact HO2.out, HB2.out⟩
  · have hok : okP s = false := by
      unfold okP
      by_cases h7 : s.size ≤ 7
      · have hz : s.size = 0 := by omega
        have hno : isPermB (digs s) = false := isPermB_false (fun hp => by have := hp.1; rw [digs_len] at this; omega)
        rw [hno, Bool.and_false]
      · rw [decide_eq_false h7]; rfl
    have HK := Lib.hid hok
    clear hok
    go_enter Try.func13, Try.ntmps13
    go_wp2_with (go_at_call 57; refine (isPermSize_no (by omega) _).mono ?_; rintro e w1 ⟨rfl, rfl⟩)
    go_ret2
    exact ⟨none, 0, 0, by rw [HK.out]; rfl, by unfold parP; rw [if_neg (by rw [HK.out]; decide)]; exact Own.nil _ _ _, Below.refl _ _⟩
end Go.Proofs.Ythmnaakaogpohaa
