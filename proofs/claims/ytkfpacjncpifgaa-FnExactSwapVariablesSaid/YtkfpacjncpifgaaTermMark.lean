/-
  The helpers of the exact laws at terms: marking, holding. Conditions: lengths below 2^40.
-/
import Derived.Test.YtkfpacjncpifgaaTermEq
namespace Go.Proofs.Ytkfpacjncpifgaa
open Go.RowKit

/-- What marking writes, from q on. -/
def marksT : List Tm → Int → List Tm
  | [], _ => []
  | t :: r, q => (marks t.1.length q, q + (t.1.length : Int)) :: marksT r (q + (t.1.length : Int) + 1)
/-- The number behind the last mark. -/
def endT : List Tm → Int → Int
  | [], q => q
  | t :: r, q => endT r (q + (t.1.length : Int) + 1)
theorem marksT_len : ∀ (ts : List Tm) (q : Int), (marksT ts q).length = ts.length
  | [], _ => rfl
  | t :: r, q => by simp [marksT, marksT_len r]
theorem endT_app : ∀ (ts us : List Tm) (q : Int), endT (ts ++ us) q = endT us (endT ts q)
  | [], _, _ => rfl
  | t :: r, us, q => endT_app r us _
theorem marksT_app : ∀ (ts us : List Tm) (q : Int), marksT (ts ++ us) q = marksT ts q ++ marksT us (endT ts q)
  | [], _, _ => rfl
  | t :: r, us, q => by show _ :: marksT (r ++ us) _ = _ :: (_ ++ _); rw [marksT_app r us]; rfl
def mixT (ts : List Tm) (q : Int) (k : Nat) : List Tm := marksT (ts.take k) q ++ ts.drop k
theorem mixT_zero (ts : List Tm) (q : Int) : mixT ts q 0 = ts := by simp [mixT, marksT]
theorem mixT_all (ts : List Tm) (q : Int) : mixT ts q ts.length = marksT ts q := by simp [mixT]
theorem mixT_tm {ts : List Tm} {q : Int} {k : Nat} (h : k < ts.length) : tm (mixT ts q k) k = tm ts k := by
  unfold mixT tm
  rw [List.getD_eq_getElem?_getD, List.getD_eq_getElem?_getD, List.getElem?_append_right (by rw [marksT_len]; simp; omega), marksT_len]
  simp [Nat.min_eq_left (Nat.le_of_lt h)]
theorem endT_succ {ts : List Tm} {q : Int} {k : Nat} (h : k < ts.length) : endT (ts.take (k + 1)) q = endT (ts.take k) q + ((tm ts k).1.length : Int) + 1 := by
  rw [take_tm h, endT_app]; rfl
theorem mixT_succ {ts : List Tm} {q : Int} {k : Nat} (h : k < ts.length) :
    (mixT ts q k).set k (marks (tm ts k).1.length (endT (ts.take k) q), endT (ts.take k) q + ((tm ts k).1.length : Int)) = mixT ts q (k + 1) := by
  unfold mixT
  have hl : (marksT (ts.take k) q).length = k := by rw [marksT_len]; simp; omega
  rw [List.set_append_right _ _ (by omega), hl, Nat.sub_self, List.drop_eq_getElem_cons h, List.set_cons_zero, take_tm h, marksT_app, List.append_assoc]
  rfl
theorem marksT_tm {ts : List Tm} {q : Int} {k : Nat} (h : k < ts.length) : tm (marksT ts q) k = (marks (tm ts k).1.length (endT (ts.take k) q), endT (ts.take k) q + ((tm ts k).1.length : Int)) := by
  have e : marksT ts q = marksT (ts.take k) q ++ marksT (ts.drop k) (endT (ts.take k) q) := by rw [← marksT_app, List.take_append_drop]
  rw [e]
  unfold tm
  rw [List.getD_eq_getElem?_getD, List.getElem?_append_right (by rw [marksT_len]; simp; omega), marksT_len]
  rw [List.drop_eq_getElem_cons h]
  simp [marksT, Nat.min_eq_left (Nat.le_of_lt h), List.getD, h]

set_option maxHeartbeats 800000 in
theorem markTermS_own (g n c lo hi : Nat) (ts : List Tm) (q : Int) (w : World) (hs : OwnT w lo hi (some ⟨g, 0, none⟩) n c ts) (hn : n ≤ 1099511627776) (hne : ∀ k, k < n → (tm ts k).1.length ≤ 1099511627776)
    (hq : ∀ k, k ≤ n → 0 ≤ endT (ts.take k) q ∧ endT (ts.take k) q ≤ 1099511627776) (hg : lo ≤ g ∧ g < hi) :
    Calls Try.prog 20 #[.slice (some ⟨g, 0, none⟩) n c, .int .i64 q] w fun e w' => e = .returned (.int .i64 (endT ts q)) ∧ OwnT w' lo hi (some ⟨g, 0, none⟩) n c (marksT ts q) ∧ Within lo hi w w' := by
  have HL := Lib.hid hs.len
  have HNE := Lib.hid hne
  have HQ := Lib.hid hq
  clear hne hq
  go_enter Try.func20, Try.ntmps20
  go_wp2
  go_loopw [1, 5] (fun p i wr => ∃ k : Nat, k ≤ n ∧ i = .int .i64 k ∧ p = .int .i64 (endT (ts.take k) q) ∧ OwnT wr lo hi (some ⟨g, 0, none⟩) n c (mixT ts q k) ∧ Within lo hi w wr)
    (fun _ i _ => n - (intOf i).toNat)
  case atStart => exact ⟨0, Nat.zero_le _, rfl, rfl, by rw [mixT_zero]; exact hs, Within.refl _ _ _⟩
  case round =>
    obtain ⟨k, hk, rfl, rfl, hown, hwi⟩ := hrel
    clear hs
    by_cases hlt : k < n
    · have hlI : (k : Int) < (n : Int) := by omega
      obtain ⟨A', n', c', hc0, hc1, hfz, hx, hback⟩ := hown.exp hlt
      rw [mixT_tm (by rw [HL.out]; exact hlt)] at hx hback
      have hq0 := HQ.out k hk
      have hq1 := HQ.out (k + 1) (by omega)
      have es := endT_succ (ts := ts) (q := q) (k := k) (by rw [HL.out]; exact hlt)
      have em := mixT_succ (ts := ts) (q := q) (k := k) (by rw [HL.out]; exact hlt)
      have hl' := hx.len
      rw [hl'] at es em
      have hn' : n' ≤ 1099511627776 := by have := HNE.out k hlt; omega
      obtain ⟨z, hz⟩ : ∃ z, z = endT (ts.take k) q := ⟨_, rfl⟩
      rw [← hz] at hq0 es em ⊢
      rw [es] at hq1
      have hM := markIntS_any A' n' c' lo hi (tm ts k).1 z wr hx hn' hq0.1 hq0.2
      have HM := Lib.hid hM
      have HBK := Lib.hid hback
      have HX := Lib.hid hx
      have HW := Lib.hid hwi
      have HES := Lib.hid es
      have HEM := Lib.hid em
      have HZ := Lib.hid hz
      clear hown hc1 hfz hx hback hM hwi es em hz hl'
      go_wp2_with fail
      refine HM.out.mono ?_
      rintro e w2 ⟨rfl, ho2, hg2⟩
      have hO2 := HBK.out w2 _ ho2 hg2
      have hW2 := HW.out.trans (Within.of_grown hg2 (fun b hb => HX.out.lt b hb))
      obtain ⟨hO3, hg3⟩ := hO2.put2 hlt (z + (n' : Int))
      obtain ⟨_, _, _, hd0, hd1, hfz, _, _⟩ := hO2.exp hlt
      have hf1 := hfz (k * 2 + 1)
      have hW3 := hW2.trans (Within.of_grown hg3 (fun b hb => by injection hb with hb; subst hb; exact hg))
      rw [tm_set (by have := hO2.len; simp at this ⊢; omega), if_pos rfl, List.set_set, HEM.out] at hO3
      have HO3 := Lib.hid hO3
      have HW3 := Lib.hid hW3
      clear hO2 hO3 hW2 hW3 ho2 hg2 hg3 hd0 hfz HBK HX HM HW hc0
      go_wp2
      go_roundw
      case rel => exact ⟨k + 1, by omega, by go_num, by rw [HES.out], HO3.out, HW3.out⟩
      case measure => simp [intOf]; omega
    · have hkn : k = n := by omega
      subst hkn
      have e1 : ts.take k = ts := List.take_of_length_le (by rw [HL.out]; omega)
      rw [e1]
      have e2 := mixT_all ts q
      rw [HL.out] at e2
      rw [e2] at hown
      go_wp2
      go_ret
      exact ⟨rfl, hown, hwi⟩
set_option maxHeartbeats 400000 in
theorem markTermS_any (A : Option Addr) (n c lo hi : Nat) (ts : List Tm) (q : Int) (w : World) (hs : OwnT w lo hi A n c ts) (hn : n ≤ 1099511627776) (hne : ∀ k, k < n → (tm ts k).1.length ≤ 1099511627776)
    (hq : ∀ k, k ≤ n → 0 ≤ endT (ts.take k) q ∧ endT (ts.take k) q ≤ 1099511627776) :
    Calls Try.prog 20 #[.slice A n c, .int .i64 q] w fun e w' => e = .returned (.int .i64 (endT ts q)) ∧ OwnT w' lo hi A n c (marksT ts q) ∧ Within lo hi w w' := by
  by_cases h0 : 0 < n
  · obtain ⟨g, rfl, h1, h2⟩ := hs.place h0
    exact markTermS_own g n c lo hi ts q w hs hn hne hq ⟨h1, h2⟩
  · have hz : n = 0 := by omega
    subst hz
    have hx : ts = [] := List.eq_nil_of_length_eq_zero hs.len
    subst hx
    have HS := Lib.hid hs
    clear hs hq hne
    go_enter Try.func20, Try.ntmps20
    go_wp2
    refine wp_loop_rounds 1 ?_
    rw [rounds_succ]
    go_wp2
    go_ret
    exact ⟨rfl, HS.out, Within.refl _ _ _⟩
set_option maxHeartbeats 800000 in
theorem heldTermS_yes (A : Option Addr) (n c : Nat) (ts : List Tm) (q : Int) (w : World) (hs : TS w A n (marksT ts q)) (hn : n ≤ 1099511627776) (hne : ∀ k, k < n → (tm ts k).1.length ≤ 1099511627776)
    (hq : ∀ k, k ≤ n → 0 ≤ endT (ts.take k) q ∧ endT (ts.take k) q ≤ 1099511627776) :
    Calls Try.prog 21 #[.slice A n c, .int .i64 q] w fun e w' => e = .returned (.int .i64 (endT ts q)) ∧ Drawn w w' := by
  have HL : Hid (ts.length = n) := Lib.hid (by rw [← marksT_len ts q]; exact hs.1)
  have HNE := Lib.hid hne
  have HQ := Lib.hid hq
  clear hne hq
  go_enter Try.func21, Try.ntmps21
  go_wp2
  go_loopw [1, 5] (fun p i wr => ∃ k : Nat, k ≤ n ∧ i = .int .i64 k ∧ p = .int .i64 (endT (ts.take k) q) ∧ Drawn w wr)
    (fun _ i _ => n - (intOf i).toNat)
  case atStart => exact ⟨0, Nat.zero_le _, rfl, rfl, Drawn.refl _⟩
  case round =>
    obtain ⟨k, hk, rfl, rfl, hD⟩ := hrel
    have HD := Lib.hid hD
    have hts := hs.drawn hD
    clear hs hD
    by_cases hlt : k < n
    · have hlI : (k : Int) < (n : Int) := by omega
      obtain ⟨b, o, A', n', c', rfl, hb, hc0, hc1, hsi, hnc, hnil⟩ := hts.at_ hlt
      rw [marksT_tm (by rw [HL.out]; exact hlt)] at hc1 hsi
      have hq0 := HQ.out k hk
      have hq1 := HQ.out (k + 1) (by omega)
      have es := endT_succ (ts := ts) (q := q) (k := k) (by rw [HL.out]; exact hlt)
      have hl' : n' = (tm ts k).1.length := by rw [← hsi.1]; simp [marks_len]
      have hn' : n' ≤ 1099511627776 := by have := HNE.out k hlt; omega
      dsimp only at hc1 hsi
      rw [← hl'] at es hc1 hsi
      obtain ⟨z, hz⟩ : ∃ z, z = endT (ts.take k) q := ⟨_, rfl⟩
      rw [← hz] at hq0 es hc1 hsi ⊢
      rw [es] at hq1
      have hM := heldIntS_yes A' n' c' z wr hsi hn' hq0.1 hq0.2
      have HM := Lib.hid hM
      have HES := Lib.hid es
      clear hts hsi hM es hz hl' hnil
      have hzn : ¬ z + (n' : Int) < 0 := by omega
      go_wp2_with fail
      refine HM.out.mono ?_
      rintro e w2 ⟨rfl, hD2⟩
      have hcx : w2.cell? ⟨b, o + k * 2 + 1, none⟩ = some (.int .i64 (z + (n' : Int))) := by obtain ⟨m, rfl⟩ := hD2; exact hc1
      have HD2 := Lib.hid (HD.out.trans hD2)
      clear hD2 hc0 hc1 HM
      go_wp2
      go_roundw
      case rel => exact ⟨k + 1, by omega, by go_num, by rw [HES.out], HD2.out⟩
      case measure => simp [intOf]; omega
    · have hkn : k = n := by omega
      subst hkn
      have e1 : ts.take k = ts := List.take_of_length_le (by rw [HL.out]; omega)
      rw [e1]
      go_wp2
      go_ret
      exact ⟨rfl, HD.out⟩
end Go.Proofs.Ytkfpacjncpifgaa
