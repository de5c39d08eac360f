/-
  Permutations found from codes: the program's side. Conditions: lengths below 2^40.
-/
import Derived.Test.YtfaegfhbbkicgaaPocS
import Derived.Test.YtfaegfhbbkicgaaImplA
import Derived.Test.YtfaegfhbbkicgaaTermMem
namespace Go.Proofs.Ytfaegfhbbkicgaa
open Go.RowKit

/-- The first k numbers of the permutation, then zeros. -/
def wL (cs : List Int) (n k : Nat) : List Int := decL cs n k ++ List.replicate (n - k) 0
theorem wL_zero (cs : List Int) (n : Nat) : wL cs n 0 = List.replicate n 0 := by simp [wL, decL]
theorem wL_all (cs : List Int) (n : Nat) : wL cs n n = decL cs n n := by simp [wL]
theorem wL_succ {cs : List Int} {n k : Nat} (hk : k < n) {v : Int} (hx : nth (remL (decL cs n k) n) (nth cs k).toNat = v) : (wL cs n k).set k v = wL cs n (k + 1) := by
  unfold wL
  have hl : (decL cs n k).length = k := decL_len cs n k
  rw [List.set_append_right _ _ (by omega), hl, Nat.sub_self, show n - k = (n - (k + 1)) + 1 by omega, List.replicate_succ, List.set_cons_zero]
  have e : decL cs n (k + 1) = decL cs n k ++ [v] := by show _ ++ [_] = _; rw [hx]
  rw [e, List.append_assoc]
  rfl

set_option maxRecDepth 100000 in
set_option maxHeartbeats 1600000 in
theorem implPoc_any (A : Option Addr) (n c : Nat) (cs : List Int) (w : World) (hs : SI w A n cs) (hn : n ≤ 1099511627776) :
    Calls Try.prog 179 #[.slice A n c] w fun e w' => Fresh w w' e (pocPerm cs) := by
  have hl := hs.1
  have HL := Lib.hid hl
  by_cases hr : 1 ≤ n ∧ n ≤ 7
  · obtain ⟨hr1, hr7⟩ := hr
    have HS := Lib.hid hs
    have hid : idPerm (n : Int) = remL [] n := by unfold idPerm; rw [if_pos (by omega), remL_nil, Int.toNat_natCast]
    have HID := Lib.hid hid
    clear hl hid hs
    go_enter Try.func179, Try.ntmps179
    go_wp2_with (go_at_call 157; refine (isPermSize_yes (by omega) (by omega) _).mono ?_; rintro e w1 ⟨rfl, rfl⟩)
    refine (implIdentity_any (n : Int) _).mono ?_
    rintro e w1 ⟨Au, nu, cu, rfl, hou, hbu⟩
    rw [HID.out] at hou
    have hnu : nu = n := by have := hou.len; rw [remL_len, unused_nil] at this; exact this.symm
    subst hnu
    obtain ⟨gu, rfl, hg1, hg2⟩ := hou.place (by omega)
    have HU := Lib.hid hou
    have HBU := Lib.hid hbu
    have HG := Lib.hid (And.intro hg1 hg2)
    clear hou hbu hg1 hg2
    go_wp2_with (at_make; refine wpList_make_zero rfl (.tmp 15) (.tmp 15) rfl nu rfl rfl (by omega) ?_; intro w2 ho hb)
    have HU2 := Lib.hid (HU.out.below hb (Nat.le_refl _))
    have HW2 := Lib.hid ho
    have HB2 := Lib.hid (HBU.out.trans (hb.mono HBU.out.size))
    have hsz : w1.heap.size ≤ w2.heap.size := hb.size
    have hgw : w1.heap.size < w2.heap.size := (ho.lt w1.heap.size rfl).2
    clear ho hb HU
    obtain ⟨gw, hgw0⟩ : ∃ gw, gw = w1.heap.size := ⟨_, rfl⟩
    rw [← hgw0] at HU2 HW2 HG hgw hsz ⊢
    have HGW := Lib.hid (And.intro hgw0 (And.intro hgw hsz))
    clear hgw0 hgw hsz
    go_loopw [3, 19] (fun v i wr => ∃ k : Nat, k ≤ nu ∧ i = .int .i64 k ∧ v = .slice (some ⟨gu, 0, none⟩) (nu - k) cu ∧ (∀ j, j < k → 0 ≤ nth cs j ∧ nth cs j ≤ (nu : Int) - 1 - j) ∧ DecP cs (decL cs nu k) nu k ∧
        Own wr w.heap.size gw (some ⟨gu, 0, none⟩) (nu - k) cu (remL (decL cs nu k) nu) ∧ Own wr gw w2.heap.size (some ⟨gw, 0, none⟩) nu nu (wL cs nu k) ∧ w2.heap.size ≤ wr.heap.size ∧ Below w.heap.size w wr)
      (fun _ i _ => nu - (intOf i).toNat)
    case atStart => exact ⟨0, Nat.zero_le _, rfl, by simp, fun j hj => absurd hj (by omega), DecP.zero _ _, HU2.out, by rw [wL_zero]; exact HW2.out, Nat.le_refl _, HB2.out⟩
    case round =>
      obtain ⟨k, hk, rfl, rfl, hall, hdec, hou, how, hwz, hbel⟩ := hrel
      have HA := Lib.hid hall
      have HD := Lib.hid hdec
      have HU := Lib.hid hou
      have HW := Lib.hid how
      have HB := Lib.hid hbel
      have hsc := HS.out.below hbel (Nat.le_refl _)
      clear hall hdec HU2 HW2 HB2
      by_cases hlt : k < nu
      · have hlI : (k : Int) < (nu : Int) := by omega
        obtain ⟨b, o, rfl, hb, hc⟩ := hsc.at_ (by omega)
        have hc1 := hc k hlt
        by_cases hin : 0 ≤ nth cs k ∧ nth cs k ≤ (nu : Int) - 1 - (k : Int)
        · obtain ⟨v, hv, hvb, hvu, hvx, hvr⟩ := decL_step HD.out hlt hin.1 hin.2
          have hws := wL_succ hlt hvx
          obtain ⟨q, hq⟩ : ∃ q : Nat, nth cs k = (q : Int) := ⟨(nth cs k).toNat, by omega⟩
          have hqt : (nth cs k).toNat = q := by omega
          rw [hqt] at hvx hvr
          rw [hq] at hc1 hin hvu
          have hqn : q < nu - k := by omega
          have hcu := hou.cellAt (k := q) hqn
          rw [hvx] at hcu
          have hfw := how.frozenAt k
          have hcw := how.cellAt (k := k) hlt
          obtain ⟨y, hy⟩ : ∃ y, y = nth (wL cs nu k) k := ⟨_, rfl⟩
          rw [← hy] at hcw
          obtain ⟨hst, hsg⟩ := how.set_ (k := k) (v : Int)
          rw [hws] at hst
          have hu3 := hou.kept hsg (fun g hg => by simp [Value.ownBlock] at hg; intro e; injection e with e; have := HG.out.2; omega)
          have hdel := delete_own gu (nu - k) cu q w.heap.size gw _ _ hu3 hqn
          have hnk : nu - k - 1 = nu - (k + 1) := by omega
          rw [← hvr, hnk] at hdel
          have hdc : decL cs nu (k + 1) = decL cs nu k ++ [(v : Int)] := by
            show _ ++ [_] = _
            rw [hqt, hvx]
          have hsd := HD.out.snoc hv hvb (by rw [hvu, hq])
          rw [← hdc] at hsd hdel
          have HDEL := Lib.hid hdel
          have HST := Lib.hid (And.intro hst hsg)
          have HSD := Lib.hid hsd
          have HQ := Lib.hid (And.intro hq hin)
          have hqI : (q : Int) < ((nu - k : Nat) : Int) := by omega
          have hw1 : IntKind.i64.wrap ((q : Int) + 1) = (q : Int) + 1 := IntWalk.i64_in _ (by omega)
          clear hc hsc hou how hbel hvx hvr hvu hvb hws hq hqt hst hsg hu3 hdel hdc hsd hy hin
          go_wp2_with fail
          refine HDEL.out.mono ?_
          rintro e w5 ⟨rfl, ho5, hg5⟩
          have HO5 := Lib.hid ho5
          have HW5 := Lib.hid (HST.out.1.kept hg5 (fun g hg => by simp [Value.ownBlock] at hg; intro e; injection e with e; have := HG.out.2; omega))
          have HB5 := Lib.hid ((HB.out.grown HST.out.2 HB.out.size (by rintro g ⟨⟩; have := HBU.out.size; have := HGW.out; omega)).grown hg5 (by have h1 := HB.out.size; have h2 := HST.out.2.size; omega) (by rintro g ⟨⟩; exact HG.out.1))
          have HZ5 := Lib.hid (Nat.le_trans hwz (Nat.le_trans HST.out.2.size hg5.size))
          clear ho5 hg5
          go_wp2
          go_roundw
          case rel => exact ⟨k + 1, by omega, by go_num, rfl, fun j hj => by
            rcases Nat.lt_or_ge j k with h | h
            · exact HA.out j h
            · obtain rfl : j = k := by omega
              rw [HQ.out.1]; exact HQ.out.2, HSD.out, HO5.out, HW5.out, HZ5.out, HB5.out⟩
          case measure => simp [intOf]; omega
        · have hno : pocPerm cs = [] := pocPerm_no (fun h => hin (by have := h.2.2 k (by rw [HL.out]; exact hlt); rw [HL.out] at this; exact this))
          have HNO := Lib.hid hno
          obtain ⟨x, hx⟩ : ∃ x, x = nth cs k := ⟨_, rfl⟩
          rw [← hx] at hc1 hin
          clear hc hsc hou how hbel hno hx
          by_cases hx0 : x < 0
          · go_wp2
            go_ret
            rw [HNO.out]
            exact ⟨none, 0, 0, rfl, Own.nil _ _ _, HB.out⟩
          · have hxg : ((nu - k : Nat) : Int) ≤ x := by omega
            go_wp2
            go_ret
            rw [HNO.out]
            exact ⟨none, 0, 0, rfl, Own.nil _ _ _, HB.out⟩
      · have hkn : k = nu := by omega
        subst hkn
        clear hou how hbel hsc
        go_wp2
        go_ret
        have hY := pocPerm_yes (cs := cs) (by rw [HL.out]; exact hr1) (by rw [HL.out]; exact hr7) (by rw [HL.out]; exact HA.out)
        rw [HL.out] at hY
        rw [hY]
        have hw := HW.out
        rw [wL_all] at hw
        exact ⟨_, _, _, rfl, hw.wide (by have := HBU.out.size; have := HGW.out.1; omega) hwz, HB.out⟩
  · rw [pocPerm_no (fun h => hr (by rw [hl] at h; exact ⟨h.1, h.2.1⟩))]
    go_enter Try.func179, Try.ntmps179
    go_wp2_with (go_at_call 157; refine (isPermSize_no (by omega) _).mono ?_; rintro e w1 ⟨rfl, rfl⟩)
    go_ret
    exact ⟨none, 0, 0, rfl, Own.nil _ _ _, Below.refl _ _⟩
end Go.Proofs.Ytfaegfhbbkicgaa
