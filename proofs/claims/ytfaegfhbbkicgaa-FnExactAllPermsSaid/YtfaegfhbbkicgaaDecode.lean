/-
  A permutation found from its code: the specification's l1Decode. Conditions: the length is from 1 to 7, the numbers are a code's.
-/
import Derived.Test.YtfaegfhbbkicgaaSpecC
namespace Go.Proofs.Ytfaegfhbbkicgaa
open Go.RowKit

/-- How many numbers below v are not in the list. -/
def unused (out : List Int) : Nat → Nat
  | 0 => 0
  | v + 1 => unused out v + if hasB out (v : Int) = true then 0 else 1
theorem unused_hit {out : List Int} {v : Nat} (h : hasB out (v : Int) = true) : unused out (v + 1) = unused out v := by
  show unused out v + (if hasB out (v : Int) = true then 0 else 1) = _
  rw [if_pos h]; rfl
theorem unused_miss {out : List Int} {v : Nat} (h : hasB out (v : Int) = false) : unused out (v + 1) = unused out v + 1 := by
  show unused out v + (if hasB out (v : Int) = true then 0 else 1) = _
  rw [if_neg (by rw [h]; decide)]
theorem unused_le (out : List Int) (v : Nat) : unused out v ≤ v := by
  induction v with
  | zero => exact Nat.le_refl _
  | succ v ih => unfold unused; split <;> omega
theorem unused_nil (v : Nat) : unused [] v = v := by
  induction v with
  | zero => rfl
  | succ v ih => rw [unused_miss (hasB_nil _), ih]
theorem hasB_snoc (out : List Int) (x y : Int) : hasB (out ++ [x]) y = (hasB out y || decide (y = x)) := by
  simp [hasB]
theorem unused_snoc_lo {out : List Int} {x : Nat} : ∀ m, m ≤ x → unused (out ++ [(x : Int)]) m = unused out m := by
  intro m
  induction m with
  | zero => intro _; rfl
  | succ m ih =>
    intro hm
    unfold unused
    rw [ih (by omega), hasB_snoc]
    have : decide ((m : Int) = (x : Int)) = false := by simp; omega
    rw [this, Bool.or_false]
theorem unused_snoc_hi {out : List Int} {x : Nat} (hx : hasB out (x : Int) = false) : ∀ m, x < m → unused (out ++ [(x : Int)]) m + 1 = unused out m := by
  intro m
  induction m with
  | zero => intro h; omega
  | succ m ih =>
    intro hm
    by_cases e : x = m
    · subst e
      rw [unused_miss hx, unused_hit (by rw [hasB_snoc]; simp), unused_snoc_lo x (Nat.le_refl _)]
    · have h1 := ih (by omega)
      have h2 : decide ((m : Int) = (x : Int)) = false := by simp; omega
      cases hm2 : hasB out (m : Int) with
      | true => rw [unused_hit hm2, unused_hit (by rw [hasB_snoc, hm2]; rfl)]; exact h1
      | false => rw [unused_miss hm2, unused_miss (by rw [hasB_snoc, hm2, h2]; rfl)]; omega
/-- The first k numbers that a code leads to. -/
def DecP (cs out : List Int) (n k : Nat) : Prop :=
  out.length = k ∧ unused out n + k = n ∧ ∀ i, i < k → ∃ v : Nat, v < n ∧ nth out i = (v : Int) ∧ hasB (out.take i) (v : Int) = false ∧ (unused (out.take i) v : Int) = nth cs i
theorem DecP.zero (cs : List Int) (n : Nat) : DecP cs [] n 0 := ⟨rfl, by rw [unused_nil]; omega, fun i hi => absurd hi (by omega)⟩
theorem nth_snoc_lt {out : List Int} {x : Int} {i : Nat} (h : i < out.length) : nth (out ++ [x]) i = nth out i := by
  rw [nth_get (by simp; omega), nth_get h, List.getElem_append_left h]
theorem nth_snoc_eq {out : List Int} {x : Int} : nth (out ++ [x]) out.length = x := by
  rw [nth_get (by simp)]; simp
theorem DecP.snoc {cs out : List Int} {n k v : Nat} (h : DecP cs out n k) (hv : v < n) (hx : hasB out (v : Int) = false) (hc : (unused out v : Int) = nth cs k) : DecP cs (out ++ [(v : Int)]) n (k + 1) := by
  obtain ⟨h1, h2, h3⟩ := h
  refine ⟨by simp [h1], by have := unused_snoc_hi hx n hv; omega, fun i hi => ?_⟩
  rcases Nat.lt_or_ge i k with hlt | hge
  · obtain ⟨u, hu1, hu2, hu3, hu4⟩ := h3 i hlt
    refine ⟨u, hu1, by rw [nth_snoc_lt (by omega)]; exact hu2, ?_, ?_⟩
    · rw [List.take_append_of_le_length (by omega)]; exact hu3
    · rw [List.take_append_of_le_length (by omega)]; exact hu4
  · have e : i = k := by omega
    subst e
    refine ⟨v, hv, by rw [← h1]; exact nth_snoc_eq, ?_, ?_⟩
    · rw [← h1, List.take_left' rfl]; exact hx
    · rw [← h1, List.take_left' rfl, h1]; exact hc
theorem DecP.perm {cs out : List Int} {n : Nat} (h : DecP cs out n n) (h1 : 1 ≤ n) (h7 : n ≤ 7) : isPermP out := by
  obtain ⟨e, _, h3⟩ := h
  refine ⟨by omega, by omega, fun k hk => ?_⟩
  obtain ⟨v, hv1, hv2, hv3, _⟩ := h3 k (by omega)
  exact ⟨by omega, by omega, by rw [hv2]; exact hv3⟩

set_option maxHeartbeats 2000000 in
theorem l1Decode_any (A : Option Addr) (n c : Nat) (cs : List Int) (w : World) (hs : SI w A n cs) (h7 : n ≤ 7) (hr : ∀ k, k < n → 0 ≤ nth cs k ∧ nth cs k ≤ (n : Int) - 1 - k) :
    Calls Try.prog 178 #[.slice A n c] w fun e w' => ∃ ys, Fresh w w' e ys ∧ DecP cs ys n n := by
  have HR := Lib.hid hr
  clear hr
  go_enter Try.func178, Try.ntmps178
  go_wp2
  go_loopw [3, 4] (fun v i wr => ∃ (k : Nat) (A : Option Addr) (c : Nat) (out : List Int), k ≤ n ∧ i = .int .i64 k ∧ v = .slice A k c ∧ Own wr w.heap.size wr.heap.size A k c out ∧ DecP cs out n k ∧ Below w.heap.size w wr)
    (fun _ i _ => n - (intOf i).toNat)
  case atStart => exact ⟨0, _, _, [], Nat.zero_le _, rfl, rfl, (Own.empty w).wide (Nat.le_refl _) (by simp), DecP.zero _ _, Below.alloc_self _ _⟩
  case round =>
    obtain ⟨k, A0, c0, out, hk, rfl, rfl, hown, hdec, hbel⟩ := hrel
    obtain ⟨wo, hwo⟩ : ∃ wo : World, wo = wr := ⟨_, rfl⟩
    rw [← hwo] at hown hbel ⊢
    have HO := Lib.hid hown
    have HD := Lib.hid hdec
    have HB := Lib.hid hbel
    clear hdec hwo wr
    by_cases hlt : k < n
    · obtain ⟨b, o, e1, hb, hc⟩ := (hs.below hbel (Nat.le_refl _)).at_ (by omega)
      have hc1 := hc k hlt
      obtain ⟨hr0, hr1⟩ := HR.out k hlt
      obtain ⟨x, hx⟩ : ∃ x, x = nth cs k := ⟨_, rfl⟩
      rw [← hx] at hc1 hr0 hr1
      have HX := Lib.hid hx
      subst e1
      clear hc hx hown hbel
      go_wp2
      go_loopw [3, 5, 6] (fun o5 l v wr => ∃ (u : Nat), u ≤ n ∧ o5 = .slice A0 k c0 ∧ v = .int .i64 u ∧ l = .int .i64 (x - (unused out u : Int)) ∧ (unused out u : Int) ≤ x ∧ Drawn wo wr)
        (fun _ _ v _ => n - (intOf v).toNat)
      case atStart => exact ⟨0, Nat.zero_le _, rfl, rfl, by show _ = Value.int .i64 (x - ((0 : Nat) : Int)); simp, by show ((0 : Nat) : Int) ≤ x; omega, Drawn.refl _⟩
      case round =>
        obtain ⟨u, hu, rfl, rfl, rfl, hux, hdr⟩ := hrel
        have HDr := Lib.hid hdr
        have hso := (HO.out.drawn hdr).si
        have HSO := Lib.hid hso
        have hq := unused_le out u
        obtain ⟨q, hqe⟩ : ∃ q, q = unused out u := ⟨_, rfl⟩
        rw [← hqe] at hux hq ⊢
        have HQ := Lib.hid hqe
        clear hdr hso hqe
        by_cases hult : u < n
        · go_wp2_with fail
          refine (l1Has_any A0 k c0 out (u : Int) _ HSO.out (by omega)).mono ?_
          rintro e w2 ⟨rfl, hd2⟩
          have HD2 := Lib.hid (HDr.out.trans hd2)
          clear hd2
          cases hh : hasB out (u : Int) with
          | true =>
            have HH := Lib.hid hh
            clear hh
            go_wp2
            go_roundw
            case rel =>
              have e1 := HQ.out
              exact ⟨u + 1, by omega, rfl, by go_num, by rw [unused_hit HH.out, ← e1], by rw [unused_hit HH.out, ← e1]; exact hux, HD2.out⟩
            case measure => simp [intOf]; omega
          | false =>
            have HH := Lib.hid hh
            clear hh
            by_cases hz : x = (q : Int)
            · have hz0 : x - (q : Int) = 0 := by omega
              have HZ := Lib.hid hz
              clear hz
              have ho2 := HO.out.drawn HD2.out
              have hw2 : w2.heap.size = wo.heap.size := by rw [HD2.out.heap]
              have HO2 : Hid (Own w2 w.heap.size w2.heap.size A0 k c0 out) := Lib.hid (by rw [hw2]; exact ho2)
              have HB2 : Hid (Below w.heap.size w w2) := Lib.hid (HB.out.trans (HD2.out.below _))
              clear ho2 hw2
              go_wp2_with (at_builtin; refine wpList_append1 rfl (.tmp 29) (.tmp 31) rfl w.heap.size A0 k c0 out (u : Int) rfl rfl HO2.out HB2.out.size (by omega) ?_; intro A' c' w3 ho3 _ hb3)
              go_roundw
              case rel =>
                have e1 := HQ.out
                have e2 := HX.out
                have e3 := HZ.out
                exact ⟨k + 1, _, _, out ++ [(u : Int)], by omega, by go_num, rfl, ho3, HD.out.snoc hult HH.out (by omega), HB2.out.trans hb3⟩
              case measure => simp [intOf]; omega
            · have hz0 : (x - (q : Int) == 0) = false := by simp; omega
              have hlt2 : (q : Int) < x := by omega
              have HZ := Lib.hid hz
              clear hz
              go_wp2
              go_roundw
              case rel =>
                have e1 := HQ.out
                exact ⟨u + 1, by omega, rfl, by go_num, by rw [unused_miss HH.out, ← e1]; go_num, by rw [unused_miss HH.out, ← e1]; omega, HD2.out⟩
              case measure => simp [intOf]; omega
        · exfalso
          have hun : u = n := by omega
          subst hun
          have h2 := HD.out.2.1
          have e1 := HQ.out
          omega
    · have hkn : k = n := by omega
      subst hkn
      clear hown hbel
      go_wp2
      go_ret
      exact ⟨out, ⟨A0, _, c0, rfl, HO.out, HB.out⟩, HD.out⟩
end Go.Proofs.Ytfaegfhbbkicgaa
