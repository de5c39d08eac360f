/-
  The permutation of a shape in a box, on both sides. Conditions: lengths below 2^40.
-/
import Derived.Test.YtfaegfhbbkicgaaBox
namespace Go.Proofs.Ytfaegfhbbkicgaa
open Go.RowKit

/-- The first i numbers of the permutation. -/
def gF (xs : List Int) (k i : Nat) : List Int := (List.range i).map fun (j : Nat) => (j : Int) + nth xs (k - 1 - j)
theorem gF_len (xs : List Int) (k i : Nat) : (gF xs k i).length = i := by simp [gF]
theorem gF_succ (xs : List Int) (k i : Nat) : gF xs k (i + 1) = gF xs k i ++ [(i : Int) + nth xs (k - 1 - i)] := by simp [gF, List.range_succ]
/-- Those below v that are not among them. -/
def gR (F : List Int) : Nat → List Int
  | 0 => []
  | v + 1 => if hasB F (v : Int) = true then gR F v else gR F v ++ [(v : Int)]
theorem gR_len (F : List Int) : ∀ v, (gR F v).length ≤ v
  | 0 => Nat.le_refl _
  | v + 1 => by
    have := gR_len F v
    unfold gR
    split
    · omega
    · rw [List.length_append]; simp; omega
theorem gR_lt (F : List Int) : ∀ v : Nat, ∀ x ∈ gR F v, x < (v : Int)
  | 0, x, hx => by simp [gR] at hx
  | v + 1, x, hx => by
    unfold gR at hx
    split at hx
    · have := gR_lt F v x hx; omega
    · rcases List.mem_append.1 hx with hx | hx
      · have := gR_lt F v x hx; omega
      · rw [List.mem_singleton.1 hx]; omega
theorem gR_has (F : List Int) (v : Nat) : hasB (F ++ gR F v) (v : Int) = hasB F (v : Int) := by
  unfold hasB
  have h : (v : Int) ∉ gR F v := fun h => absurd (gR_lt F v _ h) (by omega)
  exact decide_eq_decide.2 ⟨fun h' => (List.mem_append.1 h').resolve_right h, fun h' => List.mem_append.2 (.inl h')⟩
def gL (xs : List Int) (k m : Nat) : List Int := gF xs k k ++ gR (gF xs k k) m
/-- What GrassmannianPerm answers. -/
def graPerm (xs : List Int) (k m : Int) : List Int := if boxB xs k m = true then gL xs k.toNat m.toNat else []
theorem graPerm_no {xs : List Int} {k m : Int} (h : boxB xs k m = false) : graPerm xs k m = [] := by unfold graPerm; rw [if_neg (by rw [h]; decide)]
theorem graPerm_yes {xs : List Int} {k m : Nat} (h : boxB xs (k : Int) (m : Int) = true) : graPerm xs (k : Int) (m : Int) = gL xs k m := by unfold graPerm; rw [if_pos h, Int.toNat_natCast, Int.toNat_natCast]
theorem graPerm_small (xs : List Int) (k m : Int) : (graPerm xs k m).length ≤ 1099511627775 := by
  unfold graPerm
  split
  · rename_i h
    have hp := boxB_P h
    have := gR_len (gF xs k.toNat k.toNat) m.toNat
    unfold gL
    rw [List.length_append, gF_len]
    have h1 := hp.2.1; have h2 := hp.2.2.2.1
    omega
  · simp
theorem l4At_at {j : Int} (A : Option Addr) (n c : Nat) (xs : List Int) (i : Nat) (hj : j = (i : Int)) (w : World) (hs : SI w A n xs) (hn : n ≤ 1099511627776) (hi : i ≤ 1099511627776) {x : Int} (hx : x = nth xs i) :
    Calls Try.prog 65 #[.slice A n c, .int .i64 j] w fun e w' => e = .returned (.int .i64 x) ∧ w = w' := by
  subst hj; subst hx; exact l4At_any A n c xs i w hs hn hi
/-- 'make([]int, 0, n)'. -/
theorem wpList_make_cap {ops : Array Oper} {rest : List Oper} {o : Oper} {a : Act} {w : World} {Q : Exit → Act → World → Prop} (hgd : o.guard = none) (l c : Operand) (ho : o.op = .makeSlice 22 l c)
    (n : Nat) (hl : a.eval l = .int .i64 0) (hc : a.eval c = .int .i64 n) (hn : n ≤ 1099511627776)
    (hK : ∀ w', Own w' w.heap.size w'.heap.size (some ⟨w.heap.size, 0, none⟩) 0 n [] → Below w.heap.size w w' → wpList Try.prog ops Q rest (a.put o.dst (.slice (some ⟨w.heap.size, 0, none⟩) 0 n)) w') :
    wpList Try.prog ops Q (o :: rest) a w := by
  obtain ⟨i0, hi, hz0, hz1, hz2⟩ := info_parts Try.infoInt
  refine wpList_make_own w hgd l c 22 ho w.heap.size 3 i0 (.int .i64 0) 1 Try.underlying22 hi hz0 hz1 .i64 .i64 n n hl hc rfl (by rw [hz2]; omega) (by unfold maxLen; omega) (Nat.le_refl _) ?_
  intro w1 ho1 hg1
  exact hK w1 (Own.of (by simpa using ho1)) (grow_below hg1 (Nat.le_refl _) (by intro k hk; cases hk))
set_option maxHeartbeats 800000 in
theorem indexInts_any (A : Option Addr) (n c : Nat) (xs : List Int) (x : Int) (w : World) (hs : SI w A n xs) (hn : n ≤ 1099511627776) :
    Calls Try.prog 188 #[.slice A n c, .int .i64 x] w fun r w' => ∃ i : Int, r = .returned (.int .i64 i) ∧ (0 ≤ i ↔ hasB xs x = true) ∧ Drawn w w' := by
  have HL := Lib.hid hs.1
  go_enter Try.func188, Try.ntmps188
  go_wp2
  go_loopw [8] (fun i wr => ∃ k : Nat, k ≤ n ∧ i = .int .i64 k ∧ Drawn w wr ∧ ∀ j, j < k → nth xs j ≠ x)
    (fun i _ => n - (intOf i).toNat)
  case atStart => exact ⟨0, Nat.zero_le _, rfl, Drawn.refl _, fun j hj => absurd hj (by omega)⟩
  case round =>
    obtain ⟨k, hk, rfl, hD, hall⟩ := hrel
    have HA := Lib.hid hall
    have HDR := Lib.hid hD
    have hs := hD.si hs
    clear hall hD
    by_cases hlt : k < n
    · have hlI : (k : Int) < (n : Int) := by omega
      obtain ⟨b, o, rfl, hb, hc⟩ := hs.at_ (by omega)
      have hc1 := hc k hlt
      obtain ⟨y, hy⟩ : ∃ y, y = nth xs k := ⟨_, rfl⟩
      rw [← hy] at hc1
      have HY := Lib.hid hy
      clear hc hs hy
      by_cases heq : x = y
      · subst heq
        go_wp2
        go_ret
        exact ⟨(k : Int), rfl, ⟨fun _ => by rw [HY.out]; exact hasB_hit (by rw [HL.out]; exact hlt), fun _ => by omega⟩, HDR.out⟩
      · have hb : (x == y) = false := by simpa using heq
        have HN := Lib.hid heq
        clear heq
        go_wp2
        go_roundw
        case rel => exact ⟨k + 1, by omega, by go_num, HDR.out, fun j hj => by
          rcases Nat.lt_or_ge j k with h | h
          · exact HA.out j h
          · obtain rfl : j = k := by omega
            exact fun h => HN.out (by rw [HY.out, h])⟩
        case measure => simp [intOf]; omega
    · have hkn : k = n := by omega
      subst hkn
      go_wp2
      go_ret
      exact ⟨-1, rfl, ⟨fun h => absurd h (by decide), fun h => by rw [hasB_all (by rw [HL.out]; exact HA.out)] at h; cases h⟩, HDR.out⟩
set_option maxHeartbeats 400000 in
theorem containsInts_any (A : Option Addr) (n c : Nat) (xs : List Int) (x : Int) (w : World) (hs : SI w A n xs) (hn : n ≤ 1099511627776) :
    Calls Try.prog 155 #[.slice A n c, .int .i64 x] w fun r w' => r = .returned (.bool (hasB xs x)) ∧ Drawn w w' := by
  have HC := Lib.hid (indexInts_any A n c xs x w hs hn)
  clear hs
  go_enter Try.func155, Try.ntmps155
  go_wp2_with (go_at_call 188; refine HC.out.mono ?_; rintro r w2 ⟨i, rfl, hi, hd⟩; have HI := Lib.hid hi; have HD := Lib.hid hd; clear hi hd)
  go_ret
  refine ⟨ret_bool ?_, HD.out⟩
  have := HI.out
  cases hu : hasB xs x with
  | true => rw [hu] at this; simpa using this.2 rfl
  | false => rw [hu] at this; simp at this ⊢; omega
end Go.Proofs.Ytfaegfhbbkicgaa
