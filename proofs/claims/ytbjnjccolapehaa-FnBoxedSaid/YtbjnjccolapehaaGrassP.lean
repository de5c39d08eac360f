/-
  The permutation of a shape in a box, on both sides. Conditions: lengths below 2^40.
-/
import Derived.Test.YtbjnjccolapehaaBox
namespace Go.Proofs.Ytbjnjccolapehaa
open Go.RowKit

/-- The first i numbers of the permutation. -/
def gF (xs : List Int) (k i : Nat) : List Int := (List.range i).map fun (j : Nat) => (j : Int) + nth xs (k - 1 - j)
theorem gF_len (xs : List Int) (k i : Nat) : (gF xs k i).length = i := by simp [gF]
theorem gF_succ (xs : List Int) (k i : Nat) : gF xs k (i + 1) = gF xs k i ++ [(i : Int) + nth xs (k - 1 - i)] := by simp [gF, List.range_succ]
/-- Those below v that are not among them. -/
def gR (F : List Int) : Nat → List Int
  | 0 => []
  | v + 1 => if hasB F (v : Int) = true then gR F v else gR F v ++ [(v : Int)]
theorem gR_len (F : List Int) : ∀ v, (gR F v).length ≤ v
  | 0 => Nat.le_refl _
  | v + 1 => by
    have := gR_len F v
    unfold gR
    split
    · omega
    · rw [List.length_append]; simp; omega
theorem gR_lt (F : List Int) : ∀ v : Nat, ∀ x ∈ gR F v, x < (v : Int)
  | 0, x, hx => by simp [gR] at hx
  | v + 1, x, hx => by
    unfold gR at hx
    split at hx
    · have := gR_lt F v x hx; omega
    · rcases List.mem_append.1 hx with hx | hx
      · have := gR_lt F v x hx; omega
      · rw [List.mem_singleton.1 hx]; omega
theorem gR_has (F : List Int) (v : Nat) : hasB (F ++ gR F v) (v : Int) = hasB F (v : Int) := by
  unfold hasB
  have h : (v : Int) ∉ gR F v := fun h => absurd (gR_lt F v _ h) (by omega)
  exact decide_eq_decide.2 ⟨fun h' => (List.mem_append.1 h').resolve_right h, fun h' => List.mem_append.2 (.inl h')⟩
def gL (xs : List Int) (k m : Nat) : List Int := gF xs k k ++ gR (gF xs k k) m
/-- What GrassmannianPerm answers. -/
def graPerm (xs : List Int) (k m : Int) : List Int := if boxB xs k m = true then gL xs k.toNat m.toNat else []
theorem graPerm_no {xs : List Int} {k m : Int} (h : boxB xs k m = false) : graPerm xs k m = [] := by unfold graPerm; rw [if_neg (by rw [h]; decide)]
theorem graPerm_yes {xs : List Int} {k m : Nat} (h : boxB xs (k : Int) (m : Int) = true) : graPerm xs (k : Int) (m : Int) = gL xs k m := by unfold graPerm; rw [if_pos h, Int.toNat_natCast, Int.toNat_natCast]
theorem graPerm_small (xs : List Int) (k m : Int) : (graPerm xs k m).length ≤ 1099511627775 := by
  unfold graPerm
  split
  · rename_i h
    have hp := boxB_P h
    have := gR_len (gF xs k.toNat k.toNat) m.toNat
    unfold gL
    rw [List.length_append, gF_len]
    have h1 := hp.2.1; have h2 := hp.2.2.2.1
    omega
  · simp
/-- 'make([]int, 0, n)'. -/
theorem wpList_make_cap {ops : Array Oper} {rest : List Oper} {o : Oper} {a : Act} {w : World} {Q : Exit → Act → World → Prop} (hgd : o.guard = none) (l c : Operand) (ho : o.op = .makeSlice 22 l c)
    (n : Nat) (hl : a.eval l = .int .i64 0) (hc : a.eval c = .int .i64 n) (hn : n ≤ 1099511627776)
    (hK : ∀ w', Own w' w.heap.size w'.heap.size (some ⟨w.heap.size, 0, none⟩) 0 n [] → Below w.heap.size w w' → wpList Try.prog ops Q rest (a.put o.dst (.slice (some ⟨w.heap.size, 0, none⟩) 0 n)) w') :
    wpList Try.prog ops Q (o :: rest) a w := by
  obtain ⟨i0, hi, hz0, hz1, hz2⟩ := info_parts Try.infoInt
  refine wpList_make_own w hgd l c 22 ho w.heap.size 3 i0 (.int .i64 0) 1 Try.underlying22 hi hz0 hz1 .i64 .i64 n n hl hc rfl (by rw [hz2]; omega) (by unfold maxLen; omega) (Nat.le_refl _) ?_
  intro w1 ho1 hg1
  exact hK w1 (Own.of (by simpa using ho1)) (grow_below hg1 (Nat.le_refl _) (by intro k hk; cases hk))
set_option maxHeartbeats 800000 in
theorem indexInts_any (A : Option Addr) (n c : Nat) (xs : List Int) (x : Int) (w : World) (hs : SI w A n xs) (hn : n ≤ 1099511627776) :
    Calls Try.prog 48 #[.slice A n c, .int .i64 x] w fun r w' => ∃ i : Int, r = .returned (.int .i64 i) ∧ (0 ≤ i ↔ hasB xs x = true) ∧ Drawn w w' := by
  have HL := Lib.hid hs.1
  go_enter Try.func48, Try.ntmps48
  go_wp2
  go_loopw [8] (fun i wr => ∃ k : Nat, k ≤ n ∧ i = .int .i64 k ∧ Drawn w wr ∧ ∀ j, j < k → nth xs j ≠ x)
    (fun i _ => n - (intOf i).toNat)
  case atStart => exact ⟨0, Nat.zero_le _, rfl, Drawn.refl _, fun j hj => absurd hj (by omega)⟩
  case round =>
    obtain ⟨k, hk, rfl, hD, hall⟩ := hrel
    have HA := Lib.hid hall
    have HDR := Lib.hid hD
    have hs := hD.si hs
    clear hall hD
    by_cases hlt : k < n
    · have hlI : (k : Int) < (n : Int) := by omega
      obtain ⟨b, o, rfl, hb, hc⟩ := hs.at_ (by omega)
      have hc1 := hc k hlt
      obtain ⟨y, hy⟩ : ∃ y, y = nth xs k := ⟨_, rfl⟩
      rw [← hy] at hc1
      have HY := Lib.hid hy
      clear hc hs hy
      by_cases heq : x = y
      · subst heq
        go_wp2
        go_ret
        exact ⟨(k : Int), rfl, ⟨fun _ => by rw [HY.out]; exact hasB_hit (by rw [HL.out]; exact hlt), fun _ => by omega⟩, HDR.out⟩
      · have hb : (x == y) = false := by simpa using heq
        have HN := Lib.hid heq
        clear heq
        go_wp2
        go_roundw
        case rel => exact ⟨k + 1, by omega, by go_num, HDR.out, fun j hj => by
          rcases Nat.lt_or_ge j k with h | h
          · exact HA.out j h
          · obtain rfl : j = k := by omega
            exact fun h => HN.out (by rw [HY.out, h])⟩
        case measure => simp [intOf]; omega
    · have hkn : k = n := by omega
      subst hkn
      go_wp2
      go_ret
      exact ⟨-1, rfl, ⟨fun h => absurd h (by decide), fun h => by rw [hasB_all (by rw [HL.out]; exact HA.out)] at h; cases h⟩, HDR.out⟩
set_option maxHeartbeats 400000 in
theorem containsInts_any (A : Option Addr) (n c : Nat) (xs : List Int) (x : Int) (w : World) (hs : SI w A n xs) (hn : n ≤ 1099511627776) :
    Calls Try.prog 32 #[.slice A n c, .int .i64 x] w fun r w' => r = .returned (.bool (hasB xs x)) ∧ Drawn w w' := by
  have HC := Lib.hid (indexInts_any A n c xs x w hs hn)
  clear hs
  go_enter Try.func32, Try.ntmps32
  go_wp2_with (go_at_call 48; refine HC.out.mono ?_; rintro r w2 ⟨i, rfl, hi, hd⟩; have HI := Lib.hid hi; have HD := Lib.hid hd; clear hi hd)
  go_ret
  refine ⟨ret_bool ?_, HD.out⟩
  have := HI.out
  cases hu : hasB xs x with
  | true => rw [hu] at this; simpa using this.2 rfl
  | false => rw [hu] at this; simp at this ⊢; omega
set_option maxRecDepth 100000 in
set_option maxHeartbeats 1600000 in
theorem implGrass_any (A : Option Addr) (n c : Nat) (xs : List Int) (k m : Int) (w : World) (hs : SI w A n xs) (hn : n ≤ 1099511627776) :
    Calls Try.prog 13 #[.slice A n c, .int .i64 k, .int .i64 m] w fun e w' => Fresh w w' e (graPerm xs k m) := by
  have HI := Lib.hid (fitsInto_any A n c xs k m w hs hn)
  cases hu : boxB xs k m with
  | false =>
    rw [hu] at HI
    have HE := Lib.hid (graPerm_no hu)
    clear hu hs
    go_enter Try.func13, Try.ntmps13
    go_wp2_with (go_at_call 30; refine HI.out.mono ?_; rintro e w1 ⟨rfl, hd1⟩)
    go_ret
    rw [HE.out]
    exact Fresh.nil_ret' (hd1.below _)
  | true =>
    rw [hu] at HI
    have hp := boxB_P hu
    obtain ⟨k', rfl⟩ : ∃ k' : Nat, k = k' := ⟨k.toNat, by have := hp.2.2.1; omega⟩
    obtain ⟨m', rfl⟩ : ∃ m' : Nat, m = m' := ⟨m.toNat, by have := hp.1; omega⟩
    obtain ⟨k, hk0⟩ : ∃ k : Nat, k = k' := ⟨_, rfl⟩
    obtain ⟨m, hm0⟩ : ∃ m : Nat, m = m' := ⟨_, rfl⟩
    subst hk0 hm0
    have HE := Lib.hid (graPerm_yes hu)
    have hk7 : k ≤ 7 := by have := hp.2.1; have := hp.2.2.2.1; omega
    have hm7 : m ≤ 7 := by have := hp.2.1; omega
    have hn16 : n ≤ 16 := by have := hp.2.2.2.2.2.1; have := hs.1; omega
    have HRG := Lib.hid (shape_range hp.2.2.2.2.1)
    have HR := Lib.hid (fun w' (hd : Drawn w w') => rowLengthsOf_any A n c xs w' (hd.si hs) hn16)
    clear hu hs hp
    go_enter Try.func13, Try.ntmps13
    go_upto_region 4 with (first
      | (go_at_call 30; refine HI.out.mono ?_; rintro e w1 ⟨rfl, hd1⟩; have HD1 := Lib.hid hd1; clear hd1)
      | (go_at_call 31; refine (HR.out _ HD1.out).mono ?_; rintro e w3 ⟨rfl, hb3⟩; have HB3 : Hid (Below w.heap.size w w3) := Lib.hid ((HD1.out.below _).trans (hb3.mono (HD1.out.below w.heap.size).size)); clear hb3))
    obtain ⟨w4, hw4⟩ : ∃ w4, w4 = w3.alloc (.cells (arrD (padN 16 xs)) 37) := ⟨_, rfl⟩
    obtain ⟨g, hg⟩ : ∃ g, g = w3.heap.size := ⟨_, rfl⟩
    have HB4 : Hid (Below w.heap.size w w4) := Lib.hid (by rw [hw4]; exact HB3.out.alloc HB3.out.size _)
    have HK4 : Hid (Blk w4 g 37 (arrD (padN 16 xs))) := Lib.hid (by rw [hw4, hg]; exact Blk.new _ _ _)
    have HG4 : Hid (w.heap.size ≤ g) := Lib.hid (by rw [hg]; exact HB3.out.size)
    rw [← hw4, ← hg]
    clear hw4 hg
    generalize arr16 (padN 16 xs) = va
    go_wp2_with (at_make; refine wpList_make_cap rfl (.const (.int .i64 0)) (.tmp 18) rfl m rfl rfl (by omega) ?_; intro w5 ho5 hb5; have HO5 := Lib.hid ho5; have HB5 : Hid (Below w.heap.size w w5) := Lib.hid (HB4.out.trans (hb5.mono HB4.out.size)); have HK5 : Hid (Blk w5 g 37 (arrD (padN 16 xs))) := Lib.hid (HK4.out.below hb5 HK4.out.lt); have HL5 : Hid (g + 1 ≤ w4.heap.size) := Lib.hid HK4.out.lt; clear ho5 hb5)
    obtain ⟨B, hB⟩ : ∃ B, B = w4.heap.size := ⟨_, rfl⟩
    rw [← hB] at HO5 HL5 ⊢
    have HZ5 : Hid (B ≤ w5.heap.size) := Lib.hid (by have := HO5.out.lt B rfl; omega)
    clear hB
    go_loopw [8, 21] (fun ov iv wr => ∃ (i : Nat) (Ao : Option Addr) (co : Nat), i ≤ k ∧ iv = .int .i64 i ∧ ov = .slice Ao i co ∧ Own wr B wr.heap.size Ao i co (gF xs k i) ∧ Below w.heap.size w wr ∧ Blk wr g 37 (arrD (padN 16 xs)) ∧ B ≤ wr.heap.size ∧ (i = k → Ao ≠ none ∨ k = 0) ∧ Ao ≠ none)
      (fun _ iv _ => k - (intOf iv).toNat)
    case atStart => exact ⟨0, _, _, Nat.zero_le _, rfl, rfl, HO5.out, HB5.out, HK5.out, HZ5.out, fun _ => .inl (by simp), by simp⟩
    case round =>
      obtain ⟨i, Ao, co, hi, rfl, rfl, hown, hbw, hkr, hz, _, hne⟩ := hrel
      clear HO5 HB5 HK5 HZ5
      have HO := Lib.hid hown
      have HB := Lib.hid hbw
      have HK := Lib.hid hkr
      have HZ := Lib.hid hz
      have HN := Lib.hid hne
      clear hown hbw hkr hz hne
      by_cases hlt : i < k
      · have hiI : (i : Int) < (k : Int) := by omega
        have HSU := Lib.hid (gF_succ xs k i)
        have hc1 : wr.cell? ⟨g, k - 1 - i, none⟩ = some (.int .i64 (nth xs (k - 1 - i))) := by rw [HK.out.cell, arrD_get _ _ (by omega), padN_nth]
        obtain ⟨x, hx⟩ : ∃ x, x = nth xs (k - 1 - i) := ⟨_, rfl⟩
        have hxr := HRG.out (k - 1 - i)
        rw [← hx] at HSU hxr hc1
        obtain ⟨hx0, hx1⟩ := hxr
        have hw1 : IntKind.i64.wrap ((k : Int) - 1) = (k : Int) - 1 := IntWalk.i64_in _ (by omega)
        have hw2 : IntKind.i64.wrap ((k : Int) - 1 - (i : Int)) = (k : Int) - 1 - (i : Int) := IntWalk.i64_in _ (by omega)
        have hw3 : IntKind.i64.wrap ((i : Int) + x) = (i : Int) + x := IntWalk.i64_in _ (by omega)
        have hi0 : (0 : Int) ≤ (k : Int) - 1 - (i : Int) := by omega
        have hi1 : (k : Int) - 1 - (i : Int) < 16 := by omega
        have hi2 : ((k : Int) - 1 - (i : Int)).toNat = k - 1 - i := by omega
        clear hx
        go_wp2_with (first
          | (at_builtin; refine wpList_append1 rfl (.tmp 24) (.tmp 33) rfl B Ao i co (gF xs k i) ((i : Int) + x) rfl rfl HO.out HZ.out (by omega) ?_; intro A' c' w6 ho6 _ hb6))
        go_roundw
        case rel => exact ⟨i + 1, _, _, by omega, by go_num, rfl, by rw [HSU.out]; exact ho6, HB.out.trans (hb6.mono (by have := HG4.out; have := HL5.out; omega)), HK.out.below hb6 HL5.out, Nat.le_trans HZ.out hb6.size, fun _ => .inl (by obtain ⟨g', e, _⟩ := ho6.place (by omega); rw [e]; simp), by obtain ⟨g', e, _⟩ := ho6.place (by omega); rw [e]; simp⟩
        case measure => simp [intOf]; omega
      · have hik : i = k := by omega
        subst hik
        obtain ⟨F, hF⟩ : ∃ F, F = gF xs i i := ⟨_, rfl⟩
        have HFL : Hid (F.length = i) := Lib.hid (by rw [hF, gF_len])
        have HE2 : Hid (gL xs i m = F ++ gR F m) := Lib.hid (by rw [hF]; rfl)
        rw [← hF] at HO
        clear hF
        go_wp2_with fail
        go_loopw [8, 37] (fun ov vv wx => ∃ (v : Nat) (Ao : Option Addr) (no co : Nat), v ≤ m ∧ vv = .int .i64 v ∧ ov = .slice Ao no co ∧ Own wx B wx.heap.size Ao no co (F ++ gR F v) ∧ Below w.heap.size w wx ∧ B ≤ wx.heap.size ∧ Ao ≠ none)
          (fun _ vv _ => m - (intOf vv).toNat)
        case atStart => exact ⟨0, Ao, i, co, Nat.zero_le _, rfl, rfl, by simpa [gR] using HO.out, HB.out, HZ.out, HN.out⟩
        case round =>
          obtain ⟨v, A5, n5, c5, hv, rfl, rfl, hown, hbw, hz, hne⟩ := hrel
          clear HO HB HK HZ HN
          have HO := Lib.hid hown
          have HB := Lib.hid hbw
          have HZ := Lib.hid hz
          have hlen := hown.len
          rw [List.length_append, HFL.out] at hlen
          have hcap := hown.cap
          have hn5 : n5 ≤ 14 := by have := gR_len F v; omega
          obtain ⟨a5, rfl⟩ : ∃ a5, A5 = some a5 := by cases A5 with | none => exact absurd rfl hne | some a => exact ⟨a, rfl⟩
          clear hown hbw hz hne
          by_cases hlt2 : v < m
          · have hvI : (v : Int) < (m : Int) := by omega
            have hic : (i : Int) ≤ (c5 : Int) := by omega
            have hi0 : (0 : Int) ≤ (i : Int) := by omega
            have hh := containsInts_any (some a5) i c5 F (v : Int) wr (by
              have := HO.out.si.take (k := i) (by omega)
              rwa [List.take_left' HFL.out] at this) (by omega)
            have e : gR F (v + 1) = if hasB F (v : Int) = true then gR F v else gR F v ++ [(v : Int)] := rfl
            cases hu : hasB F (v : Int) with
            | true =>
              rw [hu] at hh e
              have HH := Lib.hid hh
              have HG : Hid (gR F (v + 1) = gR F v) := Lib.hid e
              clear hh e hu
              go_wp2_with (go_at_call 32; refine HH.out.mono ?_; rintro e w7 ⟨rfl, hd3⟩; have HD3 := Lib.hid hd3; clear hd3)
              go_roundw
              case rel => exact ⟨v + 1, some a5, n5, c5, by omega, by go_num, rfl, by rw [HG.out, HD3.out.heap]; exact HO.out.drawn HD3.out, HB.out.trans (HD3.out.below _), by rw [HD3.out.heap]; exact HZ.out, by simp⟩
              case measure => simp [intOf]; omega
            | false =>
              rw [hu] at hh e
              have HH := Lib.hid hh
              have HG : Hid (F ++ gR F (v + 1) = F ++ gR F v ++ [(v : Int)]) := Lib.hid (by rw [e]; simp)
              clear hh e hu
              go_wp2_with (first
                | (go_at_call 32; refine HH.out.mono ?_; rintro e w7 ⟨rfl, hd3⟩
                   have HB3 : Hid (Below w.heap.size w w7) := Lib.hid (HB.out.trans (hd3.below _))
                   have HO3 : Hid (Own w7 B w7.heap.size (some a5) n5 c5 (F ++ gR F v)) := Lib.hid (by rw [hd3.heap]; exact HO.out.drawn hd3)
                   have HZ3 : Hid (B ≤ w7.heap.size) := Lib.hid (by rw [hd3.heap]; exact HZ.out)
                   clear hd3)
                | (at_builtin; refine wpList_append1 rfl (.tmp 46) (.tmp 48) rfl B (some a5) n5 c5 (F ++ gR F v) (v : Int) rfl rfl HO3.out HZ3.out (by omega) ?_; intro A' c' w8 ho8 _ hb8))
              go_roundw
              case rel => exact ⟨v + 1, A', n5 + 1, c', by omega, by go_num, rfl, by rw [HG.out]; exact ho8, HB3.out.trans (hb8.mono (by have := HG4.out; have := HL5.out; omega)), Nat.le_trans HZ3.out hb8.size, by obtain ⟨g', e, _⟩ := ho8.place (by omega); rw [e]; simp⟩
              case measure => simp [intOf]; omega
          · have hvm : v = m := by omega
            subst hvm
            go_wp2
            go_ret
            rw [HE.out, HE2.out]
            exact ⟨some a5, n5, c5, rfl, HO.out.wide (by have := HG4.out; have := HL5.out; omega) (Nat.le_refl _), HB.out⟩
end Go.Proofs.Ytbjnjccolapehaa
