/-
  Keys of exponents and comparison of terms, on both sides. No conditions but the exponents' bounds.
-/
import Derived.Test.YtoogmghmnfljjaaTermEq
namespace Go.Proofs.Ytoogmghmnfljjaa
open Go.RowKit

theorem nth_drop (e : List Int) (m k : Nat) : nth (e.drop m) k = nth e (m + k) := by simp [nth, List.getD]
theorem keyD {e : List Int} (hl : e.length = 7) (hs : smallE e = true) (m : Nat) : 0 ≤ key7 (e.drop m) ∧ key7 (e.drop m) ≤ 562949953421312 := by
  have h := key7_bound (e.drop m) (fun k hk => by rw [nth_drop]; exact smallE_nth hs (by simp at hk; omega))
  have h1 : (128 : Int) ^ (e.drop m).length ≤ 562949953421312 := by
    have : (e.drop m).length ≤ 7 := by simp; omega
    generalize (e.drop m).length = q at this
    match q, this with
    | 0, _ | 1, _ | 2, _ | 3, _ | 4, _ | 5, _ | 6, _ | 7, _ => decide
  omega
set_option maxHeartbeats 400000 in
theorem l2Key_any (A : Option Addr) (c : Nat) (e : List Int) (w : World) (hs : SI w A 7 e) (hsm : smallE e = true) :
    Calls Try.prog 61 #[.slice A 7 c] w fun r w' => r = .returned (.int .i64 (key7 e)) ∧ Drawn w w' := by
  have hl := hs.1
  have HK := Lib.hid (keyD hl hsm)
  have HS := Lib.hid hsm
  have HL := Lib.hid hl
  clear hl hsm
  go_enter Try.func61, Try.ntmps61
  go_wp2
  go_loopw [3, 4] (fun v i wr => ∃ m : Nat, m ≤ 7 ∧ i = .int .i64 ((m : Int) - 1) ∧ v = .int .i64 (key7 (e.drop m)) ∧ Drawn w wr)
    (fun _ i _ => (intOf i + 1).toNat)
  case atStart => exact ⟨7, by omega, by go_num, by rw [List.drop_of_length_le (by rw [HL.out]; omega)]; rfl, Drawn.refl _⟩
  case round =>
    obtain ⟨m, hm, rfl, rfl, hD⟩ := hrel
    have hs := hD.si hs
    have HD := Lib.hid hD
    clear hD
    by_cases h0 : 0 < m
    · obtain ⟨k, rfl⟩ : ∃ k, m = k + 1 := ⟨m - 1, by omega⟩
      obtain ⟨b, o, rfl, hb, hc⟩ := hs.at_ (by omega)
      have hc1 := hc k (by omega)
      have hx1 := smallE_nth HS.out (k := k) (by rw [HL.out]; omega)
      have hv := HK.out (k + 1)
      have he := key7_drop (e := e) (i := k) (by rw [HL.out]; omega)
      obtain ⟨x, hx⟩ : ∃ x, x = nth e k := ⟨_, rfl⟩
      obtain ⟨y, hy⟩ : ∃ y, y = key7 (e.drop (k + 1)) := ⟨_, rfl⟩
      rw [← hx] at hc1 hx1 he
      rw [← hy] at hv he ⊢
      have HE := Lib.hid he
      obtain ⟨hx0, hx2⟩ := hx1
      obtain ⟨hv0, hv1⟩ := hv
      have hi : ((k + 1 : Nat) : Int) - 1 = (k : Int) := by omega
      rw [hi]
      have hw1 : IntKind.i64.wrap (y * 128) = y * 128 := IntWalk.i64_in _ (by omega)
      have hw2 : IntKind.i64.wrap (y * 128 + x) = y * 128 + x := IntWalk.i64_in _ (by omega)
      clear hc hs hx hy he hi
      go_wp2
      go_roundw
      case rel => exact ⟨k, by omega, by go_num, by rw [HE.out], HD.out⟩
      case measure => simp [intOf]
    · have hm0 : m = 0 := by omega
      subst hm0
      go_wp2
      go_ret
      exact ⟨rfl, HD.out⟩

/-- What comparing two numbers answers. -/
def cmpI (x y : Int) : Int := if x < y then -1 else if y < x then 1 else 0
theorem isNaN_any (x : Int) (w : World) : Calls Try.prog 111 #[.int .i64 x] w fun r w' => r = .returned (.bool false) ∧ w' = w := by
  go_enter Try.func111, Try.ntmps111
  go_wp2
  go_ret
  exact ⟨rfl, rfl⟩
theorem compare_any (x y : Int) (w : World) : Calls Try.prog 102 #[.int .i64 x, .int .i64 y] w fun r w' => r = .returned (.int .i64 (cmpI x y)) ∧ w' = w := by
  unfold cmpI
  by_cases h1 : x < y
  · rw [if_pos h1]
    go_enter Try.func102, Try.ntmps102
    go_wp2_with (go_at_call 111; refine (isNaN_any _ _).mono ?_; rintro e w1 ⟨rfl, rfl⟩)
    go_ret
    exact ⟨rfl, rfl⟩
  · rw [if_neg h1]
    by_cases h2 : y < x
    · rw [if_pos h2]
      go_enter Try.func102, Try.ntmps102
      go_wp2_with (go_at_call 111; refine (isNaN_any _ _).mono ?_; rintro e w1 ⟨rfl, rfl⟩)
      go_ret
      exact ⟨rfl, rfl⟩
    · rw [if_neg h2]
      go_enter Try.func102, Try.ntmps102
      go_wp2_with (go_at_call 111; refine (isNaN_any _ _).mono ?_; rintro e w1 ⟨rfl, rfl⟩)
      go_ret
      exact ⟨rfl, rfl⟩

theorem compare_q (x y : Int) (w : World) : Calls Try.prog 102 #[.int .i64 x, .int .i64 y] w fun r w' => r = .returned (.int .i64 (cmpI x y)) ∧ Drawn w w' :=
  (compare_any x y w).mono fun _ _ ⟨he, hw⟩ => ⟨he, hw ▸ Drawn.refl _⟩
/-- What comparing two terms answers: the greater key stands first. -/
def cmpK (a b : List Int) : Int := if key7 b < key7 a then -1 else if key7 a < key7 b then 1 else 0
theorem smallE_P {e : List Int} (h : smallE e = true) : ∀ k, k < e.length → 0 ≤ nth e k ∧ nth e k ≤ 24 := fun _ hk => smallE_nth h hk
theorem cmpK_eq {a b : List Int} (hl : a.length = b.length) (h : ∀ j, j < a.length → nth a j = nth b j) : cmpK a b = 0 := by
  have e : a = b := by
    apply List.ext_getElem hl
    intro j h1 h2
    have := h j h1
    rwa [nth_get h1, nth_get h2] at this
  subst e
  unfold cmpK
  rw [if_neg (by omega), if_neg (by omega)]
theorem cmpK_ne {a b : List Int} {i : Nat} (ha : a.length = 7) (hb : b.length = 7) (sa : smallE a = true) (sb : smallE b = true) (hi : i < 7) (h : ∀ j, i < j → j < 7 → nth a j = nth b j) (hne : nth a i ≠ nth b i) :
    cmpK a b = cmpI (nth b i) (nth a i) := by
  unfold cmpK cmpI
  by_cases h1 : nth b i < nth a i
  · have := key7_lt b a i (by omega) (smallE_P sb) (smallE_P sa) (by omega) (fun j h1 h2 => (h j h1 (by omega)).symm) h1
    rw [if_pos this, if_pos h1]
  · have := key7_lt a b i (by omega) (smallE_P sa) (smallE_P sb) (by omega) (fun j h1 h2 => h j h1 (by omega)) (by omega)
    rw [if_neg (by omega), if_pos this, if_neg h1, if_pos (by omega)]

set_option maxHeartbeats 1600000 in
theorem compareTerms_any (A A' : Option Addr) (c c' : Nat) (xs ys : List Int) (x y : Int) (w : World) (hs : SI w A 7 xs) (hs' : SI w A' 7 ys) (sx : smallE xs = true) (sy : smallE ys = true) :
    Calls Try.prog 64 #[.agg #[.slice A 7 c, .int .i64 x], .agg #[.slice A' 7 c', .int .i64 y]] w fun r w' => r = .returned (.int .i64 (cmpK xs ys)) ∧ Below w.heap.size w w' := by
  have HX := Lib.hid (And.intro hs.1 sx)
  have HY := Lib.hid (And.intro hs'.1 sy)
  have hb0 : Below w.heap.size w ((w.alloc (.cells #[.slice A 7 c, .int .i64 x] 61)).alloc (.cells #[.slice A' 7 c', .int .i64 y] 61)) := by go_grown
  have hK1 : Blk ((w.alloc (.cells #[.slice A 7 c, .int .i64 x] 61)).alloc (.cells #[.slice A' 7 c', .int .i64 y] 61)) w.heap.size 61 #[.slice A 7 c, .int .i64 x] := (Blk.new w _ _).alloc _
  have hK2 : Blk ((w.alloc (.cells #[.slice A 7 c, .int .i64 x] 61)).alloc (.cells #[.slice A' 7 c', .int .i64 y] 61)) (w.heap.size + 1) 61 #[.slice A' 7 c', .int .i64 y] := by
    have := (Blk.new (w.alloc (.cells #[.slice A 7 c, .int .i64 x] 61)) 61 #[.slice A' 7 c', .int .i64 y])
    simpa using this
  obtain ⟨g, hg⟩ : ∃ g, g = w.heap.size := ⟨_, rfl⟩
  have HG := Lib.hid hg
  rw [← hg] at hK1 hK2
  have H0 := Lib.hid hb0
  have H1 := Lib.hid hK1
  have H2 := Lib.hid hK2
  clear sx sy hb0 hK1 hK2
  go_enter Try.func64, Try.ntmps64
  go_wp2
  obtain ⟨w0, hw0⟩ : ∃ w0, w0 = ((w.alloc (.cells #[.slice A 7 c, .int .i64 x] 61)).alloc (.cells #[.slice A' 7 c', .int .i64 y] 61)) := ⟨_, rfl⟩
  have hz : (w.alloc (.cells #[.slice A 7 c, .int .i64 x] 61)).heap.size = g + 1 := by simp [hg]
  rw [← hg]
  clear hg
  have e0 := hw0
  rw [← hw0] at H0 H1 H2
  have hs0 := hs.below H0.out (Nat.le_refl _)
  have hs0' := hs'.below H0.out (Nat.le_refl _)
  rw [← hw0]
  have HW0 := Lib.hid hw0
  clear e0 hw0 hs hs' hz
  go_loopw [5] (fun i wr => ∃ m : Nat, m ≤ 7 ∧ i = .int .i64 ((m : Int) - 1) ∧ (∀ j, m ≤ j → j < 7 → nth xs j = nth ys j) ∧ Drawn w0 wr)
    (fun i _ => (intOf i + 1).toNat)
  case atStart => exact ⟨7, by omega, by go_num, fun j h1 h2 => absurd h1 (by omega), Drawn.refl _⟩
  case round =>
    obtain ⟨m, hm, rfl, hall, hD⟩ := hrel
    have HA := Lib.hid hall
    have hs := hD.si hs0
    have hs' := hD.si hs0'
    have K1 := H1.out.drawn hD
    have K2 := H2.out.drawn hD
    have HD := Lib.hid hD
    clear hall hD
    by_cases h0 : 0 < m
    · obtain ⟨k, rfl⟩ : ∃ k, m = k + 1 := ⟨m - 1, by omega⟩
      obtain ⟨b, o, rfl, hb, hc⟩ := hs.at_ (by omega)
      obtain ⟨b', o', rfl, hb', hc'⟩ := hs'.at_ (by omega)
      have hc1 := hc k (by omega)
      have hc1' := hc' k (by omega)
      have hd1 : wr.cell? ⟨g, 0, none⟩ = some (.slice (some ⟨b, o, none⟩) 7 c) := K1.cell 0
      have hd2 : wr.cell? ⟨g + 1, 0, none⟩ = some (.slice (some ⟨b', o', none⟩) 7 c') := K2.cell 0
      have hi : ((k + 1 : Nat) : Int) - 1 = (k : Int) := by omega
      rw [hi]
      have hkI : (k : Int) < 7 := by omega
      clear hc hc' hs hs' hs0 hs0' K1 K2 hi
      by_cases heq : nth xs k = nth ys k
      · have HE := Lib.hid heq
        rw [← heq] at hc1'
        obtain ⟨p, hp⟩ : ∃ p, p = nth xs k := ⟨_, rfl⟩
        rw [← hp] at hc1 hc1'
        clear heq hp
        go_wp2_with fail
        go_quiet (fail)
        go_wp2
        go_roundw
        case rel => exact ⟨k, by omega, by go_num, fun j h1 h2 => by
          rcases Nat.lt_or_ge k j with h | h
          · exact HA.out j (by omega) h2
          · obtain rfl : j = k := by omega
            exact HE.out, HD.out.drewN _⟩
        case measure => simp [intOf]
      · have HE := Lib.hid heq
        obtain ⟨p, hp⟩ : ∃ p, p = nth xs k := ⟨_, rfl⟩
        obtain ⟨q, hq⟩ : ∃ q, q = nth ys k := ⟨_, rfl⟩
        have HP := Lib.hid (And.intro hp hq)
        rw [← hp] at hc1 heq
        rw [← hq] at hc1' heq
        have hb : (p != q) = true := by simpa using heq
        clear heq hp hq
        go_wp2_with fail
        go_quiet (fail)
        go_wp2_with fail
        obtain ⟨w2, hw2⟩ : ∃ w2, w2 = wr.drewN nq := ⟨_, rfl⟩
        have hcb1 : w2.cell? ⟨b, o + k, none⟩ = some (.int .i64 p) := by rw [hw2]; exact hc1
        have hcb2 : w2.cell? ⟨b', o' + k, none⟩ = some (.int .i64 q) := by rw [hw2]; exact hc1'
        have hcb3 : w2.cell? ⟨g, 0, none⟩ = some (.slice (some ⟨b, o, none⟩) 7 c) := by rw [hw2]; exact hd1
        have hcb4 : w2.cell? ⟨g + 1, 0, none⟩ = some (.slice (some ⟨b', o', none⟩) 7 c') := by rw [hw2]; exact hd2
        have HD2 : Hid (Drawn w0 w2) := Lib.hid (by rw [hw2]; exact HD.out.drewN _)
        rw [← hw2]
        clear hw2 hc1 hc1' hd1 hd2 hb
        go_quiet ((go_at_call 102; exact Calls.quiet_of (compare_q q p _)))
        go_wp2
        go_ret
        refine ⟨ret_int ?_, H0.out.trans ((HD2.out.drewN _).below _)⟩
        rw [HP.out.1, HP.out.2]
        exact (cmpK_ne HX.out.1 HY.out.1 HX.out.2 HY.out.2 (by omega) (fun j h1 h2 => HA.out j (by omega) h2) HE.out).symm
    · have hm0 : m = 0 := by omega
      subst hm0
      go_wp2
      go_ret
      exact ⟨ret_int (cmpK_eq (by rw [HX.out.1, HY.out.1]) (fun j hj => HA.out j (by omega) (by rw [HX.out.1] at hj; exact hj))).symm, H0.out.trans (HD.out.below _)⟩
end Go.Proofs.Ytoogmghmnfljjaa
