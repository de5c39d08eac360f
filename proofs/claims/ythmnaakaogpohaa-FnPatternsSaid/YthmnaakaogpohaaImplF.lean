/-
  Contracts of the program's EmbedPerm, TrimPerm, RankAt. Conditions: lengths below 2^40.
-/
import Derived.Test.YthmnaakaogpohaaSpecF
import Derived.Test.YthmnaakaogpohaaImplC
namespace Go.Proofs.Ythmnaakaogpohaa
open Go.RowKit

set_option maxHeartbeats 1000000 in
theorem implEmbed_any (A : Option Addr) (n c : Nat) (xs : List Int) (a : Int) (w : World) (hs : SI w A n xs) (hn : n ≤ 1099511627776) :
    Calls Try.prog 21 #[.slice A n c, .int .i64 a] w fun e w' => Fresh w w' e (embPerm xs a) := by
  have hl := hs.1
  cases hu : isPermB xs with
  | false =>
    have HE := Lib.hid (embPerm_no (a := a) (.inl hu))
    have HU := Lib.hid hu
    clear hu
    go_enter Try.func21, Try.ntmps21
    go_wp2_with fail
    refine (arrayOf_x c HU.out hs hn).mono ?_
    rintro e w1 ⟨l, rfl, -, hb1⟩
    go_wp2
    go_ret
    rw [HE.out]
    exact Fresh.nil_ret (hb1.alloc hb1.size _)
  | true =>
    have HU := Lib.hid hu
    have HL := Lib.hid hl
    clear hu hl
    by_cases hlo : a < (n : Int)
    · have HE := Lib.hid (embPerm_no (xs := xs) (a := a) (.inr (by have := HL.out; omega)))
      go_enter Try.func21, Try.ntmps21
      go_wp2_with fail
      refine (arrayOf_x c HU.out hs hn).mono ?_
      rintro e w1 ⟨l, rfl, -, hb1⟩
      go_wp2
      go_ret
      rw [HE.out]
      exact Fresh.nil_ret (hb1.alloc hb1.size _)
    · by_cases hhi : 7 < a
      · have HE := Lib.hid (embPerm_no (xs := xs) (a := a) (.inr (.inr hhi)))
        go_enter Try.func21, Try.ntmps21
        go_wp2_with fail
        refine (arrayOf_x c HU.out hs hn).mono ?_
        rintro e w1 ⟨l, rfl, -, hb1⟩
        go_wp2
        go_ret
        rw [HE.out]
        exact Fresh.nil_ret (hb1.alloc hb1.size _)
      · obtain ⟨m, rfl⟩ : ∃ m : Nat, a = (m : Int) := ⟨a.toNat, by omega⟩
        have HE := Lib.hid (embPerm_yes (m := m) HU.out (by have := HL.out; omega) (by omega))
        go_enter Try.func21, Try.ntmps21
        go_wp2_with fail
        refine (arrayOf_x c HU.out hs hn).mono ?_
        rintro e w1 ⟨l, rfl, hlf, hb1⟩
        have HF := Lib.hid (hlf rfl)
        clear hlf
        have hK := Blk.new w1 66 (arrC l)
        go_wp2_with (refine wpList_load_blk rfl 66 (.tmp 5) rfl w1.heap.size rfl 66 (arrC l) 7 3 hK Try.undArr Try.infoArr ?_)
        have hb2 : Below w.heap.size w (w1.alloc (.cells (arrC l) 66)) := hb1.alloc hb1.size _
        generalize w1.alloc (.cells (arrC l) 66) = w2 at *
        refine (list_any l m w2 (by rw [HF.out, fillA_len]) (by omega)).mono ?_
        rintro e w4 ⟨A4, n4, c4, rfl, ho4, hb4⟩
        go_wp2
        go_ret
        have e1 := HF.out
        rw [e1, ← HL.out] at ho4
        rw [HE.out]
        exact Fresh.after hb2 ⟨A4, n4, c4, rfl, ho4, hb4⟩

theorem trimN_fill {xs : List Int} (h7 : xs.length ≤ 7) : ∀ k, k ≤ xs.length → trimN (fillA xs xs.length) k = trimN xs k := by
  intro k
  induction k with
  | zero => intro _; rfl
  | succ k ih => intro hk; unfold trimN; rw [ih (by omega), fillA_lt (by omega) (by omega)]

set_option maxHeartbeats 1000000 in
theorem implTrim_any (A : Option Addr) (n c : Nat) (xs : List Int) (w : World) (hs : SI w A n xs) (hn : n ≤ 1099511627776) :
    Calls Try.prog 20 #[.slice A n c] w fun e w' => Fresh w w' e (trimPerm xs) := by
  have hl := hs.1
  cases hu : isPermB xs with
  | false =>
    have HE := Lib.hid (trimPerm_no hu)
    have HU := Lib.hid hu
    clear hu
    go_enter Try.func20, Try.ntmps20
    go_wp2_with fail
    refine (arrayOf_x c HU.out hs hn).mono ?_
    rintro e w1 ⟨l, rfl, -, hb1⟩
    go_wp2
    go_ret
    rw [HE.out]
    exact Fresh.nil_ret (hb1.alloc hb1.size _)
  | true =>
    have HE := Lib.hid (trimPerm_yes hu)
    have HU := Lib.hid hu
    have HL := Lib.hid hl
    have hpos : 1 ≤ n := by have := (isPermB_P hu).1; omega
    have h7 : n ≤ 7 := by have := (isPermB_P hu).2.1; omega
    clear hu hl
    go_enter Try.func20, Try.ntmps20
    go_wp2_with fail
    refine (arrayOf_x c HU.out hs hn).mono ?_
    rintro e w1 ⟨l, rfl, hlf, hb1⟩
    have HF := Lib.hid (hlf rfl)
    clear hlf
    have hK := Blk.new w1 66 (arrC l)
    have hb2 : Below w.heap.size w (w1.alloc (.cells (arrC l) 66)) := hb1.alloc hb1.size _
    go_wp2
    obtain ⟨g, hg⟩ : ∃ g, g = w1.heap.size := ⟨_, rfl⟩
    rw [← hg] at hK ⊢
    generalize w1.alloc (.cells (arrC l) 66) = w2 at *
    clear hg
    have HK := Lib.hid hK
    clear hK
    go_loop [5] (fun v => ∃ k : Nat, k + 1 ≤ n ∧ v = .int .i64 ((k : Int) + 1) ∧ trimN l (k + 1) = trimN l n)
      (fun v => (intOf v).toNat)
    case atStart => exact ⟨n - 1, by omega, by go_num, by rw [show n - 1 + 1 = n from by omega]⟩
    case round =>
      obtain ⟨k, hk, rfl, htr⟩ := hrel
      have HT := Lib.hid htr
      have hck : w2.cell? ⟨g, k, none⟩ = some (.int .i64 (nth l k)) := (HK.out.cell _).trans (arrC_get l k (by omega))
      obtain ⟨x, hx⟩ : ∃ x, x = nth l k := ⟨_, rfl⟩
      rw [← hx] at hck
      have HX := Lib.hid hx
      clear htr hx
      have stop : ∀ (w4 : World) (e : Ending), trimN l (k + 1) = k + 1 → Fresh w2 w4 e (l.take (k + 1)) → Fresh w w4 e (trimPerm xs) := by
        intro w4 e h1 h2
        have e2 := HT.out
        have e1 := HF.out
        have e3 := HL.out
        have e4 := trimN_fill (xs := xs) (by omega) n (by omega)
        rw [e3, ← e1, ← e2, h1] at e4
        rw [HE.out, e3, ← e4]
        have e5 := fill_take_short (xs := xs) (k := k + 1) (by omega) (by omega)
        rw [e3, ← e1] at e5
        rw [← e5]
        exact Fresh.after hb2 h2
      have STOP := Lib.hid stop
      clear stop
      by_cases h0 : 0 < k
      · by_cases hxk : x = (k : Int)
        · subst hxk
          go_wp2
          go_round
          case rel =>
            have e1 := HX.out
            have e2 := HT.out
            rw [trimN_hit h0 e1.symm] at e2
            exact ⟨k - 1, by omega, by go_num, by rw [show k - 1 + 1 = k from by omega]; exact e2⟩
          case measure => simp only [intOf]; omega
        · have hxb : (x == (k : Int)) = false := by simpa using hxk
          have HX2 := Lib.hid hxk
          clear hxk
          have hsl : Calls Try.prog 63 #[arr l, .int .i64 ((k : Int) + 1)] w2 (fun e w' => Fresh w2 w' e (l.take (k + 1))) := list_any l (k + 1) w2 (by rw [HF.out, fillA_len]) (by omega)
          go_wp2_with (refine wpList_load_blk rfl 66 (.tmp 3) rfl g rfl 66 (arrC l) 7 3 HK.out Try.undArr Try.infoArr ?_)
          refine hsl.mono ?_
          intro e w4 hfr
          obtain ⟨A4, n4, c4, rfl, ho4, hb4⟩ := hfr
          go_wp2
          go_ret
          exact STOP.out _ _ (trimN_miss (by have := HX.out; have := HX2.out; rintro ⟨_, h⟩; omega)) ⟨A4, n4, c4, rfl, ho4, hb4⟩
      · have hk0 : k = 0 := by omega
        subst hk0
        have hsl : Calls Try.prog 63 #[arr l, .int .i64 1] w2 (fun e w' => Fresh w2 w' e (l.take 1)) := list_any l 1 w2 (by rw [HF.out, fillA_len]) (by omega)
        go_wp2_with (refine wpList_load_blk rfl 66 (.tmp 3) rfl g rfl 66 (arrC l) 7 3 HK.out Try.undArr Try.infoArr ?_)
        refine hsl.mono ?_
        intro e w4 hfr
        obtain ⟨A4, n4, c4, rfl, ho4, hb4⟩ := hfr
        go_wp2
        go_ret
        exact STOP.out _ _ (trimN_miss (by rintro ⟨h, _⟩; omega)) ⟨A4, n4, c4, rfl, ho4, hb4⟩

set_option maxHeartbeats 1000000 in
theorem rank_any (l : List Int) (r : Nat) (x : Int) (w : World) (hr : r ≤ 7) (_hl : l.length = 7) :
    Calls Try.prog 75 #[arr l, .int .i64 r, .int .i64 x] w fun e w' => e = .returned (.int .i64 (rankN l x r : Int)) ∧ Below w.heap.size w w' := by
  have hb := Blk.new w 66 (arrC l)
  have HBk := Lib.hid hb
  clear hb _hl
  have hsl := fun wx => sliceArr_to ⟨w.heap.size, 0, none⟩ r hr wx
  go_enter Try.func75, Try.ntmps75
  go_wp2
  go_loop [7, 13] (fun v i => ∃ k : Nat, k ≤ r ∧ i = .int .i64 k ∧ v = .int .i64 (rankN l x k : Int))
    (fun _ i => r - (intOf i).toNat)
  case atStart => exact ⟨0, Nat.zero_le _, rfl, rfl⟩
  case round =>
    obtain ⟨k, hk, rfl, rfl⟩ := hrel
    by_cases hlt : k < r
    · have hck : (w.alloc (.cells (arrC l) 66)).cell? ⟨w.heap.size, k, none⟩ = some (.int .i64 (nth l k)) := (HBk.out.cell _).trans (arrC_get l k (by omega))
      obtain ⟨y, hy⟩ : ∃ y, y = nth l k := ⟨_, rfl⟩
      rw [← hy] at hck
      have HY := Lib.hid hy
      have hq := rankN_le l x k
      obtain ⟨q, hqe⟩ : ∃ q, q = rankN l x k := ⟨_, rfl⟩
      rw [← hqe] at hq ⊢
      have HQ := Lib.hid hqe
      clear hy hqe
      by_cases hxy : y < x
      · go_wp2
        go_round
        case rel =>
          have e1 := HY.out
          have e2 := HQ.out
          exact ⟨k + 1, by omega, by go_num, by rw [rankN_hit (by omega), ← e2]; go_num⟩
        case measure => simp [intOf]; omega
      · go_wp2
        go_round
        case rel =>
          have e1 := HY.out
          have e2 := HQ.out
          exact ⟨k + 1, by omega, by go_num, by rw [rankN_miss (by omega), ← e2]⟩
        case measure => simp [intOf]; omega
    · have hkr : k = r := by omega
      subst hkr
      go_wp2
      go_ret
      exact ⟨rfl, Below.alloc_self _ _⟩

end Go.Proofs.Ythmnaakaogpohaa
