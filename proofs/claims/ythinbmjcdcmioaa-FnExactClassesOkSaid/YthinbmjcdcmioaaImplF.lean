/-
  Contracts of the program's EmbedPerm, TrimPerm, RankAt. Conditions: lengths below 2^40.
-/
import Derived.Test.YthinbmjcdcmioaaSpecF
import Derived.Test.YthinbmjcdcmioaaImplC
namespace Go.Proofs.Ythinbmjcdcmioaa
open Go.RowKit

theorem trimN_fill {xs : List Int} (h7 : xs.length ≤ 7) : ∀ k, k ≤ xs.length → trimN (fillA xs xs.length) k = trimN xs k := by
  intro k
  induction k with
  | zero => intro _; rfl
  | succ k ih => intro hk; unfold trimN; rw [ih (by omega), fillA_lt (by omega) (by omega)]

set_option maxHeartbeats 1000000 in
theorem implTrim_any (A : Option Addr) (n c : Nat) (xs : List Int) (w : World) (hs : SI w A n xs) (hn : n ≤ 1099511627776) :
    Calls Try.prog 90 #[.slice A n c] w fun e w' => Fresh w w' e (trimPerm xs) := by
  have hl := hs.1
  cases hu : isPermB xs with
  | false =>
    have HE := Lib.hid (trimPerm_no hu)
    have HU := Lib.hid hu
    clear hu
    go_enter Try.func90, Try.ntmps90
    go_wp2_with fail
    refine (arrayOf_x c HU.out hs hn).mono ?_
    rintro e w1 ⟨l, rfl, -, hb1⟩
    go_wp2
    go_ret
    rw [HE.out]
    exact Fresh.nil_ret (hb1.alloc hb1.size _)
  | true =>
    have HE := Lib.hid (trimPerm_yes hu)
    have HU := Lib.hid hu
    have HL := Lib.hid hl
    have hpos : 1 ≤ n := by have := (isPermB_P hu).1; omega
    have h7 : n ≤ 7 := by have := (isPermB_P hu).2.1; omega
    clear hu hl
    go_enter Try.func90, Try.ntmps90
    go_wp2_with fail
    refine (arrayOf_x c HU.out hs hn).mono ?_
    rintro e w1 ⟨l, rfl, hlf, hb1⟩
    have HF := Lib.hid (hlf rfl)
    clear hlf
    have hK := Blk.new w1 93 (arrC l)
    have hb2 : Below w.heap.size w (w1.alloc (.cells (arrC l) 93)) := hb1.alloc hb1.size _
    go_wp2
    obtain ⟨g, hg⟩ : ∃ g, g = w1.heap.size := ⟨_, rfl⟩
    rw [← hg] at hK ⊢
    generalize w1.alloc (.cells (arrC l) 93) = w2 at *
    clear hg
    have HK := Lib.hid hK
    clear hK
    go_loop [5] (fun v => ∃ k : Nat, k + 1 ≤ n ∧ v = .int .i64 ((k : Int) + 1) ∧ trimN l (k + 1) = trimN l n)
      (fun v => (intOf v).toNat)
    case atStart => exact ⟨n - 1, by omega, by go_num, by rw [show n - 1 + 1 = n from by omega]⟩
    case round =>
      obtain ⟨k, hk, rfl, htr⟩ := hrel
      have HT := Lib.hid htr
      have hck : w2.cell? ⟨g, k, none⟩ = some (.int .i64 (nth l k)) := (HK.out.cell _).trans (arrC_get l k (by omega))
      obtain ⟨x, hx⟩ : ∃ x, x = nth l k := ⟨_, rfl⟩
      rw [← hx] at hck
      have HX := Lib.hid hx
      clear htr hx
      have stop : ∀ (w4 : World) (e : Ending), trimN l (k + 1) = k + 1 → Fresh w2 w4 e (l.take (k + 1)) → Fresh w w4 e (trimPerm xs) := by
        intro w4 e h1 h2
        have e2 := HT.out
        have e1 := HF.out
        have e3 := HL.out
        have e4 := trimN_fill (xs := xs) (by omega) n (by omega)
        rw [e3, ← e1, ← e2, h1] at e4
        rw [HE.out, e3, ← e4]
        have e5 := fill_take_short (xs := xs) (k := k + 1) (by omega) (by omega)
        rw [e3, ← e1] at e5
        rw [← e5]
        exact Fresh.after hb2 h2
      have STOP := Lib.hid stop
      clear stop
      by_cases h0 : 0 < k
      · by_cases hxk : x = (k : Int)
        · subst hxk
          go_wp2
          go_round
          case rel =>
            have e1 := HX.out
            have e2 := HT.out
            rw [trimN_hit h0 e1.symm] at e2
            exact ⟨k - 1, by omega, by go_num, by rw [show k - 1 + 1 = k from by omega]; exact e2⟩
          case measure => simp only [intOf]; omega
        · have hxb : (x == (k : Int)) = false := by simpa using hxk
          have HX2 := Lib.hid hxk
          clear hxk
          have hsl : Calls Try.prog 105 #[arr l, .int .i64 ((k : Int) + 1)] w2 (fun e w' => Fresh w2 w' e (l.take (k + 1))) := list_any l (k + 1) w2 (by rw [HF.out, fillA_len]) (by omega)
          go_wp2_with (refine wpList_load_blk rfl 93 (.tmp 3) rfl g rfl 93 (arrC l) 7 3 HK.out Try.undArr Try.infoArr ?_)
          refine hsl.mono ?_
          intro e w4 hfr
          obtain ⟨A4, n4, c4, rfl, ho4, hb4⟩ := hfr
          go_wp2
          go_ret
          exact STOP.out _ _ (trimN_miss (by have := HX.out; have := HX2.out; rintro ⟨_, h⟩; omega)) ⟨A4, n4, c4, rfl, ho4, hb4⟩
      · have hk0 : k = 0 := by omega
        subst hk0
        have hsl : Calls Try.prog 105 #[arr l, .int .i64 1] w2 (fun e w' => Fresh w2 w' e (l.take 1)) := list_any l 1 w2 (by rw [HF.out, fillA_len]) (by omega)
        go_wp2_with (refine wpList_load_blk rfl 93 (.tmp 3) rfl g rfl 93 (arrC l) 7 3 HK.out Try.undArr Try.infoArr ?_)
        refine hsl.mono ?_
        intro e w4 hfr
        obtain ⟨A4, n4, c4, rfl, ho4, hb4⟩ := hfr
        go_wp2
        go_ret
        exact STOP.out _ _ (trimN_miss (by rintro ⟨h, _⟩; omega)) ⟨A4, n4, c4, rfl, ho4, hb4⟩

end Go.Proofs.Ythinbmjcdcmioaa
