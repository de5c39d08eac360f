/-
  InsertNumber on the program's side. Conditions: lengths below 2^40.
-/
import Derived.Test.YtdkcngilmdpbgaaInsN
import Derived.Test.YtdkcngilmdpbgaaInsJ
import Derived.Test.YtdkcngilmdpbgaaTabI
namespace Go.Proofs.Ytdkcngilmdpbgaa
open Go.RowKit

theorem isEntry_any (x : Int) (w : World) :
    Calls Try.prog 93 #[.int .i64 x] w fun e w' => e = .returned (.bool (decide (0 ≤ x ∧ x ≤ 20))) ∧ w = w' := by
  by_cases h1 : 0 ≤ x
  · by_cases h2 : x ≤ 20
    · go_enter Try.func93, Try.ntmps93
      go_wp2
      go_ret
      exact ⟨ret_bool (by simp [h1, h2]), rfl⟩
    · go_enter Try.func93, Try.ntmps93
      go_wp2
      go_ret
      exact ⟨ret_bool (by simp; omega), rfl⟩
  · have h1' : x < 0 := by omega
    go_enter Try.func93, Try.ntmps93
    go_wp2
    go_ret
    exact ⟨ret_bool (by simp; omega), rfl⟩
set_option maxHeartbeats 3200000 in
theorem implInsert_any (A : Option Addr) (n c : Nat) (ls : List (List Int)) (x : Int) (w : World) (hs : LS w A n ls) (hn : n ≤ 1099511627776) (hne : ∀ k, k < n → (li ls k).length ≤ 1099511627776) :
    Calls Try.prog 48 #[.slice A n c, .int .i64 x] w fun e w' => FreshLIB w w' e (insL ls x) (insKI ls x) (insB ls x) := by
  have HT := Lib.hid (implTab_any A n c ls w hs hn hne)
  have HX := Lib.hid (isEntry_any x)
  cases hu : tabB ls with
  | false =>
    rw [hu] at HT
    have hb : insB ls x = false := by simp [insB, hu]
    rw [hb, (ins_no hb).1, (ins_no hb).2]
    clear hu hs hne hb
    go_enter Try.func48, Try.ntmps48
    go_wp2_with (go_at_call 92; refine HT.out.mono ?_; rintro e w1 ⟨rfl, hb1⟩; have HB1 := Lib.hid hb1; clear hb1)
    go_returns
    exact FreshLIB.nil_ret HB1.out
  | true =>
    rw [hu] at HT
    obtain ⟨hf1, hf2⟩ := tab_few hu
    by_cases hx : 0 ≤ x ∧ x ≤ 20
    · rw [decide_eq_true hx] at HX
      have HI := Lib.hid (fun w1 (hb : Below w.heap.size w w1) => cloneRows_any A n c ls w1 (hs.below hb (Nat.le_refl _)) hn hne)
      have HR := Lib.hid (fun (w2 : World) (lo g : Nat) (h1 : OwnL w2 lo w2.heap.size (some ⟨g, 0, none⟩) n n ls) (h2 : lo ≤ w2.heap.size) => insRule_any g n n ls x lo w2 h1 h2 hn hne)
      have HT2 := Lib.hid (fun (w2 : World) (lo : Nat) (A' : Option Addr) (n' c' : Nat) (out : List (List Int)) (row : Nat) (h1 : InsIs ls x out row) (h2 : OwnL w2 lo w2.heap.size A' n' c' out) => implTab_any A' n' c' out w2 h2.si (by have := (ins_few h1).1; have := h2.si.1; omega) (fun k _ => by have := (ins_few h1).2 k; have := hf2 k; omega))
      have HU := Lib.hid hu
      have HXX := Lib.hid hx
      clear hu hs hne hx hf1 hf2
      go_enter Try.func48, Try.ntmps48
      go_upto_region 4 with (first
        | (go_at_call 92; refine HT.out.mono ?_; rintro e w1 ⟨rfl, hb1⟩; have HB1 := Lib.hid hb1; clear hb1)
        | (go_at_call 93; refine (HX.out _).mono ?_; rintro e w2 ⟨rfl, rfl⟩)
        | (go_at_call 95; refine (HI.out _ HB1.out).mono ?_; rintro e w2 ⟨rfl, ho2, hb2⟩; have HO2 := Lib.hid ho2; have HB2 := Lib.hid hb2; clear ho2 hb2)
        | (go_at_call 94; refine (HR.out _ _ _ HO2.out HB2.out.size).mono ?_; rintro e w3 ⟨A', n', c', row, out, rfl, hi3, ho3, hb3⟩; have HI3 := Lib.hid hi3; have HO3 := Lib.hid ho3; have HB3 := Lib.hid hb3; clear hi3 ho3 hb3))
      have HT3 := Lib.hid (HT2.out _ _ _ _ c' _ _ HI3.out HO3.out)
      have HSZ := Lib.hid HB1.out.size
      have HBB : Hid (Below w.heap.size w w3) := Lib.hid (HB1.out.trans ((HB2.out.trans HB3.out).mono HSZ.out))
      obtain ⟨hr, ho⟩ := ins_is HI3.out
      cases ht : tabB out with
      | false =>
        rw [ht] at HT3
        have hb : insB ls x = false := by simp [insB, ho, ht]
        have HB := Lib.hid hb
        clear ht hb hr ho
        go_wp2_with (go_at_call 92; refine HT3.out.mono ?_; rintro e w4 ⟨rfl, hb4⟩; have HB4 := Lib.hid hb4; clear hb4)
        go_returns
        rw [HB.out, (ins_no HB.out).1, (ins_no HB.out).2]
        exact FreshLIB.nil_ret (HBB.out.trans (HB4.out.mono HBB.out.size))
      | true =>
        rw [ht] at HT3
        have hb : insB ls x = true := by simp [insB, ho, ht, HU.out, HXX.out]
        have HB := Lib.hid hb
        have HR := Lib.hid hr
        have HO := Lib.hid ho
        clear ht hb hr ho
        go_wp2_with (go_at_call 92; refine HT3.out.mono ?_; rintro e w4 ⟨rfl, hb4⟩; have HB4 := Lib.hid hb4; clear hb4)
        go_returns
        rw [HB.out, (ins_yes HB.out).1, (ins_yes HB.out).2, HR.out, HO.out]
        exact ⟨A', n', c', rfl, (HO3.out.below HB4.out (Nat.le_refl _)).wide HSZ.out HB4.out.size, HBB.out.trans (HB4.out.mono HBB.out.size)⟩
    · rw [decide_eq_false hx] at HX
      have hb : insB ls x = false := by simp [insB, hu]; intro a b; exact absurd ⟨a, b⟩ hx
      rw [hb, (ins_no hb).1, (ins_no hb).2]
      clear hu hs hne hb hx hf1 hf2
      go_enter Try.func48, Try.ntmps48
      go_wp2_with (first
        | (go_at_call 92; refine HT.out.mono ?_; rintro e w1 ⟨rfl, hb1⟩; have HB1 := Lib.hid hb1; clear hb1)
        | (go_at_call 93; refine (HX.out _).mono ?_; rintro e w2 ⟨rfl, rfl⟩))
      go_returns
      exact FreshLIB.nil_ret HB1.out
end Go.Proofs.Ytdkcngilmdpbgaa
