/-
  InsertNumber on the document's side. Conditions: lengths below 2^40.
-/
import Derived.Test.YtdkcngilmdpbgaaInsN
import Derived.Test.YtdkcngilmdpbgaaInsS
namespace Go.Proofs.Ytdkcngilmdpbgaa
open Go.RowKit

set_option maxHeartbeats 3200000 in
theorem specInsert_any (A : Option Addr) (n c : Nat) (ls : List (List Int)) (x : Int) (w : World) (hs : LS w A n ls) (hn : n ≤ 1099511627776) (hne : ∀ k, k < n → (li ls k).length ≤ 1099511627776) :
    Calls Try.prog 46 #[.slice A n c, .int .i64 x] w fun e w' => FreshLIB w w' e (insL ls x) (insKI ls x) (insB ls x) := by
  have HT := Lib.hid (specTab_any A n c ls w hs hn hne)
  cases hu : tabB ls with
  | false =>
    rw [hu] at HT
    have hb : insB ls x = false := by simp [insB, hu]
    rw [hb, (ins_no hb).1, (ins_no hb).2]
    clear hu hs hne hb
    go_enter Try.func46, Try.ntmps46
    go_wp2_with (go_at_call 90; refine HT.out.mono ?_; rintro e w1 ⟨rfl, hd1⟩; have HB1 : Hid (Below w.heap.size w w1) := Lib.hid (hd1.below _); clear hd1)
    go_returns
    exact FreshLIB.nil_ret HB1.out
  | true =>
    rw [hu] at HT
    obtain ⟨hf1, hf2⟩ := tab_few hu
    by_cases hx : 0 ≤ x ∧ x ≤ 20
    · have HX := Lib.hid (l1In_yes' hx.1 hx.2)
      have HI := Lib.hid (fun w1 (hd : Drawn w w1) => l4Insert_any A n c ls x w1 (hs.below (hd.below _) (Nat.le_refl _)) hn hne)
      have HT2 := Lib.hid (fun (w2 : World) (lo : Nat) (A' : Option Addr) (n' c' : Nat) (out : List (List Int)) (row : Nat) (h1 : InsIs ls x out row) (h2 : OwnL w2 lo w2.heap.size A' n' c' out) => specTab_any A' n' c' out w2 h2.si (by have := (ins_few h1).1; have := h2.si.1; omega) (fun k _ => by have := (ins_few h1).2 k; have := hf2 k; omega))
      have HU := Lib.hid hu
      have HXX := Lib.hid hx
      clear hu hs hne hx hf1 hf2
      go_enter Try.func46, Try.ntmps46
      go_upto_region 4 with (first
        | (go_at_call 90; refine HT.out.mono ?_; rintro e w1 ⟨rfl, hd1⟩; have HD1 := Lib.hid hd1; clear hd1)
        | (go_at_call 70; refine (HX.out _).mono ?_; rintro e w2 ⟨rfl, rfl⟩)
        | (go_at_call 91; refine (HI.out _ HD1.out).mono ?_; rintro e w3 ⟨A', n', c', row, out, rfl, hi3, ho3, hb3⟩; have HI3 := Lib.hid hi3; have HO3 := Lib.hid ho3; have HB3 := Lib.hid hb3; clear hi3 ho3 hb3))
      have HT3 := Lib.hid (HT2.out _ _ _ _ c' _ _ HI3.out HO3.out)
      have HSZ := Lib.hid (HD1.out.below w.heap.size).size
      have HBB : Hid (Below w.heap.size w w3) := Lib.hid ((HD1.out.below _).trans (HB3.out.mono HSZ.out))
      obtain ⟨hr, ho⟩ := ins_is HI3.out
      cases ht : tabB out with
      | false =>
        rw [ht] at HT3
        have hb : insB ls x = false := by simp [insB, ho, ht]
        have HB := Lib.hid hb
        clear ht hb hr ho
        go_wp2_with (go_at_call 90; refine HT3.out.mono ?_; rintro e w4 ⟨rfl, hd4⟩; have HD4 := Lib.hid hd4; clear hd4)
        go_returns
        rw [HB.out, (ins_no HB.out).1, (ins_no HB.out).2]
        exact FreshLIB.nil_ret (HBB.out.trans (HD4.out.below _))
      | true =>
        rw [ht] at HT3
        have hb : insB ls x = true := by simp [insB, ho, ht, HU.out, HXX.out]
        have HB := Lib.hid hb
        have HR := Lib.hid hr
        have HO := Lib.hid ho
        clear ht hb hr ho
        go_wp2_with (go_at_call 90; refine HT3.out.mono ?_; rintro e w4 ⟨rfl, hd4⟩; have HD4 := Lib.hid hd4; clear hd4)
        go_returns
        rw [HB.out, (ins_yes HB.out).1, (ins_yes HB.out).2, HR.out, HO.out]
        exact ⟨A', n', c', rfl, (HO3.out.below (HD4.out.below _) (Nat.le_refl _)).wide HSZ.out (HD4.out.below w3.heap.size).size, HBB.out.trans (HD4.out.below _)⟩
    · have HX := Lib.hid (l1In_no' (a := x) (lo := 0) (hi := 20) (by omega))
      have hb : insB ls x = false := by simp [insB, hu]; intro a b; exact absurd ⟨a, b⟩ hx
      rw [hb, (ins_no hb).1, (ins_no hb).2]
      clear hu hs hne hb hx hf1 hf2
      go_enter Try.func46, Try.ntmps46
      go_wp2_with (first
        | (go_at_call 90; refine HT.out.mono ?_; rintro e w1 ⟨rfl, hd1⟩; have HB1 : Hid (Below w.heap.size w w1) := Lib.hid (hd1.below _); clear hd1)
        | (go_at_call 70; refine (HX.out _).mono ?_; rintro e w2 ⟨rfl, rfl⟩))
      go_returns
      exact FreshLIB.nil_ret HB1.out
end Go.Proofs.Ytdkcngilmdpbgaa
