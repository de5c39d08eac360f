/-
  Parts of reduced words: what the law asks, of the plain lists; at0. Conditions: the length is at most 5.
-/
import Derived.Test.YtoogmghmnfljjaaDrawWord
namespace Go.Proofs.Ytoogmghmnfljjaa
open Go.RowKit

theorem belowPerm_true {us vs : List Int} (h1 : isPermP us) (h2 : isPermP vs) (hl : us.length = vs.length) (h : belowP us vs us.length) : belowPerm us vs = true := by
  unfold belowPerm
  rw [isPermB_true h1, isPermB_true h2, belowB_true h, decide_eq_true hl]; rfl
theorem sub_facts {m : Nat} {ws part us : List Int} (hw : wordP (m : Int) ws) (hu : upTo (idL m) ws us) (h10 : ws.length ≤ 10) (h5 : m ≤ 5) (hP : PartP m ws part ws.length) (hpu : isPermP us) (hl : us.length = m) :
    playPerm true (m : Int) ws = us ∧ playPerm false (m : Int) ws = us ∧ (playPerm true (m : Int) part).length = m ∧ (playPerm false (m : Int) part).length = m ∧
    belowPerm (playPerm true (m : Int) part) us = true ∧ belowPerm (playPerm false (m : Int) part) us = true ∧ belowPerm (playPerm true (m : Int) part) (playPerm false (m : Int) part) = true := by
  have h7 : m ≤ 7 := by omega
  have hwB := (wordB_iff _ _).2 hw
  obtain ⟨p1, p2, p3, p4⟩ := hP
  have hpw : wordP (m : Int) part := ⟨hw.1, hw.2.1, by omega, p2⟩
  have hpB := (wordB_iff _ _).2 hpw
  have e1 := playPerm_yes (all := true) hwB
  have e2 := playPerm_yes (all := false) hwB
  have e3 := playPerm_yes (all := true) hpB
  have e4 := playPerm_yes (all := false) hpB
  have u1 := upTo_end h7 hu true
  have u2 := upTo_end h7 hu false
  have q1 := play_perm hpw h5 true part.length (Nat.le_refl _)
  have q2 := play_perm hpw h5 false part.length (Nat.le_refl _)
  have l1 := takeN part true part.length h7
  have l2 := takeN part false part.length h7
  rw [u1] at p4
  rw [e1, e2, e3, e4]
  refine ⟨u1, u2, l1, l2, ?_, ?_, ?_⟩
  · exact belowPerm_true q1 hpu (by omega) (by rw [l1]; exact belowP_trans p3 p4)
  · exact belowPerm_true q2 hpu (by omega) (by rw [l2]; exact p4)
  · exact belowPerm_true q1 q2 (by omega) (by rw [l1]; exact p3)
theorem at0_any (A : Option Addr) (n c k B : Nat) (bs : List Int) (w : World) (hs : SB w B A n bs) (hn : n ≤ 1048576) (hk : k ≤ 100) :
    Calls Try.prog 55 #[.slice A n c, .int .i64 k] w fun e w' => (∃ x : Int, e = .returned (.int .i64 x)) ∧ w' = w := by
  by_cases h : k < n
  · obtain ⟨b, o, rfl, hb, hc⟩ := hs.2.2 (by omega)
    have hc1 := hc k h
    obtain ⟨hy1, hy2⟩ := hs.2.1 k h
    obtain ⟨y, hy⟩ : ∃ y, y = nth bs k := ⟨_, rfl⟩
    rw [← hy] at hc1 hy1 hy2
    have hlI : (k : Int) < (n : Int) := by omega
    clear hc hs hy
    go_enter Try.func55, Try.ntmps55
    go_wp2
    go_ret
    exact ⟨⟨_, rfl⟩, rfl⟩
  · clear hs
    go_enter Try.func55, Try.ntmps55
    go_wp2
    go_ret
    exact ⟨⟨_, rfl⟩, rfl⟩
end Go.Proofs.Ytoogmghmnfljjaa
