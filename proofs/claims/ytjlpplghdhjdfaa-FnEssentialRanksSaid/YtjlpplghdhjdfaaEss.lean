/-
  Essential cells, on both sides. Conditions: lengths below 2^40.
-/
import Derived.Test.YtjlpplghdhjdfaaDiaI
namespace Go.Proofs.Ytjlpplghdhjdfaa
open Go.RowKit

theorem dRow_mem {bk : List Int} {i : Nat} {x : Ce} : ∀ {m : Nat}, x ∈ dRow bk i m → x.1 = (i : Int) ∧ 0 ≤ x.2 ∧ x.2 < (m : Int)
  | 0, h => by simp [dRow] at h
  | m + 1, h => by
    by_cases hk : (i : Int) < nth bk m
    · rw [dRow_hit hk, List.mem_append] at h
      rcases h with h | h
      · have := dRow_mem h; omega
      · simp at h; subst h; simp; omega
    · rw [dRow_miss hk] at h
      have := dRow_mem h; omega
theorem dAll_mem {xs bk : List Int} (h7 : ∀ i, i < xs.length → nth xs i < 7) {x : Ce} : ∀ {k : Nat}, k ≤ xs.length → x ∈ dAll xs bk k → 0 ≤ x.1 ∧ x.1 < (k : Int) ∧ 0 ≤ x.2 ∧ x.2 < 7
  | 0, _, h => by simp [dAll] at h
  | k + 1, hk, h => by
    have e : dAll xs bk (k + 1) = dAll xs bk k ++ dRow bk k (nth xs k).toNat := rfl
    rw [e, List.mem_append] at h
    rcases h with h | h
    · have := dAll_mem h7 (by omega) h; omega
    · have := dRow_mem h
      have := h7 k (by omega)
      omega
theorem diaPerm_mem {xs : List Int} {x : Ce} (h : x ∈ diaPerm xs) : 0 ≤ x.1 ∧ x.1 < 7 ∧ 0 ≤ x.2 ∧ x.2 < 7 := by
  cases hu : isPermB xs with
  | false => rw [diaPerm_no hu] at h; simp at h
  | true =>
    rw [diaPerm_yes hu] at h
    have hp := isPermB_P hu
    have h7 := hp.2.1
    have := dAll_mem (fun i hi => by have := (hp.range i hi).2; omega) (Nat.le_refl _) h
    omega
theorem ce_mem {cs : List Ce} {k : Nat} (h : k < cs.length) : ce cs k ∈ cs := by rw [ce_get h]; exact List.getElem_mem h
/-- Is the cell among them (not unfolded by the walk). -/
def hasC (cs : List Ce) (x : Ce) : Bool := decide (x ∈ cs)
theorem hasC_hit {cs : List Ce} {k : Nat} {x : Ce} (h : k < cs.length) (e : ce cs k = x) : hasC cs x = true := by
  unfold hasC; rw [← e]; exact decide_eq_true (ce_mem h)
theorem hasC_all {cs : List Ce} {x : Ce} (h : ∀ j, j < cs.length → ce cs j ≠ x) : hasC cs x = false := by
  unfold hasC
  apply decide_eq_false
  intro hm
  obtain ⟨j, hj, e⟩ := List.getElem_of_mem hm
  exact h j hj (by rw [ce_get hj]; exact e)

set_option maxHeartbeats 800000 in
theorem indexC_any (A : Option Addr) (n c : Nat) (cs : List Ce) (x y : Int) (w : World) (hs : CS w A n cs) (hn : n ≤ 1099511627776) :
    Calls Try.prog 89 #[.slice A n c, .agg #[.int .i64 x, .int .i64 y]] w fun e w' => (∃ r : Int, e = .returned (.int .i64 r) ∧ decide (0 ≤ r) = hasC cs (x, y)) ∧ Below w.heap.size w w' := by
  have HL := Lib.hid hs.1
  have hb0 : Below w.heap.size w (w.alloc (.cells #[.int .i64 x, .int .i64 y] 46)) := by go_grown
  have hK0 := Blk.new w 46 #[.int .i64 x, .int .i64 y]
  have hs0 := hs.below hb0 (Nat.le_refl _)
  have HB := Lib.hid hb0
  have HK := Lib.hid hK0
  clear hb0 hs hK0
  go_enter Try.func89, Try.ntmps89
  go_wp2
  obtain ⟨g, hg⟩ : ∃ g, g = w.heap.size := ⟨_, rfl⟩
  rw [← hg] at HK ⊢
  clear hg
  generalize (w.alloc (.cells #[.int .i64 x, .int .i64 y] 46)) = w0 at *
  go_loopw [8] (fun i wr => ∃ k : Nat, k ≤ n ∧ i = .int .i64 k ∧ (∀ j, j < k → ce cs j ≠ (x, y)) ∧ Drawn w0 wr)
    (fun i _ => n - (intOf i).toNat)
  case atStart => exact ⟨0, Nat.zero_le _, rfl, fun j hj => absurd hj (by omega), Drawn.refl _⟩
  case round =>
    obtain ⟨k, hk, rfl, hall, hD⟩ := hrel
    have HA := Lib.hid hall
    have HD := Lib.hid hD
    have hcs := hs0.drawn hD
    have K := HK.out.drawn hD
    have hd0 : wr.cell? ⟨g, 0, none⟩ = some (.int .i64 x) := K.cell 0
    have hd1 : wr.cell? ⟨g, 1, none⟩ = some (.int .i64 y) := K.cell 1
    clear hall hD hs0 K
    by_cases hlt : k < n
    · have hlI : (k : Int) < (n : Int) := by omega
      obtain ⟨b, o, rfl, hb, hc0, hc1⟩ := hcs.at_ hlt
      obtain ⟨p, hp⟩ : ∃ p, p = (ce cs k).1 := ⟨_, rfl⟩
      obtain ⟨q, hq⟩ : ∃ q, q = (ce cs k).2 := ⟨_, rfl⟩
      have hpq : ce cs k = (p, q) := by rw [hp, hq]
      rw [← hp] at hc0
      rw [← hq] at hc1
      have HPQ := Lib.hid hpq
      clear hcs hp hq hpq
      by_cases h1 : p = x
      · subst h1
        by_cases h2 : q = y
        · subst h2
          go_wp2_with fail
          go_quiet (fail)
          go_wp2
          go_ret
          exact ⟨⟨_, rfl, by rw [hasC_hit (by rw [HL.out]; exact hlt) HPQ.out]; simp⟩, HB.out.trans ((HD.out.drewN _).below _)⟩
        · have hb2 : (y == q) = false := by simpa using fun e => h2 e.symm
          have H2 := Lib.hid h2
          clear h2
          go_wp2_with fail
          go_quiet (fail)
          go_wp2
          go_roundw
          case rel => exact ⟨k + 1, by omega, by go_num, fun j hj => by
            rcases Nat.lt_or_ge j k with h | h
            · exact HA.out j h
            · obtain rfl : j = k := by omega
              rw [HPQ.out]; intro e; injection e with _ e; exact H2.out e, HD.out.drewN _⟩
          case measure => simp [intOf]; omega
      · have hb1 : (x == p) = false := by simpa using fun e => h1 e.symm
        have H1 := Lib.hid h1
        clear h1
        go_wp2_with fail
        go_quiet (fail)
        go_wp2
        go_roundw
        case rel => exact ⟨k + 1, by omega, by go_num, fun j hj => by
          rcases Nat.lt_or_ge j k with h | h
          · exact HA.out j h
          · obtain rfl : j = k := by omega
            rw [HPQ.out]; intro e; injection e with e _; exact H1.out e, HD.out.drewN _⟩
        case measure => simp [intOf]; omega
    · have hkn : k = n := by omega
      subst hkn
      go_wp2
      go_ret
      exact ⟨⟨_, rfl, by rw [hasC_all (by rw [HL.out]; exact HA.out)]; decide⟩, HB.out.trans (HD.out.below _)⟩

set_option maxHeartbeats 400000 in
theorem containsC_any (A : Option Addr) (n c : Nat) (cs : List Ce) (x y : Int) (w : World) (hs : CS w A n cs) (hn : n ≤ 1099511627776) :
    Calls Try.prog 64 #[.slice A n c, .agg #[.int .i64 x, .int .i64 y]] w fun e w' => e = .returned (.bool (hasC cs (x, y))) ∧ Below w.heap.size w w' := by
  have hb0 : Below w.heap.size w (w.alloc (.cells #[.int .i64 x, .int .i64 y] 46)) := by go_grown
  have hI := indexC_any A n c cs x y (w.alloc (.cells #[.int .i64 x, .int .i64 y] 46)) (hs.below hb0 (Nat.le_refl _)) hn
  have HI := Lib.hid hI
  have HB := Lib.hid hb0
  clear hI hb0 hs
  go_enter Try.func64, Try.ntmps64
  go_wp2_with fail
  refine HI.out.mono ?_
  rintro e w1 ⟨⟨r, rfl, hr⟩, hb⟩
  have HR := Lib.hid hr
  clear hr
  go_wp2
  go_ret
  exact ⟨ret_bool HR.out, HB.out.trans (hb.mono HB.out.size)⟩

/-- The essential ones among the first k cells. -/
def essL (cs : List Ce) : Nat → List Ce
  | 0 => []
  | k + 1 => if hasC cs ((ce cs k).1 + 1, (ce cs k).2) = false ∧ hasC cs ((ce cs k).1, (ce cs k).2 + 1) = false then essL cs k ++ [ce cs k] else essL cs k
theorem essL_len (cs : List Ce) : ∀ k, (essL cs k).length ≤ k
  | 0 => by simp [essL]
  | k + 1 => by
    have := essL_len cs k
    unfold essL
    split <;> simp <;> omega
theorem essL_hit {cs : List Ce} {k : Nat} (h1 : hasC cs ((ce cs k).1 + 1, (ce cs k).2) = false) (h2 : hasC cs ((ce cs k).1, (ce cs k).2 + 1) = false) : essL cs (k + 1) = essL cs k ++ [ce cs k] := by
  show (if _ then _ else _) = _; rw [if_pos ⟨h1, h2⟩]
theorem essL_miss {cs : List Ce} {k : Nat} (h : hasC cs ((ce cs k).1 + 1, (ce cs k).2) = true ∨ hasC cs ((ce cs k).1, (ce cs k).2 + 1) = true) : essL cs (k + 1) = essL cs k := by
  show (if _ then _ else _) = _
  rw [if_neg]
  rintro ⟨h1, h2⟩
  rcases h with h | h
  · rw [h1] at h; cases h
  · rw [h2] at h; cases h
def essPerm (xs : List Int) : List Ce := essL (diaPerm xs) (diaPerm xs).length
theorem essPerm_small (xs : List Int) : (essPerm xs).length ≤ 49 := Nat.le_trans (essL_len _ _) (diaPerm_small xs)

end Go.Proofs.Ytjlpplghdhjdfaa
