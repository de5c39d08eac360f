/-
  Puzzles: the model of both sides. No conditions.
-/
import Derived.Test.YtdkcngilmdpbgaaStrM
namespace Go.Proofs.Ytdkcngilmdpbgaa
open Go.RowKit

/-- The number of small triangles above a row. -/
def tri : Nat → Nat
  | 0 => 0
  | r + 1 => tri r + (r + 1)
theorem tri_succ (r : Nat) : tri (r + 1) = tri r + (r + 1) := rfl
theorem tri_le : ∀ {a b : Nat}, a ≤ b → tri a ≤ tri b
  | a, 0, h => by obtain rfl : a = 0 := by omega
                  exact Nat.le_refl _
  | a, b + 1, h => by
    by_cases e : a = b + 1
    · subst e; exact Nat.le_refl _
    · have := tri_le (a := a) (b := b) (by omega)
      rw [tri_succ]; omega
theorem tri_lt {a b k : Nat} (h : a < b) (hk : k ≤ a) : tri a + k < tri b := by
  have := tri_le (a := a + 1) (b := b) h
  rw [tri_succ] at this
  omega
theorem tri_small {r : Nat} (h : r ≤ 8) : tri r ≤ 36 := by
  have := tri_le (a := r) (b := 8) h
  have e : tri 8 = 36 := rfl
  omega
abbrev Tr := Int × Int × Int
/-- The right triples, in ascending order. -/
def rightL (wt : Bool) : List Tr := if wt then [(0, 0, 0), (0, 1, 2), (1, 0, 3), (1, 1, 1), (1, 2, 0), (2, 0, 1)] else [(0, 0, 0), (0, 1, 2), (1, 1, 1), (1, 2, 0), (2, 0, 1)]
/-- The small triangle k of a row, and the one on its tip ahead of it. -/
def triA (x1 x2 x3 : List Int) (r k : Nat) : Tr := (nth x1 (tri r + k), nth x2 (tri r + k), nth x3 (tri r + k))
def tipA (x1 x2 x3 : List Int) (r k : Nat) : Tr := (nth x1 (tri r + k), nth x2 (tri r + k - 1), nth x3 (tri (r - 1) + (k - 1)))
/-- The lists have the right lengths. -/
def lensP (s : Int) (x1 x2 x3 : List Int) : Prop := 1 ≤ s ∧ s ≤ 7 ∧ x1.length = tri s.toNat ∧ x2.length = tri s.toNat ∧ x3.length = tri s.toNat
def lensB (s : Int) (x1 x2 x3 : List Int) : Bool := decide (1 ≤ s) && decide (s ≤ 7) && decide (x1.length = tri s.toNat) && decide (x2.length = tri s.toNat) && decide (x3.length = tri s.toNat)
theorem lensB_iff (s : Int) (x1 x2 x3 : List Int) : lensB s x1 x2 x3 = true ↔ lensP s x1 x2 x3 := by simp [lensB, lensP, and_assoc]
/-- The sides of the whole triangle have no label but 0 and 1 in row r. -/
def sideP (m : Nat) (x1 x2 x3 : List Int) (r : Nat) : Prop :=
  (0 ≤ nth x1 (tri r) ∧ nth x1 (tri r) ≤ 1) ∧ (0 ≤ nth x2 (tri r + r) ∧ nth x2 (tri r + r) ≤ 1) ∧ (0 ≤ nth x3 (tri (m - 1) + r) ∧ nth x3 (tri (m - 1) + r) ≤ 1)
/-- Is it a puzzle (a weighted one). -/
def pzP (wt : Bool) (s : Int) (x1 x2 x3 : List Int) : Prop :=
  lensP s x1 x2 x3 ∧ (∀ r, r < s.toNat → ∀ k, k ≤ r → triA x1 x2 x3 r k ∈ rightL wt ∧ (0 < k → tipA x1 x2 x3 r k ∈ rightL wt)) ∧ ∀ r, r < s.toNat → sideP s.toNat x1 x2 x3 r
instance (m : Nat) (x1 x2 x3 : List Int) (r : Nat) : Decidable (sideP m x1 x2 x3 r) := by unfold sideP; infer_instance
def pzB (wt : Bool) (s : Int) (x1 x2 x3 : List Int) : Bool :=
  lensB s x1 x2 x3 && ((List.range s.toNat).all fun r => (List.range (r + 1)).all fun k => decide (triA x1 x2 x3 r k ∈ rightL wt) && (decide (k = 0) || decide (tipA x1 x2 x3 r k ∈ rightL wt))) && (List.range s.toNat).all fun r => decide (sideP s.toNat x1 x2 x3 r)
theorem pzB_iff (wt : Bool) (s : Int) (x1 x2 x3 : List Int) : pzB wt s x1 x2 x3 = true ↔ pzP wt s x1 x2 x3 := by
  unfold pzB pzP
  rw [Bool.and_eq_true, Bool.and_eq_true, lensB_iff, and_assoc]
  refine and_congr_right fun _ => and_congr ?_ (by simp)
  simp only [List.all_eq_true, List.mem_range, Bool.and_eq_true, Bool.or_eq_true, decide_eq_true_eq]
  constructor
  · intro h r hr k hk
    obtain ⟨h1, h2⟩ := h r hr k (by omega)
    exact ⟨h1, fun hk0 => h2.resolve_left (by omega)⟩
  · intro h r hr k hk
    obtain ⟨h1, h2⟩ := h r hr k (by omega)
    refine ⟨h1, ?_⟩
    by_cases e : k = 0
    · exact .inl e
    · exact .inr (h2 (by omega))
theorem pzB_true {wt : Bool} {s : Int} {x1 x2 x3 : List Int} (h : pzP wt s x1 x2 x3) : pzB wt s x1 x2 x3 = true := (pzB_iff _ _ _ _ _).2 h
theorem pzB_false {wt : Bool} {s : Int} {x1 x2 x3 : List Int} (h : ¬ pzP wt s x1 x2 x3) : pzB wt s x1 x2 x3 = false := by
  cases hb : pzB wt s x1 x2 x3 with
  | false => rfl
  | true => exact absurd ((pzB_iff _ _ _ _ _).1 hb) h
/-- The label below two others, and that at the right side of a small triangle on its tip. -/
def upF (l r : Int) (wt : Bool) : Int :=
  if l = r ∧ l ≤ 1 then l else if l = 0 ∧ r = 1 then 2 else if l = 1 ∧ r = 2 then 0 else if l = 2 ∧ r = 0 then 1 else if l = 1 ∧ r = 0 ∧ wt = true then 3 else -1
def dnF (l t : Int) : Int :=
  if l = t ∧ l ≤ 1 then l else if l = 1 ∧ t = 2 then 0 else if l = 2 ∧ t = 0 then 1 else if l = 0 ∧ t = 1 then 2 else if l = 0 ∧ t = 3 then 1 else -1
theorem right_mem {wt : Bool} {l r b : Int} : (l, r, b) ∈ rightL wt ↔ (l = 0 ∧ r = 0 ∧ b = 0 ∨ l = 0 ∧ r = 1 ∧ b = 2 ∨ (wt = true ∧ l = 1 ∧ r = 0 ∧ b = 3) ∨ l = 1 ∧ r = 1 ∧ b = 1 ∨ l = 1 ∧ r = 2 ∧ b = 0 ∨ l = 2 ∧ r = 0 ∧ b = 1) := by
  cases wt <;> simp [rightL]
theorem mem_right {wt : Bool} {l r b : Int} (h : (l, r, b) ∈ rightL wt) : (0 ≤ l ∧ l ≤ 2) ∧ (0 ≤ r ∧ r ≤ 2) ∧ (0 ≤ b ∧ b ≤ 3) ∧ upF l r wt = b := by
  rcases right_mem.1 h with ⟨rfl, rfl, rfl⟩ | ⟨rfl, rfl, rfl⟩ | ⟨rfl, rfl, rfl, rfl⟩ | ⟨rfl, rfl, rfl⟩ | ⟨rfl, rfl, rfl⟩ | ⟨rfl, rfl, rfl⟩ <;> simp [upF]
theorem up_right {wt : Bool} {l r b : Int} (hl : 0 ≤ l ∧ l ≤ 2) (hr : 0 ≤ r ∧ r ≤ 2) (hb : 0 ≤ b) (h : upF l r wt = b) : (l, r, b) ∈ rightL wt := by
  have h1 : l = 0 ∨ l = 1 ∨ l = 2 := by omega
  have h2 : r = 0 ∨ r = 1 ∨ r = 2 := by omega
  rw [right_mem]
  rcases h1 with rfl | rfl | rfl <;> rcases h2 with rfl | rfl | rfl <;> cases wt <;> simp [upF] at h <;> simp <;> omega
theorem tip_right {wt : Bool} {l r b : Int} (h : (l, r, b) ∈ rightL wt) : dnF r b = l := by
  rcases right_mem.1 h with ⟨rfl, rfl, rfl⟩ | ⟨rfl, rfl, rfl⟩ | ⟨rfl, rfl, rfl, rfl⟩ | ⟨rfl, rfl, rfl⟩ | ⟨rfl, rfl, rfl⟩ | ⟨rfl, rfl, rfl⟩ <;> simp [dnF]
theorem right_tip {wt : Bool} {l r b : Int} (hl : 0 ≤ l ∧ l ≤ 2) (hr : 0 ≤ r ∧ r ≤ 2) (hb : 0 ≤ b ∧ b ≤ 3) (hw : b = 3 → wt = true) (h : dnF r b = l) : (l, r, b) ∈ rightL wt := by
  have h1 : r = 0 ∨ r = 1 ∨ r = 2 := by omega
  have h2 : b = 0 ∨ b = 1 ∨ b = 2 ∨ b = 3 := by omega
  rw [right_mem]
  rcases h1 with rfl | rfl | rfl <;> rcases h2 with rfl | rfl | rfl | rfl <;> simp [dnF] at h <;> simp <;> first | omega | (have := hw rfl; simp_all; done) | (simp_all; done)
theorem mem_three {wt : Bool} {l r b : Int} (h : (l, r, b) ∈ rightL wt) (h3 : b = 3) : wt = true := by
  subst h3
  rcases right_mem.1 h with ⟨_, _, h⟩ | ⟨_, _, h⟩ | ⟨h, _⟩ | ⟨_, _, h⟩ | ⟨_, _, h⟩ | ⟨_, _, h⟩ <;> first | exact h | omega
/-- What the document asks at a small triangle. -/
def atP (wt : Bool) (m : Nat) (x1 x2 x3 : List Int) (r k : Nat) : Prop :=
  (0 ≤ nth x1 (tri r + k) ∧ nth x1 (tri r + k) ≤ 2) ∧ (0 ≤ nth x2 (tri r + k) ∧ nth x2 (tri r + k) ≤ 2) ∧ 0 ≤ nth x3 (tri r + k) ∧ upF (nth x1 (tri r + k)) (nth x2 (tri r + k)) wt = nth x3 (tri r + k) ∧
  (k < r → dnF (nth x2 (tri r + k)) (nth x3 (tri (r - 1) + k)) = nth x1 (tri r + (k + 1))) ∧
  (r = m - 1 → nth x3 (tri r + k) ≤ 1) ∧ (k = 0 → nth x1 (tri r + k) ≤ 1) ∧ (k = r → nth x2 (tri r + k) ≤ 1)
theorem at_of_pz {wt : Bool} {s : Int} {x1 x2 x3 : List Int} (h : pzP wt s x1 x2 x3) {r k : Nat} (hr : r < s.toNat) (hk : k ≤ r) : atP wt s.toNat x1 x2 x3 r k := by
  obtain ⟨_, ht, hs⟩ := h
  obtain ⟨h1, h2, h3, h4⟩ := mem_right (ht r hr k hk).1
  refine ⟨h1, h2, h3.1, h4, fun hkr => ?_, fun e => ?_, fun e => ?_, fun e => ?_⟩
  · have h5 := tip_right ((ht r hr (k + 1) (by omega)).2 (by omega))
    have e1 : tri r + (k + 1) - 1 = tri r + k := by omega
    have e2 : k + 1 - 1 = k := by omega
    rw [e1, e2] at h5
    exact h5
  · have h5 := (hs k (by omega)).2.2.2
    rw [e]; exact h5
  · subst e; exact (hs r hr).1.2
  · subst e; exact (hs k hr).2.1.2
theorem pz_of_at {wt : Bool} {s : Int} {x1 x2 x3 : List Int} (hl : lensP s x1 x2 x3) (h : ∀ r, r < s.toNat → ∀ k, k ≤ r → atP wt s.toNat x1 x2 x3 r k) : pzP wt s x1 x2 x3 := by
  have hT : ∀ r, r < s.toNat → ∀ k, k ≤ r → triA x1 x2 x3 r k ∈ rightL wt := fun r hr k hk => by
    obtain ⟨h1, h2, h3, h4, _⟩ := h r hr k hk
    exact up_right h1 h2 h3 h4
  refine ⟨hl, fun r hr k hk => ⟨hT r hr k hk, fun hk0 => ?_⟩, fun r hr => ⟨?_, ?_, ?_⟩⟩
  · obtain ⟨k, rfl⟩ : ∃ j, k = j + 1 := ⟨k - 1, by omega⟩
    have h5 := (h r hr k (by omega)).2.2.2.2.1 (by omega)
    have h6 := hT (r - 1) (by omega) k (by omega)
    obtain ⟨_, _, h7, _⟩ := mem_right h6
    have h8 := h r hr k (by omega)
    have h9 := h r hr (k + 1) hk
    have e1 : tri r + (k + 1) - 1 = tri r + k := by omega
    have e2 : k + 1 - 1 = k := by omega
    unfold tipA
    rw [e1, e2]
    exact right_tip h9.1 h8.2.1 h7 (fun e => mem_three h6 e) h5
  · have h1 := h r hr 0 (by omega)
    exact ⟨h1.1.1, h1.2.2.2.2.2.2.1 rfl⟩
  · have h1 := h r hr r (Nat.le_refl _)
    exact ⟨h1.2.1.1, h1.2.2.2.2.2.2.2 rfl⟩
  · have h1 := h (s.toNat - 1) (by omega) r (by omega)
    exact ⟨h1.2.2.1, h1.2.2.2.2.2.1 rfl⟩
/-- The three sides. -/
def sdA (m : Nat) (x1 : List Int) : List Int := (List.range m).map fun j => nth x1 (tri (m - 1 - j))
def sdB (m : Nat) (x2 : List Int) : List Int := (List.range m).map fun j => nth x2 (tri j + j)
def sdC (m : Nat) (x3 : List Int) : List Int := (List.range m).map fun j => nth x3 (tri (m - 1) + j)
theorem sdA_len (m : Nat) (x : List Int) : (sdA m x).length = m := by simp [sdA]
theorem sdB_len (m : Nat) (x : List Int) : (sdB m x).length = m := by simp [sdB]
theorem sdC_len (m : Nat) (x : List Int) : (sdC m x).length = m := by simp [sdC]
theorem sdA_nth {m : Nat} {x : List Int} {j : Nat} (h : j < m) : nth (sdA m x) j = nth x (tri (m - 1 - j)) := by rw [nth_get (by rw [sdA_len]; exact h)]; simp [sdA]
theorem sdB_nth {m : Nat} {x : List Int} {j : Nat} (h : j < m) : nth (sdB m x) j = nth x (tri j + j) := by rw [nth_get (by rw [sdB_len]; exact h)]; simp [sdB]
theorem sdC_nth {m : Nat} {x : List Int} {j : Nat} (h : j < m) : nth (sdC m x) j = nth x (tri (m - 1) + j) := by rw [nth_get (by rw [sdC_len]; exact h)]; simp [sdC]
theorem side_strings {s : Int} {x1 x2 x3 : List Int} (hl : lensP s x1 x2 x3) : (strP (sdA s.toNat x1) ∧ strP (sdB s.toNat x2) ∧ strP (sdC s.toNat x3)) ↔ ∀ r, r < s.toNat → sideP s.toNat x1 x2 x3 r := by
  have h1 := hl.1
  have h7 := hl.2.1
  constructor
  · rintro ⟨ha, hb, hc⟩ r hr
    have a := ha.2.2 (s.toNat - 1 - r) (by rw [sdA_len]; omega)
    have b := hb.2.2 r (by rw [sdB_len]; omega)
    have c := hc.2.2 r (by rw [sdC_len]; omega)
    rw [sdA_nth (by omega), show s.toNat - 1 - (s.toNat - 1 - r) = r by omega] at a
    rw [sdB_nth hr] at b
    rw [sdC_nth hr] at c
    exact ⟨a, b, c⟩
  · intro h
    refine ⟨⟨by rw [sdA_len]; omega, by rw [sdA_len]; omega, fun k hk => ?_⟩, ⟨by rw [sdB_len]; omega, by rw [sdB_len]; omega, fun k hk => ?_⟩, ⟨by rw [sdC_len]; omega, by rw [sdC_len]; omega, fun k hk => ?_⟩⟩
    · rw [sdA_len] at hk; rw [sdA_nth hk]; exact (h _ (by omega)).1
    · rw [sdB_len] at hk; rw [sdB_nth hk]; exact (h _ hk).2.1
    · rw [sdC_len] at hk; rw [sdC_nth hk]; exact (h _ hk).2.2
end Go.Proofs.Ytdkcngilmdpbgaa
