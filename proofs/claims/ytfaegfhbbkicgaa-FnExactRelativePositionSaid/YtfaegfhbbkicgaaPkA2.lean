/-
  Texts PuzM to FlgM, merged. Conditions: as each says.
-/
import Derived.Deep.DeepAppendRoom
import Derived.Lib.AppendZeros
import Derived.Laws.CopyOwn
import Derived.Deep.Cut
import Derived.StillTailTactics
import Derived.BigRegion
import Derived.Test.YtfaegfhbbkicgaaPkA1
/-
  Puzzles: the model of both sides. No conditions.
-/

namespace Go.Proofs.Ytfaegfhbbkicgaa
open Go.RowKit

/-- The number of small triangles above a row. -/
def tri : Nat → Nat
  | 0 => 0
  | r + 1 => tri r + (r + 1)
theorem tri_succ (r : Nat) : tri (r + 1) = tri r + (r + 1) := rfl
theorem tri_le : ∀ {a b : Nat}, a ≤ b → tri a ≤ tri b
  | a, 0, h => by obtain rfl : a = 0 := by omega
                  exact Nat.le_refl _
  | a, b + 1, h => by
    by_cases e : a = b + 1
    · subst e; exact Nat.le_refl _
    · have := tri_le (a := a) (b := b) (by omega)
      rw [tri_succ]; omega
theorem tri_lt {a b k : Nat} (h : a < b) (hk : k ≤ a) : tri a + k < tri b := by
  have := tri_le (a := a + 1) (b := b) h
  rw [tri_succ] at this
  omega
theorem tri_small {r : Nat} (h : r ≤ 8) : tri r ≤ 36 := by
  have := tri_le (a := r) (b := 8) h
  have e : tri 8 = 36 := rfl
  omega
abbrev Tr := Int × Int × Int
/-- The right triples, in ascending order. -/
def rightL (wt : Bool) : List Tr := if wt then [(0, 0, 0), (0, 1, 2), (1, 0, 3), (1, 1, 1), (1, 2, 0), (2, 0, 1)] else [(0, 0, 0), (0, 1, 2), (1, 1, 1), (1, 2, 0), (2, 0, 1)]
/-- The small triangle k of a row, and the one on its tip ahead of it. -/
def triA (x1 x2 x3 : List Int) (r k : Nat) : Tr := (nth x1 (tri r + k), nth x2 (tri r + k), nth x3 (tri r + k))
def tipA (x1 x2 x3 : List Int) (r k : Nat) : Tr := (nth x1 (tri r + k), nth x2 (tri r + k - 1), nth x3 (tri (r - 1) + (k - 1)))
/-- The lists have the right lengths. -/
def lensP (s : Int) (x1 x2 x3 : List Int) : Prop := 1 ≤ s ∧ s ≤ 7 ∧ x1.length = tri s.toNat ∧ x2.length = tri s.toNat ∧ x3.length = tri s.toNat
def lensB (s : Int) (x1 x2 x3 : List Int) : Bool := decide (1 ≤ s) && decide (s ≤ 7) && decide (x1.length = tri s.toNat) && decide (x2.length = tri s.toNat) && decide (x3.length = tri s.toNat)
theorem lensB_iff (s : Int) (x1 x2 x3 : List Int) : lensB s x1 x2 x3 = true ↔ lensP s x1 x2 x3 := by simp [lensB, lensP, and_assoc]
/-- The sides of the whole triangle have no label but 0 and 1 in row r. -/
def sideP (m : Nat) (x1 x2 x3 : List Int) (r : Nat) : Prop :=
  (0 ≤ nth x1 (tri r) ∧ nth x1 (tri r) ≤ 1) ∧ (0 ≤ nth x2 (tri r + r) ∧ nth x2 (tri r + r) ≤ 1) ∧ (0 ≤ nth x3 (tri (m - 1) + r) ∧ nth x3 (tri (m - 1) + r) ≤ 1)
/-- Is it a puzzle (a weighted one). -/
def pzP (wt : Bool) (s : Int) (x1 x2 x3 : List Int) : Prop :=
  lensP s x1 x2 x3 ∧ (∀ r, r < s.toNat → ∀ k, k ≤ r → triA x1 x2 x3 r k ∈ rightL wt ∧ (0 < k → tipA x1 x2 x3 r k ∈ rightL wt)) ∧ ∀ r, r < s.toNat → sideP s.toNat x1 x2 x3 r
instance (m : Nat) (x1 x2 x3 : List Int) (r : Nat) : Decidable (sideP m x1 x2 x3 r) := by unfold sideP; infer_instance
def pzB (wt : Bool) (s : Int) (x1 x2 x3 : List Int) : Bool :=
  lensB s x1 x2 x3 && ((List.range s.toNat).all fun r => (List.range (r + 1)).all fun k => decide (triA x1 x2 x3 r k ∈ rightL wt) && (decide (k = 0) || decide (tipA x1 x2 x3 r k ∈ rightL wt))) && (List.range s.toNat).all fun r => decide (sideP s.toNat x1 x2 x3 r)
theorem pzB_iff (wt : Bool) (s : Int) (x1 x2 x3 : List Int) : pzB wt s x1 x2 x3 = true ↔ pzP wt s x1 x2 x3 := by
  unfold pzB pzP
  rw [Bool.and_eq_true, Bool.and_eq_true, lensB_iff, and_assoc]
  refine and_congr_right fun _ => and_congr ?_ (by simp)
  simp only [List.all_eq_true, List.mem_range, Bool.and_eq_true, Bool.or_eq_true, decide_eq_true_eq]
  constructor
  · intro h r hr k hk
    obtain ⟨h1, h2⟩ := h r hr k (by omega)
    exact ⟨h1, fun hk0 => h2.resolve_left (by omega)⟩
  · intro h r hr k hk
    obtain ⟨h1, h2⟩ := h r hr k (by omega)
    refine ⟨h1, ?_⟩
    by_cases e : k = 0
    · exact .inl e
    · exact .inr (h2 (by omega))
theorem pzB_true {wt : Bool} {s : Int} {x1 x2 x3 : List Int} (h : pzP wt s x1 x2 x3) : pzB wt s x1 x2 x3 = true := (pzB_iff _ _ _ _ _).2 h
theorem pzB_false {wt : Bool} {s : Int} {x1 x2 x3 : List Int} (h : ¬ pzP wt s x1 x2 x3) : pzB wt s x1 x2 x3 = false := by
  cases hb : pzB wt s x1 x2 x3 with
  | false => rfl
  | true => exact absurd ((pzB_iff _ _ _ _ _).1 hb) h
/-- The label below two others, and that at the right side of a small triangle on its tip. -/
def upF (l r : Int) (wt : Bool) : Int :=
  if l = r ∧ l ≤ 1 then l else if l = 0 ∧ r = 1 then 2 else if l = 1 ∧ r = 2 then 0 else if l = 2 ∧ r = 0 then 1 else if l = 1 ∧ r = 0 ∧ wt = true then 3 else -1
def dnF (l t : Int) : Int :=
  if l = t ∧ l ≤ 1 then l else if l = 1 ∧ t = 2 then 0 else if l = 2 ∧ t = 0 then 1 else if l = 0 ∧ t = 1 then 2 else if l = 0 ∧ t = 3 then 1 else -1
theorem right_mem {wt : Bool} {l r b : Int} : (l, r, b) ∈ rightL wt ↔ (l = 0 ∧ r = 0 ∧ b = 0 ∨ l = 0 ∧ r = 1 ∧ b = 2 ∨ (wt = true ∧ l = 1 ∧ r = 0 ∧ b = 3) ∨ l = 1 ∧ r = 1 ∧ b = 1 ∨ l = 1 ∧ r = 2 ∧ b = 0 ∨ l = 2 ∧ r = 0 ∧ b = 1) := by
  cases wt <;> simp [rightL]
theorem mem_right {wt : Bool} {l r b : Int} (h : (l, r, b) ∈ rightL wt) : (0 ≤ l ∧ l ≤ 2) ∧ (0 ≤ r ∧ r ≤ 2) ∧ (0 ≤ b ∧ b ≤ 3) ∧ upF l r wt = b := by
  rcases right_mem.1 h with ⟨rfl, rfl, rfl⟩ | ⟨rfl, rfl, rfl⟩ | ⟨rfl, rfl, rfl, rfl⟩ | ⟨rfl, rfl, rfl⟩ | ⟨rfl, rfl, rfl⟩ | ⟨rfl, rfl, rfl⟩ <;> simp [upF]
theorem up_right {wt : Bool} {l r b : Int} (hl : 0 ≤ l ∧ l ≤ 2) (hr : 0 ≤ r ∧ r ≤ 2) (hb : 0 ≤ b) (h : upF l r wt = b) : (l, r, b) ∈ rightL wt := by
  have h1 : l = 0 ∨ l = 1 ∨ l = 2 := by omega
  have h2 : r = 0 ∨ r = 1 ∨ r = 2 := by omega
  rw [right_mem]
  rcases h1 with rfl | rfl | rfl <;> rcases h2 with rfl | rfl | rfl <;> cases wt <;> simp [upF] at h <;> simp <;> omega
theorem tip_right {wt : Bool} {l r b : Int} (h : (l, r, b) ∈ rightL wt) : dnF r b = l := by
  rcases right_mem.1 h with ⟨rfl, rfl, rfl⟩ | ⟨rfl, rfl, rfl⟩ | ⟨rfl, rfl, rfl, rfl⟩ | ⟨rfl, rfl, rfl⟩ | ⟨rfl, rfl, rfl⟩ | ⟨rfl, rfl, rfl⟩ <;> simp [dnF]
theorem right_tip {wt : Bool} {l r b : Int} (hl : 0 ≤ l ∧ l ≤ 2) (hr : 0 ≤ r ∧ r ≤ 2) (hb : 0 ≤ b ∧ b ≤ 3) (hw : b = 3 → wt = true) (h : dnF r b = l) : (l, r, b) ∈ rightL wt := by
  have h1 : r = 0 ∨ r = 1 ∨ r = 2 := by omega
  have h2 : b = 0 ∨ b = 1 ∨ b = 2 ∨ b = 3 := by omega
  rw [right_mem]
  rcases h1 with rfl | rfl | rfl <;> rcases h2 with rfl | rfl | rfl | rfl <;> simp [dnF] at h <;> simp <;> first | omega | (have := hw rfl; simp_all; done) | (simp_all; done)
theorem mem_three {wt : Bool} {l r b : Int} (h : (l, r, b) ∈ rightL wt) (h3 : b = 3) : wt = true := by
  subst h3
  rcases right_mem.1 h with ⟨_, _, h⟩ | ⟨_, _, h⟩ | ⟨h, _⟩ | ⟨_, _, h⟩ | ⟨_, _, h⟩ | ⟨_, _, h⟩ <;> first | exact h | omega
/-- What the document asks at a small triangle. -/
def atP (wt : Bool) (m : Nat) (x1 x2 x3 : List Int) (r k : Nat) : Prop :=
  (0 ≤ nth x1 (tri r + k) ∧ nth x1 (tri r + k) ≤ 2) ∧ (0 ≤ nth x2 (tri r + k) ∧ nth x2 (tri r + k) ≤ 2) ∧ 0 ≤ nth x3 (tri r + k) ∧ upF (nth x1 (tri r + k)) (nth x2 (tri r + k)) wt = nth x3 (tri r + k) ∧
  (k < r → dnF (nth x2 (tri r + k)) (nth x3 (tri (r - 1) + k)) = nth x1 (tri r + (k + 1))) ∧
  (r = m - 1 → nth x3 (tri r + k) ≤ 1) ∧ (k = 0 → nth x1 (tri r + k) ≤ 1) ∧ (k = r → nth x2 (tri r + k) ≤ 1)
theorem at_of_pz {wt : Bool} {s : Int} {x1 x2 x3 : List Int} (h : pzP wt s x1 x2 x3) {r k : Nat} (hr : r < s.toNat) (hk : k ≤ r) : atP wt s.toNat x1 x2 x3 r k := by
  obtain ⟨_, ht, hs⟩ := h
  obtain ⟨h1, h2, h3, h4⟩ := mem_right (ht r hr k hk).1
  refine ⟨h1, h2, h3.1, h4, fun hkr => ?_, fun e => ?_, fun e => ?_, fun e => ?_⟩
  · have h5 := tip_right ((ht r hr (k + 1) (by omega)).2 (by omega))
    have e1 : tri r + (k + 1) - 1 = tri r + k := by omega
    have e2 : k + 1 - 1 = k := by omega
    rw [e1, e2] at h5
    exact h5
  · have h5 := (hs k (by omega)).2.2.2
    rw [e]; exact h5
  · subst e; exact (hs r hr).1.2
  · subst e; exact (hs k hr).2.1.2
theorem pz_of_at {wt : Bool} {s : Int} {x1 x2 x3 : List Int} (hl : lensP s x1 x2 x3) (h : ∀ r, r < s.toNat → ∀ k, k ≤ r → atP wt s.toNat x1 x2 x3 r k) : pzP wt s x1 x2 x3 := by
  have hT : ∀ r, r < s.toNat → ∀ k, k ≤ r → triA x1 x2 x3 r k ∈ rightL wt := fun r hr k hk => by
    obtain ⟨h1, h2, h3, h4, _⟩ := h r hr k hk
    exact up_right h1 h2 h3 h4
  refine ⟨hl, fun r hr k hk => ⟨hT r hr k hk, fun hk0 => ?_⟩, fun r hr => ⟨?_, ?_, ?_⟩⟩
  · obtain ⟨k, rfl⟩ : ∃ j, k = j + 1 := ⟨k - 1, by omega⟩
    have h5 := (h r hr k (by omega)).2.2.2.2.1 (by omega)
    have h6 := hT (r - 1) (by omega) k (by omega)
    obtain ⟨_, _, h7, _⟩ := mem_right h6
    have h8 := h r hr k (by omega)
    have h9 := h r hr (k + 1) hk
    have e1 : tri r + (k + 1) - 1 = tri r + k := by omega
    have e2 : k + 1 - 1 = k := by omega
    unfold tipA
    rw [e1, e2]
    exact right_tip h9.1 h8.2.1 h7 (fun e => mem_three h6 e) h5
  · have h1 := h r hr 0 (by omega)
    exact ⟨h1.1.1, h1.2.2.2.2.2.2.1 rfl⟩
  · have h1 := h r hr r (Nat.le_refl _)
    exact ⟨h1.2.1.1, h1.2.2.2.2.2.2.2 rfl⟩
  · have h1 := h (s.toNat - 1) (by omega) r (by omega)
    exact ⟨h1.2.2.1, h1.2.2.2.2.2.1 rfl⟩
/-- The three sides. -/
def sdA (m : Nat) (x1 : List Int) : List Int := (List.range m).map fun j => nth x1 (tri (m - 1 - j))
def sdB (m : Nat) (x2 : List Int) : List Int := (List.range m).map fun j => nth x2 (tri j + j)
def sdC (m : Nat) (x3 : List Int) : List Int := (List.range m).map fun j => nth x3 (tri (m - 1) + j)
theorem sdA_len (m : Nat) (x : List Int) : (sdA m x).length = m := by simp [sdA]
theorem sdB_len (m : Nat) (x : List Int) : (sdB m x).length = m := by simp [sdB]
theorem sdC_len (m : Nat) (x : List Int) : (sdC m x).length = m := by simp [sdC]
theorem sdA_nth {m : Nat} {x : List Int} {j : Nat} (h : j < m) : nth (sdA m x) j = nth x (tri (m - 1 - j)) := by rw [nth_get (by rw [sdA_len]; exact h)]; simp [sdA]
theorem sdB_nth {m : Nat} {x : List Int} {j : Nat} (h : j < m) : nth (sdB m x) j = nth x (tri j + j) := by rw [nth_get (by rw [sdB_len]; exact h)]; simp [sdB]
theorem sdC_nth {m : Nat} {x : List Int} {j : Nat} (h : j < m) : nth (sdC m x) j = nth x (tri (m - 1) + j) := by rw [nth_get (by rw [sdC_len]; exact h)]; simp [sdC]
theorem side_strings {s : Int} {x1 x2 x3 : List Int} (hl : lensP s x1 x2 x3) : (strP (sdA s.toNat x1) ∧ strP (sdB s.toNat x2) ∧ strP (sdC s.toNat x3)) ↔ ∀ r, r < s.toNat → sideP s.toNat x1 x2 x3 r := by
  have h1 := hl.1
  have h7 := hl.2.1
  constructor
  · rintro ⟨ha, hb, hc⟩ r hr
    have a := ha.2.2 (s.toNat - 1 - r) (by rw [sdA_len]; omega)
    have b := hb.2.2 r (by rw [sdB_len]; omega)
    have c := hc.2.2 r (by rw [sdC_len]; omega)
    rw [sdA_nth (by omega), show s.toNat - 1 - (s.toNat - 1 - r) = r by omega] at a
    rw [sdB_nth hr] at b
    rw [sdC_nth hr] at c
    exact ⟨a, b, c⟩
  · intro h
    refine ⟨⟨by rw [sdA_len]; omega, by rw [sdA_len]; omega, fun k hk => ?_⟩, ⟨by rw [sdB_len]; omega, by rw [sdB_len]; omega, fun k hk => ?_⟩, ⟨by rw [sdC_len]; omega, by rw [sdC_len]; omega, fun k hk => ?_⟩⟩
    · rw [sdA_len] at hk; rw [sdA_nth hk]; exact (h _ (by omega)).1
    · rw [sdB_len] at hk; rw [sdB_nth hk]; exact (h _ hk).2.1
    · rw [sdC_len] at hk; rw [sdC_nth hk]; exact (h _ hk).2.2
end Go.Proofs.Ytfaegfhbbkicgaa

/-
  The size of a slice of numbers that came in. Conditions: lengths below 2^63.
-/

namespace Go.Proofs.Ytfaegfhbbkicgaa
open Go.RowKit

set_option maxHeartbeats 400000 in
theorem szIntS_any (A : Option Addr) (n c : Nat) (l : Int) (w : World) (hn : n ≤ 9223372036854775807) (h0 : 0 ≤ l) (h1 : l ≤ 1048576) :
    Calls Try.prog 56 #[.slice A n c, .int .i64 l] w fun e w' => e = .returned (.int .i64 (if l < (n : Int) then -1 else l - n)) ∧ w' = w := by
  by_cases h : l < (n : Int)
  · have h' : l - (n : Int) < 0 := by omega
    have hw : IntKind.i64.wrap (l - (n : Int)) = l - (n : Int) := IntWalk.i64_in _ (by omega)
    rw [if_pos h]
    go_enter Try.func56, Try.ntmps56
    go_wp2
    go_ret
    exact ⟨rfl, rfl⟩
  · have h' : ¬ l - (n : Int) < 0 := by omega
    have hw : IntKind.i64.wrap (l - (n : Int)) = l - (n : Int) := IntWalk.i64_in _ (by omega)
    rw [if_neg h]
    go_enter Try.func56, Try.ntmps56
    go_wp2
    go_ret
    exact ⟨rfl, rfl⟩
end Go.Proofs.Ytfaegfhbbkicgaa

/-
  Puzzles as values: copying, measuring, comparing, marking, holding. Conditions: lengths below 2^40.
-/



namespace Go.Proofs.Ytfaegfhbbkicgaa
open Go.RowKit

/-- Three slices of the call's own, one behind another. -/
def OwnP (w : World) (lo hi : Nat) (A1 A2 A3 : Option Addr) (n1 c1 n2 c2 n3 c3 : Nat) (x1 x2 x3 : List Int) : Prop :=
  ∃ p q, lo ≤ p ∧ p ≤ q ∧ q ≤ hi ∧ Own w lo p A1 n1 c1 x1 ∧ Own w p q A2 n2 c2 x2 ∧ Own w q hi A3 n3 c3 x3
section
variable {w w' : World} {lo hi n1 c1 n2 c2 n3 c3 : Nat} {A1 A2 A3 : Option Addr} {x1 x2 x3 : List Int}
theorem OwnP.si (h : OwnP w lo hi A1 A2 A3 n1 c1 n2 c2 n3 c3 x1 x2 x3) : SI w A1 n1 x1 ∧ SI w A2 n2 x2 ∧ SI w A3 n3 x3 := by
  obtain ⟨p, q, _, _, _, h1, h2, h3⟩ := h; exact ⟨h1.si, h2.si, h3.si⟩
theorem OwnP.lens (h : OwnP w lo hi A1 A2 A3 n1 c1 n2 c2 n3 c3 x1 x2 x3) : x1.length = n1 ∧ x2.length = n2 ∧ x3.length = n3 := by
  obtain ⟨p, q, _, _, _, h1, h2, h3⟩ := h; exact ⟨h1.len, h2.len, h3.len⟩
theorem OwnP.below {B : Nat} (h : OwnP w lo hi A1 A2 A3 n1 c1 n2 c2 n3 c3 x1 x2 x3) (hb : Below B w w') (hB : hi ≤ B) : OwnP w' lo hi A1 A2 A3 n1 c1 n2 c2 n3 c3 x1 x2 x3 := by
  obtain ⟨p, q, a, b, c, h1, h2, h3⟩ := h
  exact ⟨p, q, a, b, c, h1.below hb (by omega), h2.below hb (by omega), h3.below hb hB⟩
theorem OwnP.drawn (h : OwnP w lo hi A1 A2 A3 n1 c1 n2 c2 n3 c3 x1 x2 x3) (hd : Drawn w w') : OwnP w' lo hi A1 A2 A3 n1 c1 n2 c2 n3 c3 x1 x2 x3 := h.below (hd.below hi) (Nat.le_refl _)
theorem Own.within_ {lo hi n c lo' hi' : Nat} {A : Option Addr} {xs : List Int} (h : Own w lo hi A n c xs) (hw : Within lo' hi' w w') (hd : hi ≤ lo' ∨ hi' ≤ lo) : Own w' lo hi A n c xs := by
  refine ⟨⟨h.1.1, ?_⟩, h.2⟩
  rcases h.1.2 with hn | ⟨g, cap, cur, e, hl, hg, rest⟩
  · exact .inl hn
  · have hlt := h.2 g (by rw [e]; rfl)
    have hsz := (h.1.lt g (by rw [e]; rfl)).2
    exact .inr ⟨g, cap, cur, e, hl, (hw.2.2.2.2 g hsz (by omega)).trans hg, rest⟩
theorem OwnP.within {lo' hi' : Nat} (h : OwnP w lo hi A1 A2 A3 n1 c1 n2 c2 n3 c3 x1 x2 x3) (hw : Within lo' hi' w w') (hd : hi ≤ lo' ∨ hi' ≤ lo) : OwnP w' lo hi A1 A2 A3 n1 c1 n2 c2 n3 c3 x1 x2 x3 := by
  obtain ⟨p, q, a, b, c, h1, h2, h3⟩ := h
  exact ⟨p, q, a, b, c, h1.within_ hw (by omega), h2.within_ hw (by omega), h3.within_ hw (by omega)⟩
theorem OwnP.wide {lo' hi' : Nat} (h : OwnP w lo hi A1 A2 A3 n1 c1 n2 c2 n3 c3 x1 x2 x3) (h1 : lo' ≤ lo) (h2 : hi ≤ hi') : OwnP w lo' hi' A1 A2 A3 n1 c1 n2 c2 n3 c3 x1 x2 x3 := by
  obtain ⟨p, q, a, b, c, k1, k2, k3⟩ := h
  exact ⟨p, q, by omega, b, by omega, k1.wide h1 (Nat.le_refl _), k2, k3.wide (Nat.le_refl _) h2⟩
theorem OwnP.nil (w : World) {lo hi : Nat} (h : lo ≤ hi) : OwnP w lo hi none none none 0 0 0 0 0 0 [] [] [] := ⟨lo, lo, Nat.le_refl _, Nat.le_refl _, h, Own.nil _ _ _, Own.nil _ _ _, Own.nil _ _ _⟩
end
/-- What a call that makes a puzzle hands back. -/
def FreshP (w w' : World) (e : Ending) (s : Int) (x1 x2 x3 : List Int) : Prop :=
  ∃ A1 A2 A3 n1 c1 n2 c2 n3 c3, e = .returned (.agg #[.int .i64 s, .slice A1 n1 c1, .slice A2 n2 c2, .slice A3 n3 c3]) ∧ OwnP w' w.heap.size w'.heap.size A1 A2 A3 n1 c1 n2 c2 n3 c3 x1 x2 x3 ∧ Below w.heap.size w w'
theorem grown_setP (w : World) (a : Addr) (u : Value) : w.grownBy (w.setCell a u) (some a.block) :=
  ⟨rfl, rfl, rfl, by simp [World.setCell], fun k _ hk => Below.heap_setCell w a u k (fun e => hk (by rw [e]))⟩
theorem results_rowP {P : Program} {fn : Func} {p : Tmp} {ty : TypeId} (h : fn.results = #[.cell p ty]) (tmps : Array Value) (w : World) (g : Nat) (t : TypeId) (cs : Array Value) (d : TypeDesc)
    (hp : tmps.getD p undef = .pointer (some ⟨g, 0, none⟩)) (hg : Blk w g t cs) (hu : P.underlying ty = some d) (hd : (match d with | .struct _ | .array _ _ => true | _ => false) = true) (hi : (P.info? ty).map (·.size) = some cs.size) :
    (results fn tmps).run P w = .ok (.agg cs) w :=
  results_cell_row h tmps w g t cs (0, 0) d hp hg hu hd hi

theorem SI.old {w : World} {A : Option Addr} {n g : Nat} {xs : List Int} (h : SI w A n xs) (hg : w.heap.size ≤ g) : 0 < n → ∀ b o, A = some ⟨b, o, none⟩ → b ≠ g := fun hn b o e => by
  obtain ⟨b', o', e', hb, _⟩ := h.2 hn
  rw [e'] at e
  injection e with e
  injection e with e1 e2
  omega
theorem SI.kept_ {w w' : World} {A : Option Addr} {n g : Nat} {xs : List Int} (h : SI w A n xs) (hg : w.grownBy w' (some g)) (hr : 0 < n → ∀ b o, A = some ⟨b, o, none⟩ → b ≠ g) : SI w' A n xs :=
  ⟨h.1, fun hn => by
    obtain ⟨b, o, e, hb, hc⟩ := h.2 hn
    have hs := hg.size
    exact ⟨b, o, e, by omega, fun k hk => hg.cell (hc k hk) (fun e' => by injection e' with e'; exact hr hn b o e e')⟩⟩
/-- A whole struct read out of a block that is known, and stored into one. -/
theorem wpList_load_rowP {P : Program} {ops : Array Oper} {rest : List Oper} {o : Oper} {a : Act} {w : World} {Q : Exit → Act → World → Prop} (hgd : o.guard = none) (ty : TypeId) (x : Operand) (ho : o.op = .load ty x)
    (g : Nat) (hx : a.eval x = .pointer (some ⟨g, 0, none⟩)) (t : TypeId) (cs : Array Value) (d : TypeDesc) (hg : Blk w g t cs)
    (hu : P.underlying ty = some d) (hd : (match d with | .struct _ | .array _ _ => true | _ => false) = true) (hi : (P.info? ty).map (·.size) = some cs.size)
    (h : wpList P ops Q rest (a.put o.dst (.agg cs)) w) : wpList P ops Q (o :: rest) a w :=
  wpList_load_row hgd ty x ho g hx t cs (0, 0) d hg hu hd hi h
theorem wpList_store_rowP {P : Program} {ops : Array Oper} {rest : List Oper} {o : Oper} {a : Act} {w : World} {Q : Exit → Act → World → Prop} (hgd : o.guard = none) (ty : TypeId) (x y : Operand) (ho : o.op = .store ty x y)
    (g : Nat) (cs : Array Value) (hx : a.eval x = .pointer (some ⟨g, 0, none⟩)) (hy : a.eval y = .agg cs) (t : TypeId) (old : Array Value) (hg : Blk w g t old)
    (hi : (P.info? ty).map (·.size) = some cs.size) (hsz : old.size = cs.size) (h1 : cs.all (·.oneCell') = true)
    (hK : ∀ w', Blk w' g t cs → w.grownBy w' (some g) → wpList P ops Q rest (a.put o.dst undef) w') : wpList P ops Q (o :: rest) a w :=
  wpList_store_blk hgd ty x y ho g cs hx hy t old hg hi hsz h1 hK
theorem Within.of_below_ {lo hi : Nat} {w w' : World} (h : Below w.heap.size w w') : Within lo hi w w' := ⟨h.os, h.tape, h.output, h.size, fun k hk _ => h.block k hk⟩
/-- The cells of a puzzle in a block, told one by one. -/
theorem cells4 {w : World} {g : Nat} {t : TypeId} {a b c d : Value} (h : Blk w g t #[a, b, c, d]) : w.cell? ⟨g, 0, none⟩ = some a ∧ w.cell? ⟨g, 1, none⟩ = some b ∧ w.cell? ⟨g, 2, none⟩ = some c ∧ w.cell? ⟨g, 3, none⟩ = some d := ⟨h.cell 0, h.cell 1, h.cell 2, h.cell 3⟩
/-- The three lists marked from q on. -/
abbrev mk1 (x1 : List Int) (q : Int) : List Int := marks x1.length q
abbrev mk2 (x1 x2 : List Int) (q : Int) : List Int := marks x2.length (q + x1.length)
abbrev mk3 (x1 x2 x3 : List Int) (q : Int) : List Int := marks x3.length (q + x1.length + x2.length)
end Go.Proofs.Ytfaegfhbbkicgaa

/-
  Matrices as values: copying, measuring, comparing, marking, holding. Conditions: lengths below 2^40.
-/



namespace Go.Proofs.Ytfaegfhbbkicgaa
open Go.RowKit

theorem Try.infoMx : (Try.prog.info? 27).map (·.size) = some 4 := by kernel_rfl
/-- What a call that makes a matrix hands back. -/
def FreshMx (w w' : World) (e : Ending) (p r c : Int) (xs : List Int) : Prop :=
  ∃ A n k, e = .returned (.agg #[.int .i64 p, .int .i64 r, .int .i64 c, .slice A n k]) ∧ Own w' w.heap.size w'.heap.size A n k xs ∧ Below w.heap.size w w'
set_option maxHeartbeats 1000000 in
theorem toMatrix_any (p r c : Int) (A : Option Addr) (n k : Nat) (xs : List Int) (w : World) (hs : SI w A n xs) (hn : n ≤ 1099511627776) :
    Calls Try.prog 16 #[.agg #[.int .i64 p, .int .i64 r, .int .i64 c, .slice A n k]] w fun e w' => FreshMx w w' e p r c xs := by
  obtain ⟨w1, hw1⟩ : ∃ w1, w1 = ((w.alloc (.cells #[.int .i64 p, .int .i64 r, .int .i64 c, .slice A n k] 24)).alloc (.cells #[.int .i64 0, .int .i64 0, .int .i64 0, .slice none 0 0] 27)).alloc (.cells #[.int .i64 0, .int .i64 0, .int .i64 0, .slice none 0 0] 27) := ⟨_, rfl⟩
  obtain ⟨g1, hg1⟩ : ∃ g1, g1 = w.heap.size := ⟨_, rfl⟩
  have k1 : Blk w1 g1 24 #[.int .i64 p, .int .i64 r, .int .i64 c, .slice A n k] := by rw [hw1, hg1]; exact ((Blk.new w _ _).alloc _).alloc _
  have k2 : Blk w1 (g1 + 1) 27 #[.int .i64 0, .int .i64 0, .int .i64 0, .slice none 0 0] := by
    rw [hw1, hg1]
    have := (Blk.new (w.alloc (.cells #[.int .i64 p, .int .i64 r, .int .i64 c, .slice A n k] 24)) 27 #[.int .i64 0, .int .i64 0, .int .i64 0, .slice none 0 0]).alloc (.cells #[.int .i64 0, .int .i64 0, .int .i64 0, .slice none 0 0] 27)
    simpa using this
  have k3 : Blk w1 (g1 + 1 + 1) 27 #[.int .i64 0, .int .i64 0, .int .i64 0, .slice none 0 0] := by
    rw [hw1, hg1]
    have := (Blk.new ((w.alloc (.cells #[.int .i64 p, .int .i64 r, .int .i64 c, .slice A n k] 24)).alloc (.cells #[.int .i64 0, .int .i64 0, .int .i64 0, .slice none 0 0] 27)) 27 #[.int .i64 0, .int .i64 0, .int .i64 0, .slice none 0 0])
    simpa using this
  have hb1 : Below w.heap.size w w1 := by rw [hw1]; go_grown
  have HS_0 := Lib.hid (hs.below hb1 (Nat.le_refl _))
  have HSB := Lib.hid (SI.old hs (show w.heap.size ≤ g1 + 1 + 1 by omega))
  have HW1 := Lib.hid hw1
  have HG1 := Lib.hid hg1
  have HK_0 := Lib.hid (And.intro k1 (And.intro k2 k3))
  have HB_0 := Lib.hid hb1
  clear k1 k2 k3 hb1 hs hw1 hg1
  go_enter Try.func16, Try.ntmps16
  go_upto_region 2 with fail
  rw [← HW1.out, ← HG1.out]
  have hc1 : w1.cell? ⟨g1, 0, none⟩ = some (.int .i64 p) := HK_0.out.1.cell 0
  have hc2 : w1.cell? ⟨g1 + 1 + 1, 0, none⟩ = some (.int .i64 0) := HK_0.out.2.2.cell 0
  have hf2 := HK_0.out.2.2.frozen 0
  go_upto_region 3 with fail
  clear hc1 hc2 hf2
  obtain ⟨v1, hv⟩ : ∃ v, v = w1.setCell ⟨g1 + 1 + 1, 0, none⟩ (.int .i64 p) := ⟨_, rfl⟩
  have HK_1 : Hid (Blk v1 g1 24 #[.int .i64 p, .int .i64 r, .int .i64 c, .slice A n k] ∧ Blk v1 (g1 + 1) 27 #[.int .i64 0, .int .i64 0, .int .i64 0, .slice none 0 0] ∧ Blk v1 (g1 + 1 + 1) 27 #[.int .i64 p, .int .i64 0, .int .i64 0, .slice none 0 0]) := Lib.hid (by
    rw [hv]
    exact ⟨HK_0.out.1.far (by show g1 ≠ g1 + 1 + 1; omega) _, HK_0.out.2.1.far (by show g1 + 1 ≠ g1 + 1 + 1; omega) _, HK_0.out.2.2.set_ 0 _⟩)
  have hbs : Below w.heap.size w1 v1 := by rw [hv]; exact (Below.refl _ _).setCell (by have := HG1.out; show w.heap.size ≤ g1 + 1 + 1; omega) _
  have HB_1 : Hid (Below w.heap.size w v1) := Lib.hid (HB_0.out.trans hbs)
  have HS_1 : Hid (SI v1 A n xs) := Lib.hid (by
    rw [hv]
    have hg : w1.grownBy (w1.setCell ⟨g1 + 1 + 1, 0, none⟩ (.int .i64 p)) (some (g1 + 1 + 1)) := grown_setP _ _ _
    exact SI.kept_ HS_0.out hg HSB.out)
  rw [← hv]
  clear hv hbs HK_0 HB_0 HS_0
  have hc1 : v1.cell? ⟨g1, 1, none⟩ = some (.int .i64 r) := HK_1.out.1.cell 1
  have hc2 : v1.cell? ⟨g1 + 1 + 1, 1, none⟩ = some (.int .i64 0) := HK_1.out.2.2.cell 1
  have hf2 := HK_1.out.2.2.frozen 1
  go_upto_region 4 with fail
  clear hc1 hc2 hf2
  obtain ⟨v2, hv⟩ : ∃ v, v = v1.setCell ⟨g1 + 1 + 1, 1, none⟩ (.int .i64 r) := ⟨_, rfl⟩
  have HK_2 : Hid (Blk v2 g1 24 #[.int .i64 p, .int .i64 r, .int .i64 c, .slice A n k] ∧ Blk v2 (g1 + 1) 27 #[.int .i64 0, .int .i64 0, .int .i64 0, .slice none 0 0] ∧ Blk v2 (g1 + 1 + 1) 27 #[.int .i64 p, .int .i64 r, .int .i64 0, .slice none 0 0]) := Lib.hid (by
    rw [hv]
    exact ⟨HK_1.out.1.far (by show g1 ≠ g1 + 1 + 1; omega) _, HK_1.out.2.1.far (by show g1 + 1 ≠ g1 + 1 + 1; omega) _, HK_1.out.2.2.set_ 1 _⟩)
  have hbs : Below w.heap.size v1 v2 := by rw [hv]; exact (Below.refl _ _).setCell (by have := HG1.out; show w.heap.size ≤ g1 + 1 + 1; omega) _
  have HB_2 : Hid (Below w.heap.size w v2) := Lib.hid (HB_1.out.trans hbs)
  have HS_2 : Hid (SI v2 A n xs) := Lib.hid (by
    rw [hv]
    have hg : v1.grownBy (v1.setCell ⟨g1 + 1 + 1, 1, none⟩ (.int .i64 r)) (some (g1 + 1 + 1)) := grown_setP _ _ _
    exact SI.kept_ HS_1.out hg HSB.out)
  rw [← hv]
  clear hv hbs HK_1 HB_1 HS_1
  have hc1 : v2.cell? ⟨g1, 2, none⟩ = some (.int .i64 c) := HK_2.out.1.cell 2
  have hc2 : v2.cell? ⟨g1 + 1 + 1, 2, none⟩ = some (.int .i64 0) := HK_2.out.2.2.cell 2
  have hf2 := HK_2.out.2.2.frozen 2
  go_upto_region 5 with fail
  clear hc1 hc2 hf2
  obtain ⟨v3, hv⟩ : ∃ v, v = v2.setCell ⟨g1 + 1 + 1, 2, none⟩ (.int .i64 c) := ⟨_, rfl⟩
  have HK_3 : Hid (Blk v3 g1 24 #[.int .i64 p, .int .i64 r, .int .i64 c, .slice A n k] ∧ Blk v3 (g1 + 1) 27 #[.int .i64 0, .int .i64 0, .int .i64 0, .slice none 0 0] ∧ Blk v3 (g1 + 1 + 1) 27 #[.int .i64 p, .int .i64 r, .int .i64 c, .slice none 0 0]) := Lib.hid (by
    rw [hv]
    exact ⟨HK_2.out.1.far (by show g1 ≠ g1 + 1 + 1; omega) _, HK_2.out.2.1.far (by show g1 + 1 ≠ g1 + 1 + 1; omega) _, HK_2.out.2.2.set_ 2 _⟩)
  have hbs : Below w.heap.size v2 v3 := by rw [hv]; exact (Below.refl _ _).setCell (by have := HG1.out; show w.heap.size ≤ g1 + 1 + 1; omega) _
  have HB_3 : Hid (Below w.heap.size w v3) := Lib.hid (HB_2.out.trans hbs)
  have HS_3 : Hid (SI v3 A n xs) := Lib.hid (by
    rw [hv]
    have hg : v2.grownBy (v2.setCell ⟨g1 + 1 + 1, 2, none⟩ (.int .i64 c)) (some (g1 + 1 + 1)) := grown_setP _ _ _
    exact SI.kept_ HS_2.out hg HSB.out)
  rw [← hv]
  clear hv hbs HK_2 HB_2 HS_2
  have hcl1 : v3.cell? ⟨g1, 3, none⟩ = some (.slice A n k) := HK_3.out.1.cell 3
  have HLa : Hid (g1 + 1 + 1 < v3.heap.size) := Lib.hid HK_3.out.2.2.lt
  go_upto_region 6 with (first
    | (go_at_call 24
       refine (toIntS_fr _ _ _ xs _ HS_3.out hn).mono ?_
       rintro e u1 ⟨B1, m1, d1, rfl, ho4, hb4⟩
       have HK1' : Hid (Blk u1 g1 24 #[.int .i64 p, .int .i64 r, .int .i64 c, .slice A n k] ∧ Blk u1 (g1 + 1) 27 #[.int .i64 0, .int .i64 0, .int .i64 0, .slice none 0 0] ∧ Blk u1 (g1 + 1 + 1) 27 #[.int .i64 p, .int .i64 r, .int .i64 c, .slice none 0 0]) := Lib.hid ⟨HK_3.out.1.below hb4 HK_3.out.1.lt, HK_3.out.2.1.below hb4 HK_3.out.2.1.lt, HK_3.out.2.2.below hb4 HK_3.out.2.2.lt⟩
       have hsz1 := hb4.size
       have HQ1 : Hid (Below v3.heap.size v3 u1) := Lib.hid hb4
       have HO1 : Hid (Own u1 v3.heap.size u1.heap.size B1 m1 d1 xs) := Lib.hid ho4
       have hd1 : u1.cell? ⟨g1 + 1 + 1, 3, none⟩ = some (.slice none 0 0) := HK1'.out.2.2.cell 3
       have he1 := HK1'.out.2.2.frozen 3
       clear ho4 hb4))
  clear hcl1 hd1 he1
  obtain ⟨v4, hv4⟩ : ∃ v4, v4 = u1.setCell ⟨g1 + 1 + 1, 3, none⟩ (.slice B1 m1 d1) := ⟨_, rfl⟩
  have hg4 : u1.grownBy v4 (some (g1 + 1 + 1)) := by rw [hv4]; exact grown_setP _ _ _
  have HKd : Hid (Blk v4 g1 24 #[.int .i64 p, .int .i64 r, .int .i64 c, .slice A n k] ∧ Blk v4 (g1 + 1) 27 #[.int .i64 0, .int .i64 0, .int .i64 0, .slice none 0 0] ∧ Blk v4 (g1 + 1 + 1) 27 #[.int .i64 p, .int .i64 r, .int .i64 c, .slice B1 m1 d1]) := Lib.hid (by
    rw [hv4]
    exact ⟨HK1'.out.1.far (by show g1 ≠ g1 + 1 + 1; omega) _, HK1'.out.2.1.far (by show g1 + 1 ≠ g1 + 1 + 1; omega) _, HK1'.out.2.2.set_ 3 _⟩)
  have HBd : Hid (Below w.heap.size w v4) := Lib.hid ((HB_3.out.trans (HQ1.out.mono HB_3.out.size)).grown hg4 (by have := HB_3.out.size; omega) (by rintro k ⟨⟩; have := HG1.out; omega))
  have HLd : Hid (g1 + 1 + 1 < v3.heap.size ∧ v3.heap.size ≤ u1.heap.size ∧ u1.heap.size ≤ v4.heap.size ∧ w.heap.size ≤ v3.heap.size) := Lib.hid ⟨HK_3.out.2.2.lt, hsz1, hg4.size, HB_3.out.size⟩
  have HP1 : Hid (Own v4 v3.heap.size u1.heap.size B1 m1 d1 xs) := Lib.hid (HO1.out.grown hg4 (fun k hk => by injection hk with hk; have := HLd.out.1; omega))
  rw [← hv4]
  clear hv4 hg4 hsz1
  go_wp2_with (first
    | (refine wpList_load_rowP rfl 27 (.tmp 3) rfl (g1 + 1 + 1) rfl 27 #[.int .i64 p, .int .i64 r, .int .i64 c, .slice B1 m1 d1] _ HKd.out.2.2 Try.underlying27 rfl Try.infoMx ?_)
    | (refine wpList_store_rowP rfl 27 (.tmp 2) (.tmp 17) rfl (g1 + 1) #[.int .i64 p, .int .i64 r, .int .i64 c, .slice B1 m1 d1] rfl rfl 27 #[.int .i64 0, .int .i64 0, .int .i64 0, .slice none 0 0] HKd.out.2.1 Try.infoMx rfl (by simp [Value.oneCell']) ?_; intro w5 hb5 hg5)
    | fail)
  refine bodyPost_ret (results_rowP Try.results16 _ _ _ 27 #[.int .i64 p, .int .i64 r, .int .i64 c, .slice B1 m1 d1] _ rfl hb5 Try.underlying27 rfl Try.infoMx) rfl ?_
  have l1 := HLd.out
  have l5 := hg5.size
  have hG := HG1.out
  refine ⟨B1, m1, d1, rfl, ?_, ?_⟩
  · exact (HP1.out.grown hg5 (fun k hk => by injection hk with hk; omega)).wide (by omega) (by omega)
  · exact HBd.out.grown hg5 HBd.out.size (by rintro k ⟨⟩; omega)
set_option maxHeartbeats 1000000 in
theorem szMatrix_any (p r c : Int) (A : Option Addr) (n k : Nat) (q : Int) (w : World) (hn : n ≤ 9223372036854775807) (hq : 0 ≤ q) (hq' : q ≤ 1048576) :
    Calls Try.prog 14 #[.agg #[.int .i64 p, .int .i64 r, .int .i64 c, .slice A n k], .int .i64 q] w fun e w' => e = .returned (.int .i64 (if q < (n : Int) then -1 else q - n)) ∧ Below w.heap.size w w' := by
  obtain ⟨w1, hw1⟩ : ∃ w1, w1 = w.alloc (.cells #[.int .i64 p, .int .i64 r, .int .i64 c, .slice A n k] 24) := ⟨_, rfl⟩
  obtain ⟨g, hg⟩ : ∃ g, g = w.heap.size := ⟨_, rfl⟩
  have hk : Blk w1 g 24 #[.int .i64 p, .int .i64 r, .int .i64 c, .slice A n k] := by rw [hw1, hg]; exact Blk.new _ _ _
  have HB : Hid (Below w.heap.size w w1) := Lib.hid (by rw [hw1]; exact Below.alloc_self _ _)
  obtain ⟨q0, q1, q2, q3⟩ := cells4 hk
  have HW := Lib.hid hw1
  have HG := Lib.hid hg
  clear hk hw1 hg q0 q1 q2
  have HS1 := Lib.hid (fun w => szIntS_any A n k q w hn hq hq')
  by_cases h1 : q < (n : Int)
  · rw [if_pos h1] at HS1 ⊢
    clear h1
    go_enter Try.func14, Try.ntmps14
    go_upto_region 1 with fail
    rw [← HW.out, ← HG.out]
    go_wp2_with (go_at_call 56; refine (HS1.out _).mono ?_; rintro e w2 ⟨rfl, rfl⟩)
    go_ret
    exact ⟨rfl, HB.out⟩
  · rw [if_neg h1] at HS1 ⊢
    obtain ⟨l1, hl1⟩ : ∃ l1 : Int, l1 = q - (n : Int) := ⟨_, rfl⟩
    rw [← hl1] at HS1 ⊢
    have hl1' : ¬ l1 < 0 := by omega
    clear h1 hl1
    go_enter Try.func14, Try.ntmps14
    go_upto_region 1 with fail
    rw [← HW.out, ← HG.out]
    go_wp2_with (go_at_call 56; refine (HS1.out _).mono ?_; rintro e w2 ⟨rfl, rfl⟩)
    go_ret
    exact ⟨rfl, HB.out⟩
set_option maxRecDepth 100000 in
set_option maxHeartbeats 1000000 in
theorem eqMatrix_yes (p r c : Int) (A B : Option Addr) (n k m d : Nat) (xs : List Int) (w : World) (h1 : SI w A n xs) (k1 : SI w B m xs) (hn : xs.length ≤ 1099511627776) :
    Calls Try.prog 19 #[.agg #[.int .i64 p, .int .i64 r, .int .i64 c, .slice A n k], .agg #[.int .i64 p, .int .i64 r, .int .i64 c, .slice B m d]] w fun e w' => e = .returned (.bool true) ∧ Below w.heap.size w w' := by
  obtain ⟨w1, hw1⟩ : ∃ w1, w1 = (w.alloc (.cells #[.int .i64 p, .int .i64 r, .int .i64 c, .slice A n k] 27)).alloc (.cells #[.int .i64 p, .int .i64 r, .int .i64 c, .slice B m d] 27) := ⟨_, rfl⟩
  obtain ⟨g, hg⟩ : ∃ g, g = w.heap.size := ⟨_, rfl⟩
  have hk : Blk w1 g 27 #[.int .i64 p, .int .i64 r, .int .i64 c, .slice A n k] := by rw [hw1, hg]; exact (Blk.new _ _ _).alloc _
  have hk2 : Blk w1 (g + 1) 27 #[.int .i64 p, .int .i64 r, .int .i64 c, .slice B m d] := by
    rw [hw1, hg]
    have := Blk.new (w.alloc (.cells #[.int .i64 p, .int .i64 r, .int .i64 c, .slice A n k] 27)) 27 #[.int .i64 p, .int .i64 r, .int .i64 c, .slice B m d]
    simpa using this
  have hb : Below w.heap.size w w1 := by rw [hw1]; go_grown
  have HB := Lib.hid hb
  have HW := Lib.hid hw1
  have HG := Lib.hid hg
  have HS := Lib.hid (And.intro (h1.below hb (Nat.le_refl _)) (k1.below hb (Nat.le_refl _)))
  have HN := Lib.hid (show n ≤ 1099511627776 ∧ m ≤ 1099511627776 by have := h1.1; have := k1.1; omega)
  obtain ⟨q0, q1, q2, q3⟩ := cells4 hk
  obtain ⟨r0, r1, r2, r3⟩ := cells4 hk2
  clear hk hk2 hb hw1 hg h1 k1 hn
  go_enter Try.func19, Try.ntmps19
  go_upto_region 1 with fail
  rw [← HW.out, ← HG.out]
  go_wp2_with (first
    | (go_at_call 18
       refine (eqIntS_any _ _ _ _ _ _ xs xs _ HS.out.1 HS.out.2 HN.out.1 HN.out.2).mono ?_
       rintro e w2 ⟨rfl, hd⟩
       rw [eqL_self]
       have HD2 := Lib.hid hd
       clear hd))
  go_ret
  exact ⟨rfl, HB.out.trans (HD2.out.below _)⟩
set_option maxHeartbeats 1000000 in
theorem markMatrix_any (p r c : Int) (A : Option Addr) (n k lo hi : Nat) (xs : List Int) (q : Int) (w : World) (ho : Own w lo hi A n k xs) (hhi : hi ≤ w.heap.size) (hn : n ≤ 1099511627776) (hq : 0 ≤ q) (hq' : q ≤ 1099511627776) :
    Calls Try.prog 20 #[.agg #[.int .i64 p, .int .i64 r, .int .i64 c, .slice A n k], .int .i64 q] w fun e w' => e = .returned (.int .i64 (q + n)) ∧ Own w' lo hi A n k (marks n q) ∧ Within lo hi w w' := by
  obtain ⟨w1, hw1⟩ : ∃ w1, w1 = w.alloc (.cells #[.int .i64 p, .int .i64 r, .int .i64 c, .slice A n k] 27) := ⟨_, rfl⟩
  obtain ⟨g, hg⟩ : ∃ g, g = w.heap.size := ⟨_, rfl⟩
  have hk : Blk w1 g 27 #[.int .i64 p, .int .i64 r, .int .i64 c, .slice A n k] := by rw [hw1, hg]; exact Blk.new _ _ _
  have hb : Below w.heap.size w w1 := by rw [hw1]; exact Below.alloc_self _ _
  have HIN : Hid (Within lo hi w w1) := Lib.hid (Within.of_below_ hb)
  have HW := Lib.hid hw1
  have HG := Lib.hid hg
  have HO := Lib.hid (ho.below hb (by omega))
  obtain ⟨q0, q1, q2, q3⟩ := cells4 hk
  clear hk hb hw1 hg ho q0 q1 q2
  go_enter Try.func20, Try.ntmps20
  go_upto_region 1 with fail
  rw [← HW.out, ← HG.out]
  go_wp2_with (first
    | (go_at_call 21
       refine (markIntS_any _ _ _ lo hi xs q _ HO.out hn hq hq').mono ?_
       rintro e w2 ⟨rfl, ho, hgr⟩
       have HI2 : Hid (Within lo hi w w2) := Lib.hid (HIN.out.trans (Within.of_grown hgr (fun k e => HO.out.lt k e)))
       have HO2 := Lib.hid ho
       clear ho hgr))
  go_ret
  exact ⟨rfl, HO2.out, HI2.out⟩
set_option maxHeartbeats 1000000 in
theorem heldMatrix_yes (p r c : Int) (A : Option Addr) (n k : Nat) (q : Int) (w : World) (h : SI w A n (marks n q)) (hn : n ≤ 1099511627776) (hq : 0 ≤ q) (hq' : q ≤ 1099511627776) :
    Calls Try.prog 28 #[.agg #[.int .i64 p, .int .i64 r, .int .i64 c, .slice A n k], .int .i64 q] w fun e w' => e = .returned (.int .i64 (q + n)) ∧ Below w.heap.size w w' := by
  obtain ⟨w1, hw1⟩ : ∃ w1, w1 = w.alloc (.cells #[.int .i64 p, .int .i64 r, .int .i64 c, .slice A n k] 27) := ⟨_, rfl⟩
  obtain ⟨g, hg⟩ : ∃ g, g = w.heap.size := ⟨_, rfl⟩
  have hk : Blk w1 g 27 #[.int .i64 p, .int .i64 r, .int .i64 c, .slice A n k] := by rw [hw1, hg]; exact Blk.new _ _ _
  have hb : Below w.heap.size w w1 := by rw [hw1]; exact Below.alloc_self _ _
  have HB := Lib.hid hb
  have HW := Lib.hid hw1
  have HG := Lib.hid hg
  have HS := Lib.hid (h.below hb (Nat.le_refl _))
  obtain ⟨q0, q1, q2, q3⟩ := cells4 hk
  have e1 : ¬ q + (n : Int) < 0 := by omega
  clear hk hb hw1 hg h q0 q1 q2
  go_enter Try.func28, Try.ntmps28
  go_upto_region 1 with fail
  rw [← HW.out, ← HG.out]
  go_wp2_with (first
    | (go_at_call 22
       refine (heldIntS_yes _ _ _ q _ HS.out hn hq hq').mono ?_
       rintro e w2 ⟨rfl, hd⟩
       have HD2 := Lib.hid hd
       clear hd))
  go_ret
  exact ⟨rfl, HB.out.trans (HD2.out.below _)⟩
end Go.Proofs.Ytfaegfhbbkicgaa

/-
  Whether a matrix is one: both sides. Conditions: lengths below 2^40.
-/



namespace Go.Proofs.Ytfaegfhbbkicgaa
open Go.RowKit

instance P7.dec (p : Int) : Decidable (P7 p) := by unfold P7; exact inferInstance
def matP (p r c : Int) (xs : List Int) : Prop := P7 p ∧ (0 ≤ r ∧ r ≤ 7) ∧ (1 ≤ c ∧ c ≤ 7) ∧ (xs.length : Int) = r * c ∧ ∀ k, k < xs.length → 0 ≤ nth xs k ∧ nth xs k < p
instance matP.dec (p r c : Int) (xs : List Int) : Decidable (matP p r c xs) := by unfold matP; exact inferInstance
def matB (p r c : Int) (xs : List Int) : Bool := decide (matP p r c xs)
theorem matB_false {p r c : Int} {xs : List Int} (h : ¬ matP p r c xs) : matB p r c xs = false := decide_eq_false h
theorem matB_true {p r c : Int} {xs : List Int} (h : matP p r c xs) : matB p r c xs = true := decide_eq_true h
theorem matB_P {p r c : Int} {xs : List Int} (h : matB p r c xs = true) : matP p r c xs := of_decide_eq_true h
theorem mul_small {r c : Int} (hr : 0 ≤ r ∧ r ≤ 7) (hc : 0 ≤ c ∧ c ≤ 7) : 0 ≤ r * c ∧ r * c ≤ 49 := by
  have h1 : 0 ≤ r * c := Int.mul_nonneg hr.1 hc.1
  have h2 : r * c ≤ 7 * 7 := Int.mul_le_mul hr.2 hc.2 hc.1 (by decide)
  omega
theorem l7Prime_yes {p : Int} (h : P7 p) (w : World) : Calls Try.prog 78 #[.int .i64 p] w fun e w' => e = .returned (.bool true) ∧ w = w' := by
  rcases h with rfl | rfl | rfl | rfl <;>
  · go_enter Try.func78, Try.ntmps78
    go_wp2
    go_ret
    exact ⟨rfl, rfl⟩
theorem l7Prime_no {p : Int} (h : ¬ P7 p) (w : World) : Calls Try.prog 78 #[.int .i64 p] w fun e w' => e = .returned (.bool false) ∧ w = w' := by
  unfold P7 at h
  have h2 : (p == 2) = false := by simp; omega
  have h3 : (p == 3) = false := by simp; omega
  have h5 : (p == 5) = false := by simp; omega
  have h7 : (p == 7) = false := by simp; omega
  clear h
  go_enter Try.func78, Try.ntmps78
  go_wp2
  go_ret
  exact ⟨rfl, rfl⟩
theorem isModulus_yes {p : Int} (h : P7 p) (w : World) : Calls Try.prog 80 #[.int .i64 p] w fun e w' => e = .returned (.bool true) ∧ w = w' := by
  rcases h with rfl | rfl | rfl | rfl <;>
  · go_enter Try.func80, Try.ntmps80
    go_wp2
    go_ret
    exact ⟨rfl, rfl⟩
theorem isModulus_no {p : Int} (h : ¬ P7 p) (w : World) : Calls Try.prog 80 #[.int .i64 p] w fun e w' => e = .returned (.bool false) ∧ w = w' := by
  unfold P7 at h
  have h2 : (p == 2) = false := by simp; omega
  have h3 : (p == 3) = false := by simp; omega
  have h5 : (p == 5) = false := by simp; omega
  have h7 : (p == 7) = false := by simp; omega
  clear h
  go_enter Try.func80, Try.ntmps80
  go_wp2
  go_ret
  exact ⟨rfl, rfl⟩
theorem isNone_any (p x : Int) (g : Nat) (w : World) (hk : w.cell? ⟨g, 0, none⟩ = some (.int .i64 p)) :
    Calls Try.prog 180 #[.int .i64 x, .pointer (some ⟨g, 0, none⟩)] w fun e w' => e = .returned (.bool (decide (¬ (0 ≤ x ∧ x < p)))) ∧ w = w' := by
  by_cases h0 : x < 0
  · have HE : Hid (true = decide (¬ (0 ≤ x ∧ x < p))) := Lib.hid (decide_eq_true (by omega)).symm
    go_enter Try.func180, Try.ntmps180
    go_wp2
    go_ret
    first | exact ⟨ret_bool HE.out, rfl⟩ | exact ⟨rfl, rfl⟩
  · by_cases h1 : x ≥ p
    · have HE : Hid (true = decide (¬ (0 ≤ x ∧ x < p))) := Lib.hid (decide_eq_true (by omega)).symm
      go_enter Try.func180, Try.ntmps180
      go_wp2
      go_ret
      first | exact ⟨ret_bool HE.out, rfl⟩ | exact ⟨rfl, rfl⟩
    · have HE : Hid (false = decide (¬ (0 ≤ x ∧ x < p))) := Lib.hid (decide_eq_false (by omega)).symm
      go_enter Try.func180, Try.ntmps180
      go_wp2
      go_ret
      first | exact ⟨ret_bool HE.out, rfl⟩ | exact ⟨rfl, rfl⟩
set_option maxHeartbeats 800000 in
theorem indexNone_any (A : Option Addr) (n c : Nat) (xs : List Int) (p : Int) (g : Nat) (w : World) (hs : SI w A n xs) (hn : n ≤ 1099511627776) (hk : w.cell? ⟨g, 0, none⟩ = some (.int .i64 p)) :
    Calls Try.prog 138 #[.slice A n c, .func (.func 180) #[] #[.pointer (some ⟨g, 0, none⟩)]] w fun r w' =>
      ∃ i : Int, r = .returned (.int .i64 i) ∧ (i < 0 ∧ (∀ k, k < n → 0 ≤ nth xs k ∧ nth xs k < p) ∨ 0 ≤ i ∧ ∃ k, k < n ∧ ¬ (0 ≤ nth xs k ∧ nth xs k < p)) ∧ Drawn w w' := by
  have HF : Hid (∀ w', Drawn w w' → ∀ y, Calls Try.prog 180 #[.int .i64 y, .pointer (some ⟨g, 0, none⟩)] w' fun e w2 => e = .returned (.bool (decide (¬ (0 ≤ y ∧ y < p)))) ∧ w' = w2) := Lib.hid (fun w' hd y => isNone_any p y g w' (by obtain ⟨m, rfl⟩ := hd; exact hk))
  clear hk
  go_enter Try.func138, Try.ntmps138
  go_wp2
  go_loopw [8] (fun i wr => ∃ k : Nat, k ≤ n ∧ i = .int .i64 k ∧ Drawn w wr ∧ ∀ j, j < k → 0 ≤ nth xs j ∧ nth xs j < p)
    (fun i _ => n - (intOf i).toNat)
  case atStart => exact ⟨0, Nat.zero_le _, rfl, Drawn.refl _, fun j hj => absurd hj (by omega)⟩
  case round =>
    obtain ⟨k, hk, rfl, hD, hall⟩ := hrel
    have HA := Lib.hid hall
    have HDR := Lib.hid hD
    have hs := hD.si hs
    clear hall hD
    by_cases hlt : k < n
    · have hlI : (k : Int) < (n : Int) := by omega
      obtain ⟨b, o, rfl, hb, hc⟩ := hs.at_ (by omega)
      have hc1 := hc k hlt
      obtain ⟨y, hy⟩ : ∃ y, y = nth xs k := ⟨_, rfl⟩
      rw [← hy] at hc1
      have HY := Lib.hid hy
      clear hc hy hs
      by_cases hg : 0 ≤ y ∧ y < p
      · have HG := Lib.hid hg
        have HF2 := Lib.hid (HF.out wr HDR.out y)
        rw [decide_eq_false (fun h => h hg)] at HF2
        clear hg
        go_wp2_with (go_at_call 180; refine HF2.out.mono ?_; rintro r w2 ⟨rfl, rfl⟩)
        go_roundw
        case rel => exact ⟨k + 1, by omega, by go_num, HDR.out, fun j hj => by
          rcases Nat.lt_or_ge j k with h | h
          · exact HA.out j h
          · obtain rfl : j = k := by omega
            rw [← HY.out]; exact HG.out⟩
        case measure => simp [intOf]; omega
      · have HG := Lib.hid hg
        have HF2 := Lib.hid (HF.out wr HDR.out y)
        rw [decide_eq_true hg] at HF2
        clear hg
        go_wp2_with (go_at_call 180; refine HF2.out.mono ?_; rintro r w2 ⟨rfl, rfl⟩)
        go_ret
        exact ⟨(k : Int), rfl, .inr ⟨by omega, k, hlt, by rw [← HY.out]; exact HG.out⟩, HDR.out⟩
    · have hkn : k = n := by omega
      subst hkn
      go_wp2
      go_ret
      exact ⟨-1, rfl, .inl ⟨by omega, HA.out⟩, HDR.out⟩
set_option maxHeartbeats 400000 in
theorem containsNone_is (b : Bool) (A : Option Addr) (n c : Nat) (xs : List Int) (p : Int) (g : Nat) (w : World) (hs : SI w A n xs) (hn : n ≤ 1099511627776) (hk : w.cell? ⟨g, 0, none⟩ = some (.int .i64 p)) (hb : b = false ↔ ∀ k, k < n → 0 ≤ nth xs k ∧ nth xs k < p) :
    Calls Try.prog 87 #[.slice A n c, .func (.func 180) #[] #[.pointer (some ⟨g, 0, none⟩)]] w fun r w' => r = .returned (.bool b) ∧ Drawn w w' := by
  have HC := Lib.hid (indexNone_any A n c xs p g w hs hn hk)
  have HBB := Lib.hid hb
  clear hs hk hb
  go_enter Try.func87, Try.ntmps87
  go_wp2_with (go_at_call 138; refine HC.out.mono ?_; rintro r w2 ⟨i, rfl, hi, hd⟩; have HI := Lib.hid hi; have HD := Lib.hid hd; clear hi hd)
  go_ret
  refine ⟨ret_bool ?_, HD.out⟩
  rcases HI.out with ⟨h1, h2⟩ | ⟨h1, k, hk, h2⟩
  · rw [HBB.out.2 h2]
    simp only [decide_eq_false_iff_not]; omega
  · have hbt : b = true := by
      cases b with
      | true => rfl
      | false => exact absurd (HBB.out.1 rfl k hk) h2
    rw [hbt]
    simp only [decide_eq_true_eq]; omega
end Go.Proofs.Ytfaegfhbbkicgaa

/-
  Whether a matrix is one: the document's function and the program's. Conditions: lengths below 2^40.
-/

namespace Go.Proofs.Ytfaegfhbbkicgaa
open Go.RowKit

set_option maxRecDepth 100000 in
set_option maxHeartbeats 4000000 in
theorem specMatrixOk_any (p r c : Int) (A : Option Addr) (n k : Nat) (xs : List Int) (w : World) (hs : SI w A n xs) (hn : n ≤ 1099511627776) :
    Calls Try.prog 123 #[.agg #[.int .i64 p, .int .i64 r, .int .i64 c, .slice A n k]] w fun e w' => e = .returned (.bool (matB p r c xs)) ∧ Below w.heap.size w w' := by
  obtain ⟨w1, hw1⟩ : ∃ w1, w1 = w.alloc (.cells #[.int .i64 p, .int .i64 r, .int .i64 c, .slice A n k] 27) := ⟨_, rfl⟩
  obtain ⟨g, hg⟩ : ∃ g, g = w.heap.size := ⟨_, rfl⟩
  have hk : Blk w1 g 27 #[.int .i64 p, .int .i64 r, .int .i64 c, .slice A n k] := by rw [hw1, hg]; exact Blk.new _ _ _
  have hb : Below w.heap.size w w1 := by rw [hw1]; exact Below.alloc_self _ _
  have HB := Lib.hid hb
  have HW := Lib.hid hw1
  have HG := Lib.hid hg
  have HK := Lib.hid hk
  have HL := Lib.hid hs.1
  have HS := Lib.hid (hs.below hb (Nat.le_refl _))
  obtain ⟨q0, q1, q2, q3⟩ := cells4 hk
  clear hb hw1 hg hk hs
  by_cases hneg : P7 p
  case neg =>
    have HP := Lib.hid (fun w => l7Prime_no hneg w)
    have HF := Lib.hid (matB_false (p := p) (r := r) (c := c) (xs := xs) (fun h => hneg h.1))
    clear hneg
    go_enter Try.func123, Try.ntmps123
    go_upto_region 1 with fail
    rw [← HW.out, ← HG.out]
    go_wp2_with (first | (go_at_call 78; with_reducible refine (HP.out _).mono ?_; rintro e w2 ⟨rfl, rfl⟩))
    go_ret
    exact ⟨ret_bool HF.out.symm, HB.out⟩
  case pos =>
    have HP := Lib.hid (fun w => l7Prime_yes hneg w)
    have HP7 := Lib.hid hneg
    clear hneg
    by_cases hneg : 0 ≤ r ∧ r ≤ 7
    case neg =>
      have HR := Lib.hid (fun w => l1In_no' (a := r) (lo := 0) (hi := 7) (by omega) w)
      have HF := Lib.hid (matB_false (p := p) (r := r) (c := c) (xs := xs) (fun h => hneg h.2.1))
      clear hneg
      go_enter Try.func123, Try.ntmps123
      go_upto_region 1 with fail
      rw [← HW.out, ← HG.out]
      go_wp2_with (first | (go_at_call 78; with_reducible refine (HP.out _).mono ?_; rintro e w2 ⟨rfl, rfl⟩) | (go_at_call 82; with_reducible refine (HR.out _).mono ?_; rintro e w2 ⟨rfl, rfl⟩))
      go_ret
      exact ⟨ret_bool HF.out.symm, HB.out⟩
    case pos =>
      have HR := Lib.hid (fun w => l1In_yes' (a := r) (lo := 0) (hi := 7) hneg.1 hneg.2 w)
      have HRB := Lib.hid hneg
      clear hneg
      by_cases hneg : 1 ≤ c ∧ c ≤ 7
      case neg =>
        have HC := Lib.hid (fun w => l1In_no' (a := c) (lo := 1) (hi := 7) (by omega) w)
        have HF := Lib.hid (matB_false (p := p) (r := r) (c := c) (xs := xs) (fun h => hneg h.2.2.1))
        clear hneg
        go_enter Try.func123, Try.ntmps123
        go_upto_region 1 with fail
        rw [← HW.out, ← HG.out]
        go_wp2_with (first | (go_at_call 78; with_reducible refine (HP.out _).mono ?_; rintro e w2 ⟨rfl, rfl⟩) | (go_at_call 82; with_reducible refine (HR.out _).mono ?_; rintro e w2 ⟨rfl, rfl⟩) | (go_at_call 82; with_reducible refine (HC.out _).mono ?_; rintro e w2 ⟨rfl, rfl⟩))
        go_ret
        exact ⟨ret_bool HF.out.symm, HB.out⟩
      case pos =>
        have HC := Lib.hid (fun w => l1In_yes' (a := c) (lo := 1) (hi := 7) hneg.1 hneg.2 w)
        have HCB := Lib.hid hneg
        clear hneg
        obtain ⟨rc, hrc⟩ : ∃ rc, rc = r * c := ⟨_, rfl⟩
        have hrcb := mul_small HRB.out ⟨by have := HCB.out; omega, HCB.out.2⟩
        rw [← hrc] at hrcb
        have hwr : IntKind.i64.wrap (r * c) = rc := by rw [← hrc]; exact IntWalk.i64_in _ (by omega)
        have HRC := Lib.hid hrc
        clear hrc
        by_cases hneg : (n : Int) = rc
        case neg =>
          have hb1 : ((n : Int) != rc) = true := by simpa using hneg
          have HF := Lib.hid (matB_false (p := p) (r := r) (c := c) (xs := xs) (fun h => hneg (by have := h.2.2.2.1; rw [HL.out, ← HRC.out] at this; exact this)))
          clear hneg
          go_enter Try.func123, Try.ntmps123
          go_upto_region 1 with fail
          rw [← HW.out, ← HG.out]
          go_wp2_with (first | (go_at_call 78; with_reducible refine (HP.out _).mono ?_; rintro e w2 ⟨rfl, rfl⟩) | (go_at_call 82; with_reducible refine (HR.out _).mono ?_; rintro e w2 ⟨rfl, rfl⟩) | (go_at_call 82; with_reducible refine (HC.out _).mono ?_; rintro e w2 ⟨rfl, rfl⟩))
          go_ret
          exact ⟨ret_bool HF.out.symm, HB.out⟩
        case pos =>
          have hb1 : ((n : Int) != rc) = false := by simpa using hneg
          have HN := Lib.hid hneg
          clear hneg
          have hn49 : n ≤ 49 := by have := HN.out; omega
          have HPB : Hid (2 ≤ p ∧ p ≤ 7) := Lib.hid ⟨HP7.out.two, HP7.out.le⟩
          go_enter Try.func123, Try.ntmps123
          go_upto_region 1 with fail
          rw [← HW.out, ← HG.out]
          go_wp2_with (first | (go_at_call 78; with_reducible refine (HP.out _).mono ?_; rintro e w2 ⟨rfl, rfl⟩) | (go_at_call 82; with_reducible refine (HR.out _).mono ?_; rintro e w2 ⟨rfl, rfl⟩) | (go_at_call 82; with_reducible refine (HC.out _).mono ?_; rintro e w2 ⟨rfl, rfl⟩))
          clear hwr hb1 q0 q1 q2 q3
          go_loopw [3] (fun iv wr => ∃ i : Nat, i ≤ n ∧ iv = .int .i64 i ∧ Drawn w1 wr ∧ ∀ j, j < i → 0 ≤ nth xs j ∧ nth xs j < p)
            (fun iv _ => n - (intOf iv).toNat)
          case atStart => exact ⟨0, Nat.zero_le _, rfl, Drawn.refl _, fun j hj => absurd hj (by omega)⟩
          case round =>
            obtain ⟨i, hi, rfl, hD, hall⟩ := hrel
            have HD := Lib.hid hD
            have HA := Lib.hid hall
            have hsi := hD.si HS.out
            obtain ⟨q0, q1, q2, q3⟩ := cells4 (HK.out.drawn hD)
            clear hD hall
            by_cases hlt : i < n
            case neg =>
              have hin : i = n := by omega
              subst hin
              have HT := Lib.hid (matB_true (p := p) (r := r) (c := c) (xs := xs) ⟨HP7.out, HRB.out, HCB.out, by rw [HL.out, ← HRC.out]; exact HN.out, by rw [HL.out]; exact HA.out⟩)
              clear hsi
              go_wp2
              go_ret
              exact ⟨ret_bool HT.out.symm, HB.out.trans (HD.out.below _)⟩
            case pos =>
              have hlI : (i : Int) < (n : Int) := by omega
              obtain ⟨b, o, rfl, hbb, hc⟩ := hsi.at_ (by omega)
              have hc1 := hc i hlt
              obtain ⟨y, hy⟩ : ∃ y, y = nth xs i := ⟨_, rfl⟩
              rw [← hy] at hc1
              have HY := Lib.hid hy
              clear hc hy hsi
              have hp1 : IntKind.i64.wrap (p - 1) = p - 1 := IntWalk.i64_in _ (by have := HPB.out; omega)
              by_cases hg : 0 ≤ y ∧ y < p
              · have HG := Lib.hid hg
                have HI := Lib.hid (fun (w : World) (m : Nat) => Calls.quiet_of (l1In_yes (a := y) (lo := 0) (hi := p - 1) hg.1 (by omega) (w.drewN m)))
                clear hg
                go_wp2_with fail
                go_quiet ((go_at_call 82; with_reducible exact HI.out _ _))
                go_wp2
                go_roundw
                case rel => exact ⟨i + 1, by omega, by go_num, HD.out.drewN _, fun j hj => by
                  rcases Nat.lt_or_ge j i with h | h
                  · exact HA.out j h
                  · obtain rfl : j = i := by omega
                    rw [← HY.out]; exact HG.out⟩
                case measure => simp [intOf]; omega
              · have HF := Lib.hid (matB_false (p := p) (r := r) (c := c) (xs := xs) (fun h => hg (by have := h.2.2.2.2 i (by rw [HL.out]; exact hlt); rw [← HY.out] at this; exact this)))
                have HI := Lib.hid (fun (w : World) (m : Nat) => Calls.quiet_of (l1In_no (a := y) (lo := 0) (hi := p - 1) (by omega) (w.drewN m)))
                clear hg
                go_wp2_with fail
                go_quiet ((go_at_call 82; with_reducible exact HI.out _ _))
                go_wp2
                go_ret
                exact ⟨ret_bool HF.out.symm, HB.out.trans ((HD.out.drewN _).below _)⟩
set_option maxRecDepth 100000 in
set_option maxHeartbeats 4000000 in
theorem implMatrixOk_any (p r c : Int) (A : Option Addr) (n k : Nat) (xs : List Int) (w : World) (hs : SI w A n xs) (hn : n ≤ 1099511627776) :
    Calls Try.prog 127 #[.agg #[.int .i64 p, .int .i64 r, .int .i64 c, .slice A n k]] w fun e w' => e = .returned (.bool (matB p r c xs)) ∧ Below w.heap.size w w' := by
  obtain ⟨w1, hw1⟩ : ∃ w1, w1 = w.alloc (.cells #[.int .i64 p, .int .i64 r, .int .i64 c, .slice A n k] 27) := ⟨_, rfl⟩
  obtain ⟨g, hg⟩ : ∃ g, g = w.heap.size := ⟨_, rfl⟩
  have hk : Blk w1 g 27 #[.int .i64 p, .int .i64 r, .int .i64 c, .slice A n k] := by rw [hw1, hg]; exact Blk.new _ _ _
  have hb : Below w.heap.size w w1 := by rw [hw1]; exact Below.alloc_self _ _
  have HB := Lib.hid hb
  have HW := Lib.hid hw1
  have HG := Lib.hid hg
  have HK := Lib.hid hk
  have HL := Lib.hid hs.1
  have HS := Lib.hid (hs.below hb (Nat.le_refl _))
  obtain ⟨q0, q1, q2, q3⟩ := cells4 hk
  clear hb hw1 hg hk hs
  by_cases hneg : P7 p
  case neg =>
    have HP := Lib.hid (fun w => isModulus_no hneg w)
    have HF := Lib.hid (matB_false (p := p) (r := r) (c := c) (xs := xs) (fun h => hneg h.1))
    clear hneg
    go_enter Try.func127, Try.ntmps127
    go_upto_region 1 with fail
    rw [← HW.out, ← HG.out]
    go_wp2_with (first | (go_at_call 80; with_reducible refine (HP.out _).mono ?_; rintro e w2 ⟨rfl, rfl⟩))
    go_ret
    exact ⟨ret_bool HF.out.symm, HB.out⟩
  case pos =>
    have HP := Lib.hid (fun w => isModulus_yes hneg w)
    have HP7 := Lib.hid hneg
    clear hneg
    by_cases hneg : r < 0
    case pos =>
      have hr0 := hneg
      have HF := Lib.hid (matB_false (p := p) (r := r) (c := c) (xs := xs) (fun h => by have := h.2.1; omega))
      clear hneg
      go_enter Try.func127, Try.ntmps127
      go_upto_region 1 with fail
      rw [← HW.out, ← HG.out]
      go_wp2_with (first | (go_at_call 80; with_reducible refine (HP.out _).mono ?_; rintro e w2 ⟨rfl, rfl⟩))
      go_ret
      exact ⟨ret_bool HF.out.symm, HB.out⟩
    case neg =>
    by_cases hneg2 : r ≤ 7
    case neg =>
      have hr0 := hneg
      clear hneg
      have hneg := hneg2
      clear hneg2
      have hr7 : r > 7 := by omega
      have HF := Lib.hid (matB_false (p := p) (r := r) (c := c) (xs := xs) (fun h => by have := h.2.1; omega))
      clear hneg
      go_enter Try.func127, Try.ntmps127
      go_upto_region 1 with fail
      rw [← HW.out, ← HG.out]
      go_wp2_with (first | (go_at_call 80; with_reducible refine (HP.out _).mono ?_; rintro e w2 ⟨rfl, rfl⟩))
      go_ret
      exact ⟨ret_bool HF.out.symm, HB.out⟩
    case pos =>
      have HRB : Hid (0 ≤ r ∧ r ≤ 7) := Lib.hid (by omega)
      have hr0 := hneg
      clear hneg
      have hr7 : ¬ r > 7 := by omega
      clear hneg2
      by_cases hneg : 1 ≤ c ∧ c ≤ 7
      case neg =>
        have HC := Lib.hid (fun w => isPermSize_no (a := c) (by omega) w)
        have HF := Lib.hid (matB_false (p := p) (r := r) (c := c) (xs := xs) (fun h => hneg h.2.2.1))
        clear hneg
        go_enter Try.func127, Try.ntmps127
        go_upto_region 1 with fail
        rw [← HW.out, ← HG.out]
        go_wp2_with (first | (go_at_call 80; with_reducible refine (HP.out _).mono ?_; rintro e w2 ⟨rfl, rfl⟩) | (go_at_call 157; with_reducible refine (HC.out _).mono ?_; rintro e w2 ⟨rfl, rfl⟩))
        go_ret
        exact ⟨ret_bool HF.out.symm, HB.out⟩
      case pos =>
        have HC := Lib.hid (fun w => isPermSize_yes (a := c) hneg.1 hneg.2 w)
        have HCB := Lib.hid hneg
        clear hneg
        obtain ⟨rc, hrc⟩ : ∃ rc, rc = r * c := ⟨_, rfl⟩
        have hrcb := mul_small HRB.out ⟨by have := HCB.out; omega, HCB.out.2⟩
        rw [← hrc] at hrcb
        have hwr : IntKind.i64.wrap (r * c) = rc := by rw [← hrc]; exact IntWalk.i64_in _ (by omega)
        have HRC := Lib.hid hrc
        clear hrc
        by_cases hneg : (n : Int) = rc
        case neg =>
          have hb1 : ((n : Int) != rc) = true := by simpa using hneg
          have HF := Lib.hid (matB_false (p := p) (r := r) (c := c) (xs := xs) (fun h => hneg (by have := h.2.2.2.1; rw [HL.out, ← HRC.out] at this; exact this)))
          clear hneg
          go_enter Try.func127, Try.ntmps127
          go_upto_region 1 with fail
          rw [← HW.out, ← HG.out]
          go_wp2_with (first | (go_at_call 80; with_reducible refine (HP.out _).mono ?_; rintro e w2 ⟨rfl, rfl⟩) | (go_at_call 157; with_reducible refine (HC.out _).mono ?_; rintro e w2 ⟨rfl, rfl⟩))
          go_ret
          exact ⟨ret_bool HF.out.symm, HB.out⟩
        case pos =>
          have hb1 : ((n : Int) != rc) = false := by simpa using hneg
          have HN := Lib.hid hneg
          clear hneg
          have hn49 : n ≤ 49 := by have := HN.out; omega
          obtain ⟨bb, hbb⟩ : ∃ bb, bb = matB p r c xs := ⟨_, rfl⟩
          have HBB : Hid ((!bb) = false ↔ ∀ k, k < n → 0 ≤ nth xs k ∧ nth xs k < p) := Lib.hid (by
            rw [hbb]
            constructor
            · intro h
              have h2 : matB p r c xs = true := by simpa using h
              have h3 := (matB_P h2).2.2.2.2
              rw [HL.out] at h3; exact h3
            · intro h
              rw [matB_true ⟨HP7.out, HRB.out, HCB.out, by rw [HL.out, ← HRC.out]; exact HN.out, by rw [HL.out]; exact h⟩]; rfl)
          rw [← hbb]
          have HCN := Lib.hid (containsNone_is (!bb) A n k xs p g w1 HS.out hn q0 HBB.out)
          have hmf : ∀ (fn : Fn) (first cap : Array Value) (w : World), (Instr.makeFunc fn first cap).run Try.prog w = .ok (.func fn first cap) w := fun _ _ _ _ => rfl
          clear hbb HBB
          go_enter Try.func127, Try.ntmps127
          go_upto_region 1 with fail
          rw [← HW.out, ← HG.out]
          go_wp2_with (first | (go_at_call 80; with_reducible refine (HP.out _).mono ?_; rintro e w2 ⟨rfl, rfl⟩) | (go_at_call 157; with_reducible refine (HC.out _).mono ?_; rintro e w2 ⟨rfl, rfl⟩) | (go_at_call 87; with_reducible refine HCN.out.mono ?_; rintro e w2 ⟨rfl, hd⟩; have HD := Lib.hid hd; clear hd))
          go_ret
          exact ⟨ret_bool (by simp), HB.out.trans (HD.out.below _)⟩
end Go.Proofs.Ytfaegfhbbkicgaa

/-
  New matrices and rows of matrices, on the program's side. Conditions: sizes at most 14.
-/


namespace Go.Proofs.Ytfaegfhbbkicgaa
open Go.RowKit

theorem nat_mul_small {r c : Nat} (hr : r ≤ 14) (hc : c ≤ 14) : r * c ≤ 196 := by
  have h : r * c ≤ 14 * 14 := Nat.mul_le_mul hr hc
  omega
theorem wrap_mul_nat {r c N : Nat} (hN : N = r * c) (h : N ≤ 1099511627776) : IntKind.i64.wrap ((r : Int) * (c : Int)) = (N : Int) := by
  rw [show (r : Int) * (c : Int) = (N : Int) by rw [hN]; simp]
  exact IntWalk.i64_in _ (by omega)
set_option maxHeartbeats 1000000 in
theorem zeroMatrix_any (p : Int) (r c : Nat) (w : World) (hr : r ≤ 14) (hc : c ≤ 14) :
    Calls Try.prog 181 #[.int .i64 p, .int .i64 r, .int .i64 c] w fun e w' => FreshMx w w' e p r c (List.replicate (r * c) 0) := by
  obtain ⟨w1, hw1⟩ : ∃ w1, w1 = w.alloc (.cells #[.int .i64 0, .int .i64 0, .int .i64 0, .slice none 0 0] 27) := ⟨_, rfl⟩
  obtain ⟨g, hg⟩ : ∃ g, g = w.heap.size := ⟨_, rfl⟩
  have hk : Blk w1 g 27 #[.int .i64 0, .int .i64 0, .int .i64 0, .slice none 0 0] := by rw [hw1, hg]; exact Blk.new _ _ _
  have HB : Hid (Below w.heap.size w w1) := Lib.hid (by rw [hw1]; exact Below.alloc_self _ _)
  have HW := Lib.hid hw1
  have HG := Lib.hid hg
  have HK := Lib.hid hk
  obtain ⟨N, hN⟩ : ∃ N, N = r * c := ⟨_, rfl⟩
  have hN1 : N ≤ 1099511627776 := by have := nat_mul_small hr hc; omega
  have hwr := wrap_mul_nat hN hN1
  rw [← hN]
  clear hw1 hg hk hN
  go_enter Try.func181, Try.ntmps181
  go_upto_region 1 with fail
  rw [← HW.out, ← HG.out]
  go_wp2_with (first
    | (at_make; refine wpList_make_zero rfl (.tmp 12) (.tmp 12) rfl N rfl rfl hN1 ?_; intro w2 ho2 hb2; have HO2 := Lib.hid ho2; have HB2 := Lib.hid hb2; obtain ⟨g2, hg2⟩ : ∃ g2, g2 = w1.heap.size := ⟨_, rfl⟩; have HG2 := Lib.hid hg2; rw [← hg2]; clear ho2 hb2 hg2)
    | (refine wpList_store_rowP rfl 27 (.tmp 6) (.tmp 14) rfl g #[.int .i64 p, .int .i64 r, .int .i64 c, .slice (some ⟨g2, 0, none⟩) N N] rfl rfl 27 #[.int .i64 0, .int .i64 0, .int .i64 0, .slice none 0 0] (HK.out.below HB2.out HK.out.lt) Try.infoMx rfl (by simp [Value.oneCell']) ?_; intro w5 hb5 hg5)
    | fail)
  refine bodyPost_ret (results_rowP Try.results181 _ _ _ 27 #[.int .i64 p, .int .i64 r, .int .i64 c, .slice (some ⟨g2, 0, none⟩) N N] _ rfl hb5 Try.underlying27 rfl Try.infoMx) rfl ?_
  have l1 := HG.out
  have l2 := HG2.out
  have l3 := HK.out.lt
  have l4 := HB.out.size
  have l5 := hg5.size
  have l6 := HB2.out.size
  have ho := HO2.out
  rw [← l2] at ho
  refine ⟨some ⟨g2, 0, none⟩, N, N, rfl, ?_, ?_⟩
  · exact (ho.grown hg5 (fun k hk => by injection hk with hk; omega)).wide (by omega) (by omega)
  · exact (HB.out.trans (HB2.out.mono (by omega))).grown hg5 (by omega) (by rintro k ⟨⟩; omega)
set_option maxHeartbeats 1000000 in
/-- A row of a matrix: a part of its Data. -/
theorem matRow_any (p r : Int) (b o n k c i : Nat) (w : World) (hc : c ≤ 14) (hi : i ≤ 14) (h : (i + 1) * c ≤ n) (hnk : n ≤ k) (hn : n ≤ 1099511627776) (hc0 : 0 < c) :
    Calls Try.prog 131 #[.agg #[.int .i64 p, .int .i64 r, .int .i64 c, .slice (some ⟨b, o, none⟩) n k], .int .i64 i] w fun e w' => e = .returned (.slice (some ⟨b, o + i * c, none⟩) c (k - i * c)) ∧ Below w.heap.size w w' := by
  obtain ⟨w1, hw1⟩ : ∃ w1, w1 = w.alloc (.cells #[.int .i64 p, .int .i64 r, .int .i64 c, .slice (some ⟨b, o, none⟩) n k] 27) := ⟨_, rfl⟩
  obtain ⟨g, hg⟩ : ∃ g, g = w.heap.size := ⟨_, rfl⟩
  have hk : Blk w1 g 27 #[.int .i64 p, .int .i64 r, .int .i64 c, .slice (some ⟨b, o, none⟩) n k] := by rw [hw1, hg]; exact Blk.new _ _ _
  have HB : Hid (Below w.heap.size w w1) := Lib.hid (by rw [hw1]; exact Below.alloc_self _ _)
  have HW := Lib.hid hw1
  have HG := Lib.hid hg
  obtain ⟨q0, q1, q2, q3⟩ := cells4 hk
  obtain ⟨N, hN⟩ : ∃ N, N = i * c := ⟨_, rfl⟩
  obtain ⟨M, hM⟩ : ∃ M, M = (i + 1) * c := ⟨_, rfl⟩
  have hMN : M = N + c := by rw [hM, hN, Nat.add_mul, Nat.one_mul]
  have hM1 : M ≤ 1099511627776 := by omega
  have hwr := wrap_mul_nat hN (by omega)
  have hwr2 : IntKind.i64.wrap (((i : Int) + 1) * (c : Int)) = (M : Int) := by
    have := wrap_mul_nat hM hM1
    rwa [Int.natCast_add] at this
  rw [← hM] at h
  rw [← hN]
  have hkN : ¬ k = N := by omega
  have HMN := Lib.hid hMN
  have hd : (M : Int) - (N : Int) = (c : Int) := by omega
  clear hw1 hg hk hN hM
  go_enter Try.func131, Try.ntmps131
  go_upto_region 1 with fail
  rw [← HW.out, ← HG.out]
  go_wp2
  go_ret
  refine ⟨?_, HB.out⟩
  simp
end Go.Proofs.Ytfaegfhbbkicgaa

/-
  Slices of slices of numbers that a call owns: a list put in, a list more behind them, made of nothing. Conditions: lengths below 2^40.
-/

namespace Go.Proofs.Ytfaegfhbbkicgaa
open Go.RowKit

theorem row1_eq {w : World} {lo : Nat} {t : TypeId} {v : Value} {n : Nat} {xs ys : List Value} (h : w.ownsRow lo t 1 v n xs) (e : xs = ys) : w.ownsRow lo t 1 v n ys := e ▸ h
theorem OwnL.put {w : World} {lo hi g n c : Nat} {ls : List (List Int)} (h : OwnL w lo hi (some ⟨g, 0, none⟩) n c ls) {k : Nat} (hk : k < n) {lo' hi' n' c' : Nat} {A' : Option Addr} {xs : List Int} (hx : Own w lo' hi' A' n' c' xs)
    (h1 : hi ≤ lo') (h2 : lo ≤ lo') (h3 : hi ≤ hi') :
    OwnL (w.setCell ⟨g, k, none⟩ (.slice A' n' c')) lo hi' (some ⟨g, 0, none⟩) n c (ls.set k xs) ∧ w.grownBy (w.setCell ⟨g, k, none⟩ (.slice A' n' c')) (some g) := by
  obtain ⟨E, hl, ho, hh, he, hne, hdd⟩ := h
  have hgl := hh g rfl
  obtain ⟨o1, gg⟩ := ho.stored k (.slice A' n' c')
  refine ⟨⟨fun j => if j = k then (A', n', c') else E j, by simpa using hl, ?_, fun b hb => by have := hh b hb; omega, fun j hj => ?_, fun j b hj hb => ?_, fun i j b hij hj hb => ?_⟩, gg⟩
  · exact row1_eq o1 (heads_set E hk (A', n', c'))
  · dsimp only
    rw [li_set (by omega)]
    by_cases e : j = k
    · rw [if_pos e, if_pos e]
      exact (hx.grown gg (fun b hb => .inl (by injection hb with hb; omega))).wide h2 (Nat.le_refl _)
    · rw [if_neg e, if_neg e]
      exact ((he j hj).kept gg (fun b hb => hne j b hj hb)).wide (Nat.le_refl _) h3
  · dsimp only at hb
    by_cases e : j = k
    · rw [if_pos e] at hb
      have := hx.lt b hb
      intro e2; injection e2 with e2; dsimp only at e2; omega
    · rw [if_neg e] at hb
      exact hne j b hj hb
  · dsimp only at hb ⊢
    by_cases e : i = k
    · rw [if_pos e] at hb
      rw [if_neg (by omega)]
      intro e2
      have := hx.lt b hb
      have := (he j hj).2 b e2
      omega
    · rw [if_neg e] at hb
      by_cases e' : j = k
      · rw [if_pos e']
        intro e2
        have := hx.lt b e2
        have := (he i (by omega)).2 b hb
        omega
      · rw [if_neg e']
        exact hdd i j b hij hj hb
theorem OwnL.zeros {w : World} {lo hi g n c : Nat} (h : w.ownsRow lo 22 1 (.slice (some ⟨g, 0, none⟩) n c) n (List.replicate n (.slice none 0 0))) (hlt : g < hi) : OwnL w lo hi (some ⟨g, 0, none⟩) n c (List.replicate n []) := by
  refine ⟨fun _ => (none, 0, 0), by simp, row1_eq h ?_, fun b hb => by simp [Value.ownBlock] at hb; omega, fun j hj => ?_, fun j b hj hb => by simp [sv, Value.ownBlock] at hb, fun i j b _ _ hb => by simp [sv, Value.ownBlock] at hb⟩
  · apply List.ext_getElem (by simp [heads])
    intro j h1 h2
    simp [heads, sv]
  · have e : li (List.replicate n ([] : List Int)) j = [] := by rw [li_get (by simpa using hj)]; simp
    rw [e]
    exact Own.nil _ _ _
theorem Try.infoLs : (Try.prog.info? 22).map (fun i => (i.zero, i.size, i.bytes)) = some (some (.slice none 0 0), 1, 24) := by kernel_rfl
/-- 'make([][]int, n)'. -/
theorem wpList_make_lists {ops : Array Oper} {rest : List Oper} {o : Oper} {a : Act} {w : World} {Q : Exit → Act → World → Prop} (hgd : o.guard = none) (l c : Operand) (ho : o.op = .makeSlice 41 l c)
    (n : Nat) (hl : a.eval l = .int .i64 n) (hc : a.eval c = .int .i64 n) (hn : n ≤ 1099511627776)
    (hK : ∀ w', OwnL w' w.heap.size w'.heap.size (some ⟨w.heap.size, 0, none⟩) n n (List.replicate n []) → Below w.heap.size w w' → wpList Try.prog ops Q rest (a.put o.dst (.slice (some ⟨w.heap.size, 0, none⟩) n n)) w') :
    wpList Try.prog ops Q (o :: rest) a w := by
  obtain ⟨i0, hi, hz0, hz1, hz2⟩ := info_parts Try.infoLs
  refine wpList_make_full w hgd l c 41 ho w.heap.size 22 i0 (.slice none 0 0) 1 Try.underlying41 hi hz0 hz1 .i64 .i64 n n n hl hc rfl rfl (by rw [hz2]; omega) (by unfold maxLen; omega) (Nat.le_refl _) ?_
  intro w1 ho1 hg1
  have e : (madeCells (Value.slice none 0 0).cells (n * 1)).toList = List.replicate n (.slice none 0 0) := by
    rw [show (Value.slice none 0 0).cells = #[Value.slice none 0 0] from rfl, Nat.mul_one, toList_madeCells_one]
  rw [e] at ho1
  exact hK w1 (OwnL.zeros ho1 (ho1.lt w.heap.size rfl).2) (grow_below hg1 (Nat.le_refl _) (by intro k hk; cases hk))
/-- 'out = append(out, x)' where x is a list of the call's own that lies behind them. -/
theorem wpList_appendL {ops : Array Oper} {rest : List Oper} {o : Oper} {a : Act} {w : World} {Q : Exit → Act → World → Prop} (hgd : o.guard = none) (s x : Operand)
    (ho : o.op = .call { callee := .builtin .append, args := #[s, x], argTypes := #[41, 41] })
    (lo hi : Nat) (A : Option Addr) (n c : Nat) (ls : List (List Int)) (lo2 hi2 : Nat) (A3 : Option Addr) (n3 c3 : Nat) (xs : List Int) (hs : a.eval s = .slice A n c) (hx : a.eval x = .slice (some ⟨w.heap.size, 0, none⟩) 1 1)
    (hown : OwnL w lo hi A n c ls) (hxs : Own w lo2 hi2 A3 n3 c3 xs) (hlo : lo ≤ lo2) (hd : hi ≤ lo2) (h1 : hi2 ≤ w.heap.size) (h2 : hi ≤ w.heap.size) (h3 : lo ≤ w.heap.size) (hn : n ≤ 1099511627776)
    (hK : ∀ A' c' w', OwnL w' lo w'.heap.size A' (n + 1) c' (ls ++ [xs]) → Below lo w w' → wpList Try.prog ops Q rest (a.put o.dst (.slice A' (n + 1) c')) w') :
    wpList Try.prog ops Q (o :: rest) a (w.alloc (.cells #[.slice A3 n3 c3] 22)) := by
  obtain ⟨i0, hi0, hz0, hz1, hz2⟩ := info_parts Try.infoLs
  obtain ⟨E, hE⟩ := hown
  have hE' : OwnLE E (w.alloc (.cells #[.slice A3 n3 c3] 22)) lo hi A n c ls := hE.below ((Below.refl w.heap.size w).alloc (Nat.le_refl _) _) h2
  have hx' : Own (w.alloc (.cells #[.slice A3 n3 c3] 22)) lo2 hi2 A3 n3 c3 xs := hxs.below ((Below.refl w.heap.size w).alloc (Nat.le_refl _) _) h1
  refine Go.wpList_append_own_at _ hgd s x 41 ho lo 22 i0 (.slice none 0 0) 1 24 Try.underlying41 hi0 hz0 hz1 hz2 rfl (by decide) _ _ _ hs hE'.2.1 ⟨w.heap.size, 0, none⟩ 1 1 [.slice A3 n3 c3] hx rfl ?_ ?_ (by unfold maxLen; omega) (by omega) (by simp; omega) ?_
  · intro j u hj
    match j, hj with
    | 0, hj =>
      simp at hj
      subst hj
      rw [add_pt]
      exact (Blk.new w 22 #[.slice A3 n3 c3]).cell 0
  · intro u hu
    simp at hu
    subst hu
    rfl
  · intro v' w1 ho1 hg1 _ hat
    obtain ⟨g, cap, rfl, _, hlt⟩ := ho1.form (by omega)
    have hh : OwnL w1 lo w1.heap.size (some ⟨g, 0, none⟩) (n + 1) cap (ls ++ [xs]) := hE'.app hx' hlo hd (H := w.heap.size) h1 h2 (by simp) ho1 hg1 (by
      rcases hat with h | h
      · exact .inl (by rw [← h]; rfl)
      · right
        simp [Value.ownBlock] at h
        omega) hlt
    have hg2 : w.grownBy w1 (Value.slice A n c).ownBlock := (World.grownBy_alloc w _ _).trans hg1
    exact hK _ _ w1 hh (grow_below hg2 h3 (fun k hk => (hE.2.1.lt k hk).1))
end Go.Proofs.Ytfaegfhbbkicgaa

/-
  Lists of lists, their blocks named and apart from another slice's; an append that keeps what it was given. Conditions: lengths below 2^40.
-/



namespace Go.Proofs.Ytfaegfhbbkicgaa
open Go.RowKit

/-- The block of a slice. -/
def rowB (A : Option Addr) : Option Nat := (Value.slice A 0 0).ownBlock
theorem ownB (A : Option Addr) (n c : Nat) : (Value.slice A n c).ownBlock = rowB A := by cases A <;> rfl
theorem rowB_some (g o : Nat) : rowB (some ⟨g, o, none⟩) = some g := rfl
/-- One more name. -/
def snE (E : Nat → Sv) (n : Nat) (a : Sv) : Nat → Sv := fun j => if j = n then a else E j
theorem snE_lt (E : Nat → Sv) {n j : Nat} (a : Sv) (h : j < n) : snE E n a j = E j := if_neg (by omega)
theorem snE_at (E : Nat → Sv) (n : Nat) (a : Sv) : snE E n a n = a := if_pos rfl
theorem OwnLE.appE {w w' : World} {lo hi n c : Nat} {A : Option Addr} {ls : List (List Int)} {E : Nat → Sv} (h : OwnLE E w lo hi A n c ls) {lo2 hi2 n2 c2 : Nat} {A2 : Option Addr} {xs : List Int} (hx : Own w lo2 hi2 A2 n2 c2 xs)
    (hlo : lo ≤ lo2) (hap : ∀ b, (Value.slice A2 n2 c2).ownBlock = some b → (Value.slice A n c).ownBlock ≠ some b ∧ ∀ j, j < n → (sv (E j)).ownBlock ≠ some b) {H g cap : Nat} (hH : hi2 ≤ H) (hHh : hi ≤ H) (hHw : H ≤ w.heap.size)
    (ho : w'.ownsRow lo 22 1 (.slice (some ⟨g, 0, none⟩) (n + 1) cap) (n + 1) (heads n E ++ [.slice A2 n2 c2]))
    (hg : w.grownBy w' (Value.slice A n c).ownBlock) (hat : (Value.slice A n c).ownBlock = some g ∨ H ≤ g) (hlt : g < w'.heap.size) : OwnLE (snE E n (A2, n2, c2)) w' lo w'.heap.size (some ⟨g, 0, none⟩) (n + 1) cap (ls ++ [xs]) := by
  obtain ⟨h1, h2, h3, h4, h5, h6⟩ := h
  have hsz := hg.size
  have eh : heads n E ++ [Value.slice A2 n2 c2] = heads (n + 1) (fun j => if j = n then (A2, n2, c2) else E j) := heads_app n E (A2, n2, c2)
  rw [eh] at ho
  have eE : ∀ j, j < n → (if j = n then ((A2, n2, c2) : Sv) else E j) = E j := fun j hj => by rw [if_neg (by omega)]
  have eN : (if n = n then ((A2, n2, c2) : Sv) else E n) = (A2, n2, c2) := if_pos rfl
  refine ⟨by simp [h1], ho, ?_, ?_, ?_, ?_⟩
  · intro k hk
    simp [Value.ownBlock] at hk
    omega
  · intro j hj
    by_cases e : j = n
    · subst e
      have := @li_app_at ls xs
      rw [h1] at this
      rw [this]
      show Own w' lo w'.heap.size (if j = j then ((A2, n2, c2) : Sv) else E j).1 (if j = j then ((A2, n2, c2) : Sv) else E j).2.1 (if j = j then ((A2, n2, c2) : Sv) else E j).2.2 xs
      rw [eN]
      exact (hx.kept hg (fun b hb e => (hap b hb).1 e)).wide hlo (by omega)
    · rw [li_app_lt (by rw [h1]; omega)]
      show Own w' lo w'.heap.size (if j = n then ((A2, n2, c2) : Sv) else E j).1 (if j = n then ((A2, n2, c2) : Sv) else E j).2.1 (if j = n then ((A2, n2, c2) : Sv) else E j).2.2 _
      rw [eE j (by omega)]
      exact ((h4 j (by omega)).kept hg (fun b hb e => h5 j b (by omega) hb e)).wide (Nat.le_refl _) (by omega)
  · intro j b hj hb e2
    have hbg : b = g := by simp [Value.ownBlock] at e2; omega
    subst hbg
    have hb' : (sv (if j = n then ((A2, n2, c2) : Sv) else E j)).ownBlock = some b := hb
    by_cases e : j = n
    · subst e
      rw [eN] at hb'
      have h7 := hx.lt b hb'
      rcases hat with ha | ha
      · exact (hap b hb').1 ha
      · omega
    · rw [eE j (by omega)] at hb'
      rcases hat with ha | ha
      · exact h5 j b (by omega) hb' ha
      · have := (h4 j (by omega)).lt b hb'; omega
  · intro i j b hij hj hb hb2
    have hb' : (sv (if i = n then ((A2, n2, c2) : Sv) else E i)).ownBlock = some b := hb
    have hb2' : (sv (if j = n then ((A2, n2, c2) : Sv) else E j)).ownBlock = some b := hb2
    rw [eE i (by omega)] at hb'
    by_cases e : j = n
    · subst e
      rw [eN] at hb2'
      exact (hap b hb2').2 i (by omega) hb'
    · rw [eE j (by omega)] at hb2'
      exact h6 i j b hij (by omega) hb' hb2'
/-- 'out = append(out, x)' where x is a list of the call's own that lies behind them. -/
theorem wpList_appendLE {ops : Array Oper} {rest : List Oper} {o : Oper} {a : Act} {w : World} {Q : Exit → Act → World → Prop} (hgd : o.guard = none) (s x : Operand)
    (ho : o.op = .call { callee := .builtin .append, args := #[s, x], argTypes := #[41, 41] })
    (lo hi : Nat) (A : Option Addr) (n c : Nat) (ls : List (List Int)) (lo2 hi2 : Nat) (A3 : Option Addr) (n3 c3 : Nat) (xs : List Int) (hs : a.eval s = .slice A n c) (hx : a.eval x = .slice (some ⟨w.heap.size, 0, none⟩) 1 1)
    {E : Nat → Sv} (hown : OwnLE E w lo hi A n c ls) (hxs : Own w lo2 hi2 A3 n3 c3 xs) (hlo : lo ≤ lo2) (hap : ∀ b, (Value.slice A3 n3 c3).ownBlock = some b → (Value.slice A n c).ownBlock ≠ some b ∧ ∀ j, j < n → (sv (E j)).ownBlock ≠ some b) (h1 : hi2 ≤ w.heap.size) (h2 : hi ≤ w.heap.size) (h3 : lo ≤ w.heap.size) (hn : n ≤ 1099511627776)
    (hK : ∀ A' c' w', OwnLE (snE E n (A3, n3, c3)) w' lo w'.heap.size A' (n + 1) c' (ls ++ [xs]) → (rowB A' = rowB A ∨ ∃ g, rowB A' = some g ∧ w.heap.size ≤ g) → w.grownBy w' (rowB A) → Below lo w w' → wpList Try.prog ops Q rest (a.put o.dst (.slice A' (n + 1) c')) w') :
    wpList Try.prog ops Q (o :: rest) a (w.alloc (.cells #[.slice A3 n3 c3] 22)) := by
  obtain ⟨i0, hi0, hz0, hz1, hz2⟩ := info_parts Try.infoLs
  have hE := hown
  have hE' : OwnLE E (w.alloc (.cells #[.slice A3 n3 c3] 22)) lo hi A n c ls := hE.below ((Below.refl w.heap.size w).alloc (Nat.le_refl _) _) h2
  have hx' : Own (w.alloc (.cells #[.slice A3 n3 c3] 22)) lo2 hi2 A3 n3 c3 xs := hxs.below ((Below.refl w.heap.size w).alloc (Nat.le_refl _) _) h1
  refine Go.wpList_append_own_at _ hgd s x 41 ho lo 22 i0 (.slice none 0 0) 1 24 Try.underlying41 hi0 hz0 hz1 hz2 rfl (by decide) _ _ _ hs hE'.2.1 ⟨w.heap.size, 0, none⟩ 1 1 [.slice A3 n3 c3] hx rfl ?_ ?_ (by unfold maxLen; omega) (by omega) (by simp; omega) ?_
  · intro j u hj
    match j, hj with
    | 0, hj =>
      simp at hj
      subst hj
      rw [add_pt]
      exact (Blk.new w 22 #[.slice A3 n3 c3]).cell 0
  · intro u hu
    simp at hu
    subst hu
    rfl
  · intro v' w1 ho1 hg1 _ hat
    obtain ⟨g, cap, rfl, _, hlt⟩ := ho1.form (by omega)
    have hh : OwnLE (snE E n (A3, n3, c3)) w1 lo w1.heap.size (some ⟨g, 0, none⟩) (n + 1) cap (ls ++ [xs]) := hE'.appE hx' hlo hap (H := w.heap.size) h1 h2 (by simp) ho1 hg1 (by
      rcases hat with h | h
      · exact .inl (by rw [← h]; rfl)
      · right
        simp [Value.ownBlock] at h
        omega) hlt
    have hg2 : w.grownBy w1 (Value.slice A n c).ownBlock := (World.grownBy_alloc w _ _).trans hg1
    rw [ownB] at hg2
    refine hK _ _ w1 hh ?_ hg2 (grow_below hg2 h3 (fun k hk => (hE.2.1.lt k (by rw [ownB]; exact hk)).1))
    rcases hat with h | h
    · left; rw [ownB, ownB] at h; exact h
    · right; rw [ownB] at h; exact ⟨_, h, by simp⟩
/-- The block g is none of the lists'. -/
def Apart (E : Nat → Sv) (A : Option Addr) (n g : Nat) : Prop := rowB A ≠ some g ∧ ∀ j, j < n → (sv (E j)).ownBlock ≠ some g
theorem OwnLE.apart_hi {E : Nat → Sv} {w : World} {lo hi n c : Nat} {A : Option Addr} {ls : List (List Int)} (h : OwnLE E w lo hi A n c ls) {w2 : World} {lo2 hi2 n2 c2 : Nat} {A2 : Option Addr} {xs : List Int} (hx : Own w2 lo2 hi2 A2 n2 c2 xs) (hd : hi ≤ lo2) :
    ∀ b, (Value.slice A2 n2 c2).ownBlock = some b → (Value.slice A n c).ownBlock ≠ some b ∧ ∀ j, j < n → (sv (E j)).ownBlock ≠ some b := fun b hb => by
  have h1 := (hx.lt b hb).1
  exact ⟨fun e => by have := h.2.2.1 b e; omega, fun j hj e => by have := (h.2.2.2.1 j hj).lt b e; omega⟩
theorem OwnLE.apart {E : Nat → Sv} {w w' : World} {lo hi n c : Nat} {A : Option Addr} {ls : List (List Int)} (h : OwnLE E w lo hi A n c ls) {row : Option Nat} (hg : w.grownBy w' row) (hr : ∀ g, row = some g → Apart E A n g) : OwnLE E w' lo hi A n c ls := by
  obtain ⟨h1, h2, h3, h4, h5, h6⟩ := h
  refine ⟨h1, h2.kept hg ?_, h3, fun j hj => (h4 j hj).kept hg fun b hb e => (hr b e).2 j hj hb, h5, h6⟩
  cases hb : (Value.slice A n c).ownBlock with
  | none => exact .inl rfl
  | some k => exact .inr fun e => (hr k e.symm).1 (by rw [← ownB A n c]; exact hb)
theorem OwnLE.wide {E : Nat → Sv} {w : World} {lo hi n c : Nat} {A : Option Addr} {ls : List (List Int)} (h : OwnLE E w lo hi A n c ls) {hi' : Nat} (h2 : hi ≤ hi') : OwnLE E w lo hi' A n c ls := by
  obtain ⟨e1, e2, e3, e4, e5, e6⟩ := h
  exact ⟨e1, e2, fun k hk => Nat.lt_of_lt_of_le (e3 k hk) h2, fun j hj => (e4 j hj).wide (Nat.le_refl _) h2, e5, e6⟩
/-- Without its last number. -/
theorem Own.front {w : World} {lo hi n c : Nat} {A : Option Addr} {xs : List Int} {x : Int} (h : Own w lo hi A (n + 1) c (xs ++ [x])) : Own w lo hi A n c xs := by
  have hl : xs.length = n := by have := h.len; simpa using this
  refine ⟨⟨by simpa using hl, ?_⟩, fun k hk => h.2 k (by rw [ownB] at hk ⊢; exact hk)⟩
  rcases h.1.2 with ⟨_, h0⟩ | ⟨g, cap, cur, e, hb, hg, hnc, hcm, hcs, ht⟩
  · omega
  · injection e with e1 e2 e3
    refine .inr ⟨g, cap, cur, by rw [e1, e3], hb, hg, by omega, hcm, hcs, ?_⟩
    have h2 := congrArg (List.take n) ht
    have e2 : List.take n (List.map (Value.int .i64) xs ++ List.map (Value.int .i64) [x]) = List.map (Value.int .i64) xs := by
      rw [List.take_append_of_le_length (by simp; omega), List.take_of_length_le (by simp; omega)]
    rw [List.take_take, List.map_append, e2, show min n ((n + 1) * 1) = n by omega] at h2
    rw [Nat.mul_one]; exact h2
/-- The same block. -/
theorem Own.same {w w' : World} {lo hi n c : Nat} {A : Option Addr} {xs : List Int} (h : Own w lo hi A n c xs) (hg : ∀ g, rowB A = some g → w'.heap[g]? = w.heap[g]?) : Own w' lo hi A n c xs := by
  refine ⟨⟨h.1.1, ?_⟩, h.2⟩
  rcases h.1.2 with hn | ⟨g, cap, cur, e, hb, hq, rest⟩
  · exact .inl hn
  · exact .inr ⟨g, cap, cur, e, hb, (hg g (by injection e with e1; rw [e1]; rfl)).trans hq, rest⟩
theorem Own.tight {w : World} {lo hi hi' n c : Nat} {A : Option Addr} {xs : List Int} (h : Own w lo hi A n c xs) (hg : ∀ g, rowB A = some g → g < hi') : Own w lo hi' A n c xs :=
  ⟨h.1, fun k hk => hg k (by rw [← ownB A n c]; exact hk)⟩
theorem grow_row (w : World) (lo n G : Nat) (xs : List Value) (Z : Array Value) (hl : xs.length = n) (hz : Z.size = 1) (hlo : lo ≤ w.heap.size) (hn : n ≤ G) (hG : G ≤ maxLen) :
    (w.drew.alloc (.cells (xs.toArray ++ Builtin.zeroCells Z (G - n)) 3)).ownsRow lo 3 1 (.slice (some ⟨w.heap.size, 0, none⟩) n G) n xs := by
  refine ⟨by omega, .inr ⟨w.heap.size, G, _, rfl, hlo, heap_alloc_new w.drew _, hn, hG, ?_, ?_⟩⟩
  · rw [Array.size_append, size_zeroCells, hz, List.size_toArray]; omega
  · rw [Array.toList_append, Nat.mul_one, List.take_append_of_le_length (by simp; omega), List.take_of_length_le (by simp; omega)]
set_option maxRecDepth 100000 in
/-- 'append(b, x)' on a slice of the call's own that is wanted again. -/
theorem wpList_append_keep {ops : Array Oper} {rest : List Oper} {o : Oper} {a : Act} {w : World} {Q : Exit → Act → World → Prop} (hgd : o.guard = none) (s x : Operand)
    (ho : o.op = .call { callee := .builtin .append, args := #[s, x], argTypes := #[22, 22] })
    (lo hi : Nat) (A : Option Addr) (n c : Nat) (xs : List Int) (v : Int) (hs : a.eval s = .slice A n c) (hx : a.eval x = .slice (some ⟨w.heap.size, 0, none⟩) 1 1)
    (hown : Own w lo hi A n c xs) (hlo : lo ≤ w.heap.size) (hn : n ≤ 1099511627776)
    (hK : ∀ A' c' w', Own w' lo w'.heap.size A' (n + 1) c' (xs ++ [v]) → w.grownBy w' (rowB A) → ((A' = A ∧ c' = c) ∨ ∃ g, A' = some ⟨g, 0, none⟩ ∧ w.heap.size ≤ g ∧ w.grownBy w' none) → wpList Try.prog ops Q rest (a.put o.dst (.slice A' (n + 1) c')) w') :
    wpList Try.prog ops Q (o :: rest) a (w.alloc (.cells #[.int .i64 v] 3)) := by
  obtain ⟨i0, hi0, hz0, hz1, hz2⟩ := info_parts Try.infoInt
  have hnews : ∀ j u, [Value.int .i64 v][j]? = some u → (w.alloc (.cells #[.int .i64 v] 3)).cell? ((⟨w.heap.size, 0, none⟩ : Addr).add j) = some u := by
    intro j u hj
    match j, hj with
    | 0, hj =>
      simp at hj
      subst hj
      rw [add_pt]
      exact (Blk.new w 3 #[.int .i64 v]).cell 0
  have hone : ∀ u ∈ [Value.int .i64 v], u.oneCell' = true := by
    intro u hu
    simp at hu
    subst hu
    rfl
  have hg1 : ∀ row, w.grownBy (w.alloc (.cells #[.int .i64 v] 3)) row := fun row => World.grownBy_alloc w _ row
  have hlo1 : lo ≤ (w.alloc (.cells #[.int .i64 v] 3)).heap.size := by simp; omega
  have hsz1 : w.heap.size ≤ (w.alloc (.cells #[.int .i64 v] 3)).heap.size := by simp
  have ho1 := hown.1.alloc (.cells #[.int .i64 v] 3)
  have hxl := hown.len
  have hz : (Value.int IntKind.i64 0).cells.size = 1 := rfl
  generalize (w.alloc (.cells #[.int .i64 v] 3)) = W at hnews hg1 hlo1 hsz1 ho1 ⊢
  have hgw : ∀ (row : Option Nat) (ob : Obj), w.grownBy (W.drew.alloc ob) row := fun row ob =>
    (hg1 row).trans ⟨rfl, rfl, rfl, by simp, fun k hk _ => heap_alloc_old W.drew _ hk⟩
  rcases ho1.2 with ⟨e, h0⟩ | ⟨g, cap, cur, e, hb, hq, hnc, hcm, hcs, ht⟩
  · injection e with e1 e2 e3
    subst e1; subst e3; subst h0
    have hx0 : xs = [] := List.eq_nil_of_length_eq_zero hxl
    subst hx0
    have hGn := grownCap_ge W 1 0 3
    have hGm := grownCap_le_maxLen W 1 0 3 (by unfold maxLen; omega)
    have hr := run_append_nil (P := Try.prog) W 22 o.type 3 i0 (.int .i64 0) Try.underlying22 hi0 hz0 ⟨w.heap.size, 0, none⟩ 1 1 [.int .i64 v] (by rw [hz1]; rfl) hnews (by omega) (by omega) (by rw [hz2]; omega)
    refine Lib.wpList_append_run _ hgd s x _ _ ho _ _ hs hx _ _ hr ?_
    refine hK _ _ _ (Own.of (grow_row W lo 1 _ [.int .i64 v] _ rfl hz hlo1 hGn hGm)) (hgw _ _) (.inr ⟨W.heap.size, rfl, hsz1, hgw _ _⟩)
  · injection e with e1 e2 e3
    subst e1; subst e3
    by_cases hroom : n + 1 ≤ c
    · refine wpList_append_own_spare _ hgd s x 22 ho lo 3 i0 1 Try.underlying22 hi0 hz1 g n c _ hs ho1 ⟨w.heap.size, 0, none⟩ 1 1 [.int .i64 v] hx rfl hnews hone hroom ?_
      intro w1 hr1 hg2
      have e1 : List.map (Value.int .i64) xs ++ [Value.int .i64 v] = (xs ++ [v]).map (Value.int .i64) := by simp
      rw [e1] at hr1
      exact hK _ _ w1 (Own.of hr1) ((hg1 _).trans hg2) (.inl ⟨rfl, rfl⟩)
    · have hGn := grownCap_ge W (n + 1) c 3
      have hGm := grownCap_le_maxLen W (n + 1) c 3 (by unfold maxLen; omega)
      have hr := run_append_grow (P := Try.prog) W 22 o.type 3 i0 (.int .i64 0) Try.underlying22 hi0 hz0 ⟨g, 0, none⟩ n c (xs.map (Value.int .i64)) (by rw [hz1]; simp; omega) (ho1.cells (g := g) rfl) ⟨w.heap.size, 0, none⟩ 1 1 [.int .i64 v] (by rw [hz1]; rfl) hnews (by omega) (by omega) (growslice_fits (by omega) (by rw [hz2]; omega))
      refine Lib.wpList_append_run _ hgd s x _ _ ho _ _ hs hx _ _ hr ?_
      have e1 : (xs.map (Value.int .i64)).toArray ++ [Value.int .i64 v].toArray = ((xs ++ [v]).map (Value.int .i64)).toArray := by simp
      rw [e1]
      refine hK _ _ _ (Own.of (grow_row W lo (n + 1) _ ((xs ++ [v]).map (Value.int .i64)) _ (by simp; omega) hz hlo1 hGn hGm)) (hgw _ _) (.inr ⟨W.heap.size, rfl, hsz1, hgw _ _⟩)
end Go.Proofs.Ytfaegfhbbkicgaa

/-
  The first rows of a matrix as slices of its Data, on the program's side. Conditions: sizes at most 14.
-/



namespace Go.Proofs.Ytfaegfhbbkicgaa
open Go.RowKit

/-- A block of its own with these heads of slices. -/
def OwnH (w : World) (lo g n : Nat) (E : Nat → Sv) : Prop := w.ownsRow lo 22 1 (.slice (some ⟨g, 0, none⟩) n n) n (heads n E)
section
variable {w w' : World} {lo g n : Nat} {E : Nat → Sv}
theorem OwnH.at_ (h : OwnH w lo g n E) : lo ≤ g ∧ g < w.heap.size := h.lt g rfl
theorem OwnH.below {B : Nat} (h : OwnH w lo g n E) (hb : Below B w w') (hB : g < B) : OwnH w' lo g n E := by
  refine ⟨h.1, ?_⟩
  rcases h.2 with hn | ⟨g', cap, cur, e, hl, hg, rest⟩
  · exact .inl hn
  · have hlt : g' = g := by injection e with e1; injection e1 with e1; injection e1 with e1; exact e1.symm
    subst hlt
    exact .inr ⟨g', cap, cur, e, hl, (hb.block g' (by omega)).trans hg, rest⟩
theorem OwnH.cellAt (h : OwnH w lo g n E) {k : Nat} (hk : k < n) : w.cell? ⟨g, k, none⟩ = some (sv (E k)) := by
  rw [World.ownsRow.cellAt h k (by omega), heads_get _ hk]
theorem OwnH.set_ (h : OwnH w lo g n E) {k : Nat} (hk : k < n) (a : Sv) : OwnH (w.setCell ⟨g, k, none⟩ (sv a)) lo g n (fun j => if j = k then a else E j) ∧ w.grownBy (w.setCell ⟨g, k, none⟩ (sv a)) (some g) := by
  have hst := World.ownsRow.stored h k (sv a)
  rw [heads_set E hk a] at hst
  exact hst
theorem OwnH.ls {ls : List (List Int)} (h : OwnH w lo g n E) (hl : ls.length = n) (hs : ∀ k, k < n → SI w (E k).1 (E k).2.1 (li ls k) ∧ (E k).2.1 ≤ (E k).2.2 ∧ ((E k).1 = none → (E k).2.1 = 0 ∧ (E k).2.2 = 0)) : LS w (some ⟨g, 0, none⟩) n ls :=
  ⟨hl, fun _ => ⟨g, 0, rfl, h.at_.2, fun k hk => ⟨(E k).1, (E k).2.1, (E k).2.2, by rw [Nat.zero_add]; exact h.cellAt hk, (hs k hk).1, (hs k hk).2.1, (hs k hk).2.2⟩⟩⟩
theorem OwnH.congr {F : Nat → Sv} (h : OwnH w lo g n E) (e : ∀ k, k < n → E k = F k) : OwnH w lo g n F := by
  unfold OwnH at h ⊢
  rwa [heads_congr e] at h
end
/-- 'make([][]int, n)'. -/
theorem wpList_make_heads {ops : Array Oper} {rest : List Oper} {o : Oper} {a : Act} {w : World} {Q : Exit → Act → World → Prop} (hgd : o.guard = none) (l c : Operand) (ho : o.op = .makeSlice 41 l c)
    (n : Nat) (hl : a.eval l = .int .i64 n) (hc : a.eval c = .int .i64 n) (hn : n ≤ 1099511627776)
    (hK : ∀ w', OwnH w' w.heap.size w.heap.size n (fun _ => (none, 0, 0)) → Below w.heap.size w w' → wpList Try.prog ops Q rest (a.put o.dst (.slice (some ⟨w.heap.size, 0, none⟩) n n)) w') :
    wpList Try.prog ops Q (o :: rest) a w := by
  obtain ⟨i0, hi, hz0, hz1, hz2⟩ := info_parts Try.infoLs
  refine wpList_make_full w hgd l c 41 ho w.heap.size 22 i0 (.slice none 0 0) 1 Try.underlying41 hi hz0 hz1 .i64 .i64 n n n hl hc rfl rfl (by rw [hz2]; omega) (by unfold maxLen; omega) (Nat.le_refl _) ?_
  intro w1 ho1 hg1
  have e : (madeCells (Value.slice none 0 0).cells (n * 1)).toList = heads n (fun _ => (none, 0, 0)) := by
    rw [show (Value.slice none 0 0).cells = #[Value.slice none 0 0] from rfl, Nat.mul_one, toList_madeCells_one]
    apply List.ext_getElem (by simp [heads])
    intro j h1 h2
    simp [heads, sv]
  rw [e] at ho1
  exact hK w1 ho1 (grow_below hg1 (Nat.le_refl _) (by intro k hk; cases hk))
set_option maxRecDepth 100000 in
set_option maxHeartbeats 1000000 in
theorem firstRows_any (p r : Int) (A : Option Addr) (b o n k c R : Nat) (w : World) (hA : 0 < R → A = some ⟨b, o, none⟩) (hc : 0 < c ∧ c ≤ 14) (hR : R ≤ 14) (h : R * c ≤ n) (hnk : n ≤ k) (hn : n ≤ 1099511627776) :
    Calls Try.prog 62 #[.agg #[.int .i64 p, .int .i64 r, .int .i64 c, .slice A n k], .int .i64 R] w fun e w' => ∃ g, e = .returned (.slice (some ⟨g, 0, none⟩) R R) ∧ OwnH w' w.heap.size g R (fun i => (some ⟨b, o + i * c, none⟩, c, k - i * c)) ∧ Below w.heap.size w w' := by
  obtain ⟨w1, hw1⟩ : ∃ w1, w1 = w.alloc (.cells #[.int .i64 p, .int .i64 r, .int .i64 c, .slice A n k] 27) := ⟨_, rfl⟩
  obtain ⟨g, hg⟩ : ∃ g, g = w.heap.size := ⟨_, rfl⟩
  have hk : Blk w1 g 27 #[.int .i64 p, .int .i64 r, .int .i64 c, .slice A n k] := by rw [hw1, hg]; exact Blk.new _ _ _
  have HB : Hid (Below w.heap.size w w1) := Lib.hid (by rw [hw1]; exact Below.alloc_self _ _)
  have HSZ : Hid (w1.heap.size = g + 1) := Lib.hid (by rw [hw1, hg]; simp)
  have HW := Lib.hid hw1
  have HG := Lib.hid hg
  have HK := Lib.hid hk
  have HC := Lib.hid hc
  have HRn := Lib.hid h
  have HA := Lib.hid hA
  clear hA
  obtain ⟨q0, q1, q2, q3⟩ := cells4 hk
  clear hw1 hg hk hc h
  go_enter Try.func62, Try.ntmps62
  go_upto_region 1 with fail
  rw [← HW.out, ← HG.out]
  go_wp2_with (at_make; refine wpList_make_heads rfl (.tmp 7) (.tmp 7) rfl R rfl rfl (by omega) ?_; intro w2 ho2 hb2; have HO2 := Lib.hid ho2; have HB2 := Lib.hid hb2; obtain ⟨g2, hg2⟩ : ∃ g2, g2 = w1.heap.size := ⟨_, rfl⟩; have HG2 := Lib.hid hg2; rw [← hg2]; clear ho2 hb2 hg2)
  clear q0 q1 q2 q3
  go_loopw [11] (fun iv wr => ∃ i : Nat, i ≤ R ∧ iv = .int .i64 i ∧ OwnH wr w1.heap.size g2 R (fun j => if j < i then (some ⟨b, o + j * c, none⟩, c, k - j * c) else (none, 0, 0)) ∧ Below w1.heap.size w1 wr)
    (fun iv _ => R - (intOf iv).toNat)
  case atStart => exact ⟨0, Nat.zero_le _, rfl, by have := HO2.out; rw [← HG2.out] at this ⊢; exact this.congr fun k _ => by simp, HB2.out⟩
  case round =>
    obtain ⟨i, hi, rfl, ho, hb⟩ := hrel
    clear HO2 HB2
    have HO := Lib.hid ho
    have HBR := Lib.hid hb
    clear ho hb
    by_cases hlt : i < R
    case neg =>
      have hin : i = R := by omega
      subst hin
      go_wp2
      go_ret
      exact ⟨g2, rfl, by
        have := HO.out
        have h2 : OwnH wr w1.heap.size g2 i (fun i => (some ⟨b, o + i * c, none⟩, c, k - i * c)) := this.congr fun j hj => by simp [hj]
        refine ⟨h2.1, ?_⟩
        rcases h2.2 with hn | ⟨g', cap, cur, e, hl, rest⟩
        · exact .inl hn
        · exact .inr ⟨g', cap, cur, e, by have := HSZ.out; have := HG.out; omega, rest⟩, HB.out.trans (HBR.out.mono (by have := HSZ.out; have := HG.out; omega))⟩
    case pos =>
      have hlI : (i : Int) < (R : Int) := by omega
      obtain rfl := HA.out (by omega)
      have HKr := Lib.hid (HK.out.below HBR.out HK.out.lt)
      have HCR := Lib.hid (matRow_any p r b o n k c i wr HC.out.2 (by omega) (by have h1 := HRn.out; have h2 : (i + 1) * c ≤ R * c := Nat.mul_le_mul (by omega) (Nat.le_refl _); omega) hnk hn HC.out.1)
      go_wp2_with (first
        | (refine wpList_load_rowP rfl 27 (.tmp 2) rfl g rfl 27 #[.int .i64 p, .int .i64 r, .int .i64 c, .slice (some ⟨b, o, none⟩) n k] _ HKr.out Try.underlying27 rfl Try.infoMx ?_)
        | (go_at_call 131
           with_reducible refine HCR.out.mono ?_
           rintro e w3 ⟨rfl, hb3⟩
           have ho3 := HO.out.below hb3 HO.out.at_.2
           have hc3 := ho3.cellAt hlt
           have hf3 : w3.frozen? ⟨g2, i, none⟩ = false := World.ownsRow.frozenAt ho3 i
           have hst := ho3.set_ hlt (some ⟨b, o + i * c, none⟩, c, k - i * c)
           have HST := Lib.hid hst
           have HB3 : Hid (Below w1.heap.size w1 w3) := Lib.hid (HBR.out.trans (hb3.mono HBR.out.size))
           have HL3 : Hid (w1.heap.size ≤ g2 ∧ g2 < w3.heap.size) := Lib.hid ho3.at_
           simp only [Nat.lt_irrefl, if_false, sv] at hc3
           clear hst ho3 hb3)
        | fail)
      go_roundw
      case rel => exact ⟨i + 1, by omega, by go_num, HST.out.1.congr fun j hj => by
          by_cases e : j = i
          · subst e; simp
          · by_cases e2 : j < i
            · simp [e, e2, Nat.lt_succ_of_lt e2]
            · have e3 : ¬ j < i + 1 := by omega
              simp [e, e2, e3], HB3.out.grown HST.out.2 HB3.out.size (by rintro q ⟨⟩; exact HL3.out.1)⟩
      case measure => simp [intOf]; omega
end Go.Proofs.Ytfaegfhbbkicgaa

/-
  A row plus a multiple of another one, in memory, on the program's side. Conditions: the modulus at most 7, numbers are rests, lengths at most 1000.
-/

namespace Go.Proofs.Ytfaegfhbbkicgaa
open Go.RowKit

/-- The numbers of d from o on, as many as k, plus multiples of those of y. -/
def addO (p : Int) (d : List Int) (o : Nat) (f : Int) (y : List Int) (k : Nat) : List Int := (List.range d.length).map fun q => if o ≤ q ∧ q < o + k then (nth d q + f * nth y (q - o)) % p else nth d q
theorem addO_len (p : Int) (d : List Int) (o : Nat) (f : Int) (y : List Int) (k : Nat) : (addO p d o f y k).length = d.length := by simp [addO]
theorem addO_nth {p : Int} {d : List Int} {o : Nat} {f : Int} {y : List Int} {k q : Nat} (h : q < d.length) : nth (addO p d o f y k) q = if o ≤ q ∧ q < o + k then (nth d q + f * nth y (q - o)) % p else nth d q := nth_rangeMap _ h
theorem addO_zero (p : Int) (d : List Int) (o : Nat) (f : Int) (y : List Int) : addO p d o f y 0 = d :=
  nth_ext (addO_len ..) fun j hj => by rw [addO_nth (by rwa [addO_len] at hj), if_neg (by omega)]
theorem addO_succ {p : Int} {d : List Int} {o : Nat} {f : Int} {y : List Int} {k : Nat} (h : o + k < d.length) : (addO p d o f y k).set (o + k) ((nth d (o + k) + f * nth y k) % p) = addO p d o f y (k + 1) :=
  nth_ext (by rw [List.length_set, addO_len, addO_len]) fun j hj => by
    rw [List.length_set, addO_len] at hj
    rw [nth_set_at (by rw [addO_len]; exact h), addO_nth hj, addO_nth hj]
    by_cases e : j = o + k
    · subst e; rw [if_pos rfl, if_pos (by omega), show o + k - o = k by omega]
    · rw [if_neg e]
      by_cases hlt : o ≤ j ∧ j < o + k
      · rw [if_pos hlt, if_pos (by omega)]
      · rw [if_neg hlt, if_neg (by omega)]
theorem addO_rg {p : Int} (hp : 0 < p) {d : List Int} (hx : Rg p d) (o : Nat) (f : Int) (y : List Int) (k : Nat) : Rg p (addO p d o f y k) := fun j => by
  by_cases h : j < d.length
  · rw [addO_nth h]
    split
    · exact ⟨Int.emod_nonneg _ (by omega), Int.emod_lt_of_pos _ hp⟩
    · exact hx j
  · rw [nth_past (by rw [addO_len]; omega)]; exact ⟨Int.le_refl _, hp⟩
theorem addO_whole (p : Int) (d : List Int) (f : Int) (y : List Int) : addO p d 0 f y d.length = addT p d f y :=
  nth_ext (by rw [addO_len, addT_len]) fun j hj => by
    rw [addO_len] at hj
    rw [addO_nth hj, if_pos (by omega), addT_nth hj, Nat.sub_zero]
set_option maxRecDepth 100000 in
set_option maxHeartbeats 1000000 in
theorem rowTimes_any (p f : Int) (g N K lo hi o n cr : Nat) (d y : List Int) (A2 : Option Addr) (c2 : Nat) (w : World) (hp : 2 ≤ p ∧ p ≤ 7) (hf : 0 ≤ f ∧ f ≤ 7) (hd : Rg p d) (hy : Rg p y)
    (ho : Own w lo hi (some ⟨g, 0, none⟩) N K d) (hon : o + n ≤ N) (hN : N ≤ 1000)
    (hs2 : SI w A2 n y) (hfar : (∀ b o', A2 = some ⟨b, o', none⟩ → b ≠ g) ∨ A2 = some ⟨g, o, none⟩) :
    Calls Try.prog 137 #[.int .i64 p, .slice (some ⟨g, o, none⟩) n cr, .int .i64 f, .slice A2 n c2] w fun e w' => e = .returned (.tuple #[]) ∧ Own w' lo hi (some ⟨g, 0, none⟩) N K (addO p d o f y n) ∧ ∃ wm, Drawn w wm ∧ wm.grownBy w' (some g) := by
  have HL := Lib.hid ho.len
  have HP := Lib.hid hp
  have HF := Lib.hid hf
  have HD := Lib.hid hd
  have HY := Lib.hid hy
  have HS2 := Lib.hid hs2
  have HFAR := Lib.hid hfar
  have hself : (A2 = some ⟨g, o, none⟩) → ∀ j, j < n → nth d (o + j) = nth y j := fun e j hj => by
    have h1 := hs2.2 (by omega)
    obtain ⟨b, o', e', _, hc⟩ := h1
    rw [e] at e'
    injection e' with e'
    injection e' with e1 e2
    subst e1 e2
    have h2 := hc j hj
    rw [ho.cellAt (by omega)] at h2
    injection h2 with h2
    injection h2
  have HSELF := Lib.hid hself
  have hpnz : p ≠ 0 := by omega
  clear hself hs2 hfar hd hy hp hf
  go_enter Try.func137, Try.ntmps137
  go_wp2
  go_loopw [12] (fun iv wr => ∃ j : Nat, j ≤ n ∧ iv = .int .i64 j ∧ Own wr lo hi (some ⟨g, 0, none⟩) N K (addO p d o f y j) ∧ w.grownBy wr (some g))
    (fun iv _ => n - (intOf iv).toNat)
  case atStart => exact ⟨0, Nat.zero_le _, rfl, by rw [addO_zero]; exact ho, World.grownBy.refl _ _⟩
  case round =>
    obtain ⟨j, hj, rfl, hown, hgr⟩ := hrel
    have HO := Lib.hid hown
    have HG := Lib.hid hgr
    clear hown hgr ho
    by_cases hlt : j < n
    case neg =>
      have hjn : j = n := by omega
      subst hjn
      go_wp2
      go_returns
      exact ⟨rfl, HO.out, w, Drawn.refl _, HG.out⟩
    case pos =>
      have hlI : (j : Int) < (n : Int) := by omega
      obtain ⟨b2, o2, he2, hb2, hc2⟩ := HS2.out.at_ (by omega)
      subst he2
      have hcy : wr.cell? ⟨b2, o2 + j, none⟩ = some (.int .i64 (nth y j)) := by
        rcases HFAR.out with h | h
        · exact HG.out.cell (hc2 j hlt) (fun e => by injection e with e; exact h b2 o2 rfl e)
        · injection h with h
          injection h with h1 h2
          subst h1 h2
          rw [HO.out.cellAt (by omega), addO_nth (by rw [HL.out]; omega), if_neg (by omega), HSELF.out rfl j hlt]
      have hcx : wr.cell? ⟨g, o + j, none⟩ = some (.int .i64 (nth d (o + j))) := by
        rw [HO.out.cellAt (by omega), addO_nth (by rw [HL.out]; omega), if_neg (by omega)]
      have hfx : wr.frozen? ⟨g, o + j, none⟩ = false := HO.out.frozenAt (o + j)
      obtain ⟨X, hX⟩ : ∃ X, X = nth d (o + j) := ⟨_, rfl⟩
      obtain ⟨Y, hY⟩ : ∃ Y, Y = nth y j := ⟨_, rfl⟩
      have hXb := HD.out (o + j)
      have hYb := HY.out j
      rw [← hX] at hcx hXb
      rw [← hY] at hcy hYb
      obtain ⟨FY, hFY⟩ : ∃ FY, FY = f * Y := ⟨_, rfl⟩
      have hFY0 : 0 ≤ FY := by rw [hFY]; exact Int.mul_nonneg HF.out.1 hYb.1
      have hFY1 : FY ≤ 49 := by rw [hFY]; exact Int.le_trans (Int.mul_le_mul HF.out.2 (show Y ≤ 7 by have := HP.out; omega) hYb.1 (by decide)) (by decide)
      have hw1 : IntKind.i64.wrap (f * Y) = FY := by rw [← hFY]; exact IntWalk.i64_in _ (by omega)
      have hw2 : IntKind.i64.wrap (X + FY) = X + FY := IntWalk.i64_in _ (by have := HP.out; omega)
      obtain ⟨V, hV⟩ : ∃ V, V = (X + FY) % p := ⟨_, rfl⟩
      have hw3 : (X + FY).tmod p = V := by rw [hV]; exact Int.tmod_eq_emod_of_nonneg (by omega)
      have hVb : 0 ≤ V ∧ V < p := by rw [hV]; exact ⟨Int.emod_nonneg _ hpnz, Int.emod_lt_of_pos _ (by have := HP.out; omega)⟩
      have hw4 : IntKind.i64.wrap V = V := IntWalk.i64_in _ (by have := HP.out; omega)
      have hst := HO.out.set_ (k := o + j) V
      have HST : Hid (Own (wr.setCell ⟨g, o + j, none⟩ (.int .i64 V)) lo hi (some ⟨g, 0, none⟩) N K (addO p d o f y (j + 1)) ∧ w.grownBy (wr.setCell ⟨g, o + j, none⟩ (.int .i64 V)) (some g)) := Lib.hid ⟨by
        rw [← addO_succ (by rw [HL.out]; omega), ← hX, ← hY, ← hFY, ← hV]; exact hst.1, HG.out.trans hst.2⟩
      clear hst hc2 hX hY hFY hV hXb hYb hVb hFY0 hFY1
      go_wp2
      go_roundw
      case rel => exact ⟨j + 1, by omega, by go_num, HST.out.1, HST.out.2⟩
      case measure => simp [intOf]; omega
end Go.Proofs.Ytfaegfhbbkicgaa

/-
  A slice copied into a slice of the call's own; the first number other than 0. Conditions: lengths below 2^40.
-/


namespace Go.Proofs.Ytfaegfhbbkicgaa
open Go.RowKit

theorem Try.infoIntR : (Try.prog.info? 3).map (·.size) = some 1 := by kernel_rfl
/-- 'copy(d, s)' into a slice of the call's own that is at least as long. -/
theorem wpList_copyR {ops : Array Oper} {rest : List Oper} {o : Oper} {a : Act} {w : World} {Q : Exit → Act → World → Prop} (hgd : o.guard = none) (d s : Operand)
    (ho : o.op = .call { callee := .builtin .copy, args := #[d, s], argTypes := #[22, 22] }) (g n' : Nat) (A : Option Addr) (n c : Nat) (hd : a.eval d = .slice (some ⟨g, 0, none⟩) n' n') (hs : a.eval s = .slice A n c)
    (lo hi : Nat) (ys e : List Int) (hown : Own w lo hi (some ⟨g, 0, none⟩) n' n' ys) (hsi : SI w A n e) (hle : n ≤ n')
    (hK : ∀ w', Own w' lo hi (some ⟨g, 0, none⟩) n' n' (e ++ ys.drop n) → w.grownBy w' (some g) → wpList Try.prog ops Q rest (a.put o.dst (goInt n)) w') : wpList Try.prog ops Q (o :: rest) a w := by
  have hl := hsi.1
  by_cases h0 : n = 0
  · subst h0
    obtain rfl : e = [] := List.eq_nil_of_length_eq_zero hl
    exact Go.wpList_copy_nothing hgd d s 22 22 ho 3 Try.underlying22 Try.infoIntR (some ⟨g, 0, none⟩) A n' n' 0 c hd hs (by simp) (hK w (by simpa using hown) (World.grownBy.refl _ _))
  · obtain ⟨b, off, rfl, hb, hc⟩ := hsi.2 (by omega)
    rcases hown.1.2 with ⟨hx, _⟩ | ⟨g', cap, cur, hv, hlo, hg, hnc, hcm, hcs, htake⟩
    · cases hx
    · have hv' := hv
      simp only [Value.slice.injEq, Option.some.injEq, Addr.mk.injEq, and_true, true_and] at hv'
      obtain ⟨rfl, rfl⟩ := hv'
      have hyl := hown.len
      have hcur : cur.toList = ys.map (Value.int .i64) := by rw [← htake, List.take_of_length_le (by simp; omega)]
      have hE : (cur.toList.take 0 ++ (e.map (Value.int .i64) ++ cur.toList.drop (0 + (e.map (Value.int .i64)).length))).toArray = ((e ++ ys.drop n).map (Value.int .i64)).toArray := by
        rw [hcur]; simp [hl, List.map_drop]
      refine Go.wpList_copy_own hgd d s 22 22 ho 3 Try.underlying22 Try.infoIntR g 0 n' n' ⟨b, off, none⟩ n c hd hs cur 3 hg (e.map (Value.int .i64)) (by simp [hl]; exact (Nat.min_eq_left hle).symm) ?_ (by simp [hl]; omega) (ints_oneCell _ _) ?_
      · intro j v hj
        have hjl : j < e.length := by
          rcases Nat.lt_or_ge j e.length with h | h
          · exact h
          · rw [List.getElem?_eq_none (by simpa using h)] at hj; cases hj
        rw [List.getElem?_map, nth_get? hjl] at hj
        rw [add_pt, hc j (by omega)]
        exact hj
      · rw [hE]
        have hk := hK (w.setRow g ((e ++ ys.drop n).map (Value.int .i64)).toArray) ⟨⟨by simp; omega, .inr ⟨g, n', _, rfl, hlo, setRow_heap w g cur _ _ (0, 0) hg, Nat.le_refl _, hcm, by simp; omega, List.take_of_length_le (by simp; omega)⟩⟩, hown.2⟩ (grownBy_setRow w g _)
        simpa [hl] using hk

theorem nonzFn_any (x : Int) (w : World) : Calls Try.prog 139 #[.int .i64 x] w fun r w' => r = .returned (.bool (decide (x ≠ 0))) ∧ w = w' := by
  by_cases h0 : x = 0
  · subst h0
    go_enter Try.func139, Try.ntmps139
    go_wp2
    go_ret
    exact ⟨ret_bool (by decide), rfl⟩
  · have HE : Hid (true = decide (x ≠ 0)) := Lib.hid (decide_eq_true h0).symm
    have hb0 : (x != 0) = true := by simpa using h0
    clear h0
    go_enter Try.func139, Try.ntmps139
    go_wp2
    go_ret
    exact ⟨ret_bool HE.out, rfl⟩
set_option maxHeartbeats 800000 in
theorem indexNonz_any (A : Option Addr) (n c : Nat) (xs : List Int) (w : World) (hs : SI w A n xs) (hn : n ≤ 1099511627776) :
    Calls Try.prog 138 #[.slice A n c, .func (.func 139) #[] #[]] w fun r w' =>
      ∃ i : Int, r = .returned (.int .i64 i) ∧ (ldN xs = n ∧ i = -1 ∨ ldN xs < n ∧ i = (ldN xs : Int)) ∧ Drawn w w' := by
  have HL := Lib.hid hs.1
  go_enter Try.func138, Try.ntmps138
  go_wp2
  go_loopw [8] (fun i wr => ∃ k : Nat, k ≤ n ∧ i = .int .i64 k ∧ Drawn w wr ∧ ∀ j, j < k → nth xs j = 0)
    (fun i _ => n - (intOf i).toNat)
  case atStart => exact ⟨0, Nat.zero_le _, rfl, Drawn.refl _, fun j hj => absurd hj (by omega)⟩
  case round =>
    obtain ⟨k, hk, rfl, hD, hall⟩ := hrel
    have HA := Lib.hid hall
    have HDR := Lib.hid hD
    have hs := hD.si hs
    clear hall hD
    by_cases hlt : k < n
    · have hlI : (k : Int) < (n : Int) := by omega
      obtain ⟨b, o, rfl, hb, hc⟩ := hs.at_ (by omega)
      have hc1 := hc k hlt
      obtain ⟨y, hy⟩ : ∃ y, y = nth xs k := ⟨_, rfl⟩
      rw [← hy] at hc1
      have HY := Lib.hid hy
      clear hc hy hs
      by_cases hg : y ≠ 0
      · have HG := Lib.hid hg
        have HF2 := Lib.hid (nonzFn_any y wr)
        rw [decide_eq_true hg] at HF2
        clear hg
        go_wp2_with (go_at_call 139; refine HF2.out.mono ?_; rintro r w2 ⟨rfl, rfl⟩)
        go_ret
        have hgt : ldN xs = k := ldN_is xs k (by rw [HL.out]; omega) HA.out (.inr (by rw [← HY.out]; exact HG.out))
        exact ⟨(k : Int), rfl, .inr ⟨by omega, by rw [hgt]⟩, HDR.out⟩
      · have HG := Lib.hid hg
        have HF2 := Lib.hid (nonzFn_any y wr)
        rw [decide_eq_false hg] at HF2
        clear hg
        go_wp2_with (go_at_call 139; refine HF2.out.mono ?_; rintro r w2 ⟨rfl, rfl⟩)
        go_roundw
        case rel => exact ⟨k + 1, by omega, by go_num, HDR.out, fun j hj => by
          rcases Nat.lt_or_ge j k with h | h
          · exact HA.out j h
          · obtain rfl : j = k := by omega
            rw [← HY.out]; have := HG.out; omega⟩
        case measure => simp [intOf]; omega
    · have hkn : k = n := by omega
      subst hkn
      go_wp2
      go_ret
      exact ⟨-1, rfl, .inl ⟨ldN_is xs k (by rw [HL.out]; exact Nat.le_refl _) HA.out (.inl HL.out.symm), rfl⟩, HDR.out⟩
end Go.Proofs.Ytfaegfhbbkicgaa

/-
  The helpers of the exact laws at slices of slices of numbers: copying, measuring, comparing, marking, holding. Conditions: lengths below 2^40.
-/


namespace Go.Proofs.Ytfaegfhbbkicgaa
open Go.RowKit

theorem take_li {ls : List (List Int)} {k : Nat} (h : k < ls.length) : ls.take (k + 1) = ls.take k ++ [li ls k] := by
  rw [List.take_succ_eq_append_getElem h, li_get h]
def copLs (ls : List (List Int)) (k : Nat) : List (List Int) := ls.take k ++ List.replicate (ls.length - k) []
theorem copLs_zero (ls : List (List Int)) : copLs ls 0 = List.replicate ls.length [] := by simp [copLs]
theorem copLs_all (ls : List (List Int)) : copLs ls ls.length = ls := by simp [copLs]
theorem copLs_succ {ls : List (List Int)} {k : Nat} (h : k < ls.length) : (copLs ls k).set k (li ls k) = copLs ls (k + 1) := by
  unfold copLs
  have hl : (ls.take k).length = k := by simp; omega
  rw [List.set_append_right _ _ (by omega), hl]
  have e : ls.length - k = (ls.length - (k + 1)) + 1 := by omega
  rw [e, List.replicate_succ, Nat.sub_self, List.set_cons_zero, take_li h, List.append_assoc]
  rfl
/-- Equality of two lists of lists as a Bool. -/
def eqLs (ls us : List (List Int)) : Bool := decide (ls = us)
theorem eqLs_self (ls : List (List Int)) : eqLs ls ls = true := by simp [eqLs]
theorem eqLs_len {ls us : List (List Int)} (h : ls.length ≠ us.length) : eqLs ls us = false := by
  simp only [eqLs, decide_eq_false_iff_not]; intro e; exact h (by rw [e])
theorem eqLs_ne {ls us : List (List Int)} {k : Nat} (h : li ls k ≠ li us k) : eqLs ls us = false := by
  simp only [eqLs, decide_eq_false_iff_not]; intro e; exact h (by rw [e])
theorem eqL_true {xs ys : List Int} (h : eqL xs ys = true) : xs = ys := by simpa [eqL] using h
theorem eqL_false' {xs ys : List Int} (h : eqL xs ys = false) : xs ≠ ys := by simpa [eqL] using h
set_option maxHeartbeats 800000 in
theorem eqIntSS_any (A A2 : Option Addr) (n c n2 c2 : Nat) (ls us : List (List Int)) (w : World) (hs : LS w A n ls) (hs2 : LS w A2 n2 us) (hn : n ≤ 1099511627776) (hn2 : n2 ≤ 1099511627776)
    (hne : ∀ k, k < n → (li ls k).length ≤ 1099511627776) (hne2 : ∀ k, k < n2 → (li us k).length ≤ 1099511627776) :
    Calls Try.prog 33 #[.slice A n c, .slice A2 n2 c2] w fun e w' => e = .returned (.bool (eqLs ls us)) ∧ Drawn w w' := by
  have HL := Lib.hid hs.1
  have HL2 := Lib.hid hs2.1
  have HNE := Lib.hid hne
  have HNE2 := Lib.hid hne2
  clear hne hne2
  by_cases hlen : n = n2
  · subst hlen
    go_enter Try.func33, Try.ntmps33
    go_wp2
    go_loopw [5] (fun i wr => ∃ k : Nat, k ≤ n ∧ i = .int .i64 k ∧ Drawn w wr ∧ ∀ j, j < k → li ls j = li us j)
      (fun i _ => n - (intOf i).toNat)
    case atStart => exact ⟨0, Nat.zero_le _, rfl, Drawn.refl _, fun j hj => absurd hj (by omega)⟩
    case round =>
      obtain ⟨k, hk, rfl, hD, hall⟩ := hrel
      have HA := Lib.hid hall
      have HD := Lib.hid hD
      have h1 := hs.drawn hD
      have h2 := hs2.drawn hD
      clear hall hD
      by_cases hlt : k < n
      · have hlI : (k : Int) < (n : Int) := by omega
        obtain ⟨b, o, A', n', c', rfl, hb, hc0, hsi, _, _⟩ := h1.at_ hlt
        obtain ⟨b2, o2, A3, n3, c3, rfl, hb2, hc2, hsi2, _, _⟩ := h2.at_ hlt
        have hE := eqIntS_any A' A3 n' c' n3 c3 (li ls k) (li us k)
        have hq1 : n' ≤ 1099511627776 := by have := HNE.out k hlt; have := hsi.1; omega
        have hq2 : n3 ≤ 1099511627776 := by have := HNE2.out k hlt; have := hsi2.1; omega
        have HE := Lib.hid (fun wx (hd : Drawn wr wx) => hE wx (hd.si hsi) (hd.si hsi2) hq1 hq2)
        clear hE h1 h2 hsi hsi2
        cases hu : eqL (li ls k) (li us k) with
        | true =>
          rw [hu] at HE
          have HU := Lib.hid (eqL_true hu)
          clear hu
          go_wp2_with fail
          go_quiet ((go_at_call 18; exact Calls.quiet_of (HE.out _ (by first | exact ⟨_, rfl⟩ | assumption))))
          go_wp2
          go_roundw
          case rel => exact ⟨k + 1, by omega, by go_num, HD.out.drewN _, fun j hj => by
            rcases Nat.lt_or_ge j k with h | h
            · exact HA.out j h
            · obtain rfl : j = k := by omega
              exact HU.out⟩
          case measure => simp [intOf]; omega
        | false =>
          rw [hu] at HE
          have HU := Lib.hid (eqLs_ne (eqL_false' hu))
          clear hu
          go_wp2_with fail
          go_quiet ((go_at_call 18; exact Calls.quiet_of (HE.out _ (by first | exact ⟨_, rfl⟩ | assumption))))
          go_wp2
          go_ret
          exact ⟨ret_bool HU.out.symm, HD.out.drewN _⟩
      · have hkn : k = n := by omega
        subst hkn
        go_wp2
        go_ret
        refine ⟨ret_bool ?_, HD.out⟩
        have e : ls = us := li_ext (by rw [HL.out, HL2.out]) (by rw [HL.out]; exact HA.out)
        rw [e, eqLs_self]
  · have hb : ((n : Int) == (n2 : Int)) = false := by simp; omega
    have HF := Lib.hid (eqLs_len (ls := ls) (us := us) (by rw [HL.out, HL2.out]; exact hlen))
    clear hs hs2 hlen
    go_enter Try.func33, Try.ntmps33
    go_wp2
    go_ret
    exact ⟨ret_bool HF.out.symm, Drawn.refl _⟩
/-- What marking writes, from q on. -/
def marksS : List (List Int) → Int → List (List Int)
  | [], _ => []
  | t :: r, q => marks t.length q :: marksS r (q + (t.length : Int))
/-- The number behind the last mark. -/
def endS : List (List Int) → Int → Int
  | [], q => q
  | t :: r, q => endS r (q + (t.length : Int))
theorem marksS_len : ∀ (ts : List (List Int)) (q : Int), (marksS ts q).length = ts.length
  | [], _ => rfl
  | _ :: r, q => by simp [marksS, marksS_len r]
theorem endS_app : ∀ (ts us : List (List Int)) (q : Int), endS (ts ++ us) q = endS us (endS ts q)
  | [], _, _ => rfl
  | _ :: r, us, _ => endS_app r us _
theorem endS_from : ∀ (ts : List (List Int)) (q : Int), endS ts q = q + endS ts 0
  | [], q => by simp [endS]
  | t :: r, q => by show endS r _ = q + endS r (0 + _); rw [endS_from r (q + _), endS_from r (0 + _)]; omega
theorem marksS_app : ∀ (ts us : List (List Int)) (q : Int), marksS (ts ++ us) q = marksS ts q ++ marksS us (endS ts q)
  | [], _, _ => rfl
  | t :: r, us, q => by show _ :: marksS (r ++ us) _ = _ :: (_ ++ _); rw [marksS_app r us]; rfl
def mixS (ts : List (List Int)) (q : Int) (k : Nat) : List (List Int) := marksS (ts.take k) q ++ ts.drop k
theorem mixS_zero (ts : List (List Int)) (q : Int) : mixS ts q 0 = ts := by simp [mixS, marksS]
theorem mixS_all (ts : List (List Int)) (q : Int) : mixS ts q ts.length = marksS ts q := by simp [mixS]
theorem mixS_li {ts : List (List Int)} {q : Int} {k : Nat} (h : k < ts.length) : li (mixS ts q k) k = li ts k := by
  unfold mixS li
  rw [List.getD_eq_getElem?_getD, List.getD_eq_getElem?_getD, List.getElem?_append_right (by rw [marksS_len]; simp; omega), marksS_len]
  simp [Nat.min_eq_left (Nat.le_of_lt h)]
theorem endS_succ {ts : List (List Int)} {q : Int} {k : Nat} (h : k < ts.length) : endS (ts.take (k + 1)) q = endS (ts.take k) q + ((li ts k).length : Int) := by
  rw [take_li h, endS_app]; rfl
theorem mixS_succ {ts : List (List Int)} {q : Int} {k : Nat} (h : k < ts.length) : (mixS ts q k).set k (marks (li ts k).length (endS (ts.take k) q)) = mixS ts q (k + 1) := by
  unfold mixS
  have hl : (marksS (ts.take k) q).length = k := by rw [marksS_len]; simp; omega
  rw [List.set_append_right _ _ (by omega), hl, Nat.sub_self, List.drop_eq_getElem_cons h, List.set_cons_zero, take_li h, marksS_app, List.append_assoc]
  rfl
theorem marksS_li {ts : List (List Int)} {q : Int} {k : Nat} (h : k < ts.length) : li (marksS ts q) k = marks (li ts k).length (endS (ts.take k) q) := by
  have e : marksS ts q = marksS (ts.take k) q ++ marksS (ts.drop k) (endS (ts.take k) q) := by rw [← marksS_app, List.take_append_drop]
  rw [e]
  unfold li
  rw [List.getD_eq_getElem?_getD, List.getElem?_append_right (by rw [marksS_len]; simp; omega), marksS_len]
  rw [List.drop_eq_getElem_cons h]
  simp [marksS, Nat.min_eq_left (Nat.le_of_lt h), List.getD, h]
set_option maxHeartbeats 800000 in
theorem markIntSS_own (g n c lo hi : Nat) (ts : List (List Int)) (q : Int) (w : World) (hs : OwnL w lo hi (some ⟨g, 0, none⟩) n c ts) (hn : n ≤ 1099511627776) (hne : ∀ k, k < n → (li ts k).length ≤ 1099511627776)
    (hq : ∀ k, k ≤ n → 0 ≤ endS (ts.take k) q ∧ endS (ts.take k) q ≤ 1099511627776) :
    Calls Try.prog 34 #[.slice (some ⟨g, 0, none⟩) n c, .int .i64 q] w fun e w' => e = .returned (.int .i64 (endS ts q)) ∧ OwnL w' lo hi (some ⟨g, 0, none⟩) n c (marksS ts q) ∧ Within lo hi w w' := by
  have HL := Lib.hid hs.len
  have HNE := Lib.hid hne
  have HQ := Lib.hid hq
  clear hne hq
  go_enter Try.func34, Try.ntmps34
  go_wp2
  go_loopw [1, 5] (fun p i wr => ∃ k : Nat, k ≤ n ∧ i = .int .i64 k ∧ p = .int .i64 (endS (ts.take k) q) ∧ OwnL wr lo hi (some ⟨g, 0, none⟩) n c (mixS ts q k) ∧ Within lo hi w wr)
    (fun _ i _ => n - (intOf i).toNat)
  case atStart => exact ⟨0, Nat.zero_le _, rfl, rfl, by rw [mixS_zero]; exact hs, Within.refl _ _ _⟩
  case round =>
    obtain ⟨k, hk, rfl, rfl, hown, hwi⟩ := hrel
    clear hs
    by_cases hlt : k < n
    · have hlI : (k : Int) < (n : Int) := by omega
      obtain ⟨A', n', c', hc0, hfz, hx, hback⟩ := hown.item hlt
      rw [mixS_li (by rw [HL.out]; exact hlt)] at hx
      have hq0 := HQ.out k hk
      have es := endS_succ (ts := ts) (q := q) (k := k) (by rw [HL.out]; exact hlt)
      have em := mixS_succ (ts := ts) (q := q) (k := k) (by rw [HL.out]; exact hlt)
      have hl' := hx.len
      rw [hl'] at es em
      have hn' : n' ≤ 1099511627776 := by have := HNE.out k hlt; omega
      obtain ⟨z, hz⟩ : ∃ z, z = endS (ts.take k) q := ⟨_, rfl⟩
      rw [← hz] at hq0 es em ⊢
      have hM := markIntS_any A' n' c' lo hi (li ts k) z wr hx hn' hq0.1 hq0.2
      have HM := Lib.hid hM
      have HBK := Lib.hid hback
      have HX := Lib.hid hx
      have HW := Lib.hid hwi
      have HES := Lib.hid es
      have HEM := Lib.hid em
      clear hown hfz hx hback hM hwi es em hz hl'
      go_wp2_with fail
      refine HM.out.mono ?_
      rintro e w2 ⟨rfl, ho2, hg2⟩
      have hO2 := HBK.out w2 _ ho2 hg2
      rw [HEM.out] at hO2
      have HO3 := Lib.hid hO2
      have HW3 := Lib.hid (HW.out.trans (Within.of_grown hg2 (fun b hb => HX.out.lt b hb)))
      clear hO2 ho2 hg2 HBK HX HM HW hc0
      go_wp2
      go_roundw
      case rel => exact ⟨k + 1, by omega, by go_num, by rw [HES.out], HO3.out, HW3.out⟩
      case measure => simp [intOf]; omega
    · have hkn : k = n := by omega
      subst hkn
      have e1 : ts.take k = ts := List.take_of_length_le (by rw [HL.out]; omega)
      rw [e1]
      have e2 := mixS_all ts q
      rw [HL.out] at e2
      rw [e2] at hown
      go_wp2
      go_ret
      exact ⟨rfl, hown, hwi⟩
set_option maxHeartbeats 400000 in
theorem markIntSS_any (A : Option Addr) (n c lo hi : Nat) (ts : List (List Int)) (q : Int) (w : World) (hs : OwnL w lo hi A n c ts) (hn : n ≤ 1099511627776) (hne : ∀ k, k < n → (li ts k).length ≤ 1099511627776)
    (hq : ∀ k, k ≤ n → 0 ≤ endS (ts.take k) q ∧ endS (ts.take k) q ≤ 1099511627776) :
    Calls Try.prog 34 #[.slice A n c, .int .i64 q] w fun e w' => e = .returned (.int .i64 (endS ts q)) ∧ OwnL w' lo hi A n c (marksS ts q) ∧ Within lo hi w w' := by
  by_cases h0 : 0 < n
  · obtain ⟨g, rfl, h1, h2⟩ := hs.place h0
    exact markIntSS_own g n c lo hi ts q w hs hn hne hq
  · have hz : n = 0 := by omega
    subst hz
    have hx : ts = [] := List.eq_nil_of_length_eq_zero hs.len
    subst hx
    have HS := Lib.hid hs
    clear hs hq hne
    go_enter Try.func34, Try.ntmps34
    go_wp2
    refine wp_loop_rounds 1 ?_
    rw [rounds_succ]
    go_wp2
    go_ret
    exact ⟨rfl, HS.out, Within.refl _ _ _⟩
set_option maxHeartbeats 800000 in
theorem heldIntSS_yes (A : Option Addr) (n c : Nat) (ts : List (List Int)) (q : Int) (w : World) (hs : LS w A n (marksS ts q)) (hn : n ≤ 1099511627776) (hne : ∀ k, k < n → (li ts k).length ≤ 1099511627776)
    (hq : ∀ k, k ≤ n → 0 ≤ endS (ts.take k) q ∧ endS (ts.take k) q ≤ 1099511627776) :
    Calls Try.prog 35 #[.slice A n c, .int .i64 q] w fun e w' => e = .returned (.int .i64 (endS ts q)) ∧ Drawn w w' := by
  have HL : Hid (ts.length = n) := Lib.hid (by rw [← marksS_len ts q]; exact hs.1)
  have HNE := Lib.hid hne
  have HQ := Lib.hid hq
  clear hne hq
  go_enter Try.func35, Try.ntmps35
  go_wp2
  go_loopw [1, 5] (fun p i wr => ∃ k : Nat, k ≤ n ∧ i = .int .i64 k ∧ p = .int .i64 (endS (ts.take k) q) ∧ Drawn w wr)
    (fun _ i _ => n - (intOf i).toNat)
  case atStart => exact ⟨0, Nat.zero_le _, rfl, rfl, Drawn.refl _⟩
  case round =>
    obtain ⟨k, hk, rfl, rfl, hD⟩ := hrel
    have HD := Lib.hid hD
    have hts := hs.drawn hD
    clear hs hD
    by_cases hlt : k < n
    · have hlI : (k : Int) < (n : Int) := by omega
      obtain ⟨b, o, A', n', c', rfl, hb, hc0, hsi, hnc, hnil⟩ := hts.at_ hlt
      rw [marksS_li (by rw [HL.out]; exact hlt)] at hsi
      have hq0 := HQ.out k hk
      have hq1 := HQ.out (k + 1) (by omega)
      have es := endS_succ (ts := ts) (q := q) (k := k) (by rw [HL.out]; exact hlt)
      have hl' : n' = (li ts k).length := by rw [← hsi.1]; simp [marks_len]
      have hn' : n' ≤ 1099511627776 := by have := HNE.out k hlt; omega
      rw [← hl'] at es hsi
      obtain ⟨z, hz⟩ : ∃ z, z = endS (ts.take k) q := ⟨_, rfl⟩
      rw [← hz] at hq0 es hsi ⊢
      rw [es] at hq1
      have hM := heldIntS_yes A' n' c' z wr hsi hn' hq0.1 hq0.2
      have HM := Lib.hid hM
      have HES := Lib.hid es
      clear hts hsi hM es hz hl' hnil
      have hzn : ¬ z + (n' : Int) < 0 := by omega
      go_wp2_with fail
      refine HM.out.mono ?_
      rintro e w2 ⟨rfl, hD2⟩
      have HD2 := Lib.hid (HD.out.trans hD2)
      clear hD2 hc0 HM
      go_wp2
      go_roundw
      case rel => exact ⟨k + 1, by omega, by go_num, by rw [HES.out], HD2.out⟩
      case measure => simp [intOf]; omega
    · have hkn : k = n := by omega
      subst hkn
      have e1 : ts.take k = ts := List.take_of_length_le (by rw [HL.out]; omega)
      rw [e1]
      go_wp2
      go_ret
      exact ⟨rfl, HD.out⟩
end Go.Proofs.Ytfaegfhbbkicgaa

/-
  A number inserted into rows: what comes of it (plain lists); one list of a list replaced in memory. Conditions: as each lemma says.
-/


namespace Go.Proofs.Ytfaegfhbbkicgaa
open Go.RowKit

/-- The first place with a number above x. -/
def gtN (xs : List Int) (x : Int) : Nat := (xs.takeWhile fun y => decide (y ≤ x)).length
theorem gtN_le (xs : List Int) (x : Int) : gtN xs x ≤ xs.length := (List.takeWhile_sublist _).length_le
theorem gtN_is {x : Int} : ∀ (xs : List Int) (k : Nat), k ≤ xs.length → (∀ j, j < k → nth xs j ≤ x) → (k = xs.length ∨ ¬ nth xs k ≤ x) → gtN xs x = k
  | [], k, hk, _, _ => by
    have : k = 0 := by simpa using hk
    subst this; rfl
  | y :: r, 0, _, _, h2 => by
    rcases h2 with h | h
    · simp at h
    · have h' : ¬ y ≤ x := h
      simp [gtN, h']
  | y :: r, k + 1, hk, h1, h2 => by
    have h0 : y ≤ x := h1 0 (by omega)
    have hS : ∀ j, nth (y :: r) (j + 1) = nth r j := fun j => by simp [nth, List.getD]
    have ih := gtN_is r k (by simpa using hk) (fun j hj => by have := h1 (j + 1) (by omega); rwa [hS] at this) (by
      rcases h2 with h | h
      · exact .inl (by simpa using h)
      · exact .inr (by rwa [hS] at h))
    have e : gtN (y :: r) x = gtN r x + 1 := by simp [gtN, h0]
    rw [e, ih]
/-- The number that is inserted into row i. -/
def xI (ls : List (List Int)) (x : Int) : Nat → Int
  | 0 => x
  | i + 1 => nth (li ls i) (gtN (li ls i) (xI ls x i))
/-- The rows when i of them have been gone through. -/
def rI (ls : List (List Int)) (x : Int) : Nat → List (List Int)
  | 0 => ls
  | i + 1 => (rI ls x i).set i ((li ls i).set (gtN (li ls i) (xI ls x i)) (xI ls x i))
theorem rI_len (ls : List (List Int)) (x : Int) : ∀ i, (rI ls x i).length = ls.length
  | 0 => rfl
  | i + 1 => by simp [rI, rI_len ls x i]
theorem rI_li {ls : List (List Int)} {x : Int} : ∀ {i j : Nat}, i ≤ j → i ≤ ls.length → li (rI ls x i) j = li ls j
  | 0, j, _, _ => rfl
  | i + 1, j, h, hl => by
    show li ((rI ls x i).set i _) j = _
    rw [li_set (by rw [rI_len]; omega), if_neg (by omega)]
    exact rI_li (by omega) (by omega)
def goesI (ls : List (List Int)) (x : Int) (j : Nat) : Prop := gtN (li ls j) (xI ls x j) < (li ls j).length
/-- What inserting leaves, and the row that has grown. -/
def InsIs (ls : List (List Int)) (x : Int) (out : List (List Int)) (row : Nat) : Prop :=
  (row < ls.length ∧ (∀ j, j < row → goesI ls x j) ∧ ¬ goesI ls x row ∧ out = (rI ls x row).set row (li ls row ++ [xI ls x row])) ∨ (row = ls.length ∧ (∀ j, j < row → goesI ls x j) ∧ out = rI ls x row ++ [[xI ls x row]])
def insK (ls : List (List Int)) (x : Int) : Nat → Nat → Nat
  | 0, i => i
  | f + 1, i => if i < ls.length ∧ gtN (li ls i) (xI ls x i) < (li ls i).length then insK ls x f (i + 1) else i
def insRow (ls : List (List Int)) (x : Int) : Nat := insK ls x ls.length 0
def insOut (ls : List (List Int)) (x : Int) : List (List Int) :=
  if insRow ls x < ls.length then (rI ls x (insRow ls x)).set (insRow ls x) (li ls (insRow ls x) ++ [xI ls x (insRow ls x)]) else rI ls x (insRow ls x) ++ [[xI ls x (insRow ls x)]]
theorem insK_is {ls : List (List Int)} {x : Int} {row : Nat} (hr : row ≤ ls.length) (h1 : ∀ j, j < row → goesI ls x j) (h2 : row = ls.length ∨ ¬ goesI ls x row) : ∀ f i, i ≤ row → row ≤ i + f → insK ls x f i = row
  | 0, i, hi, hf => by show i = row; omega
  | f + 1, i, hi, hf => by
    unfold insK
    by_cases e : i = row
    · subst e
      rw [if_neg]
      rintro ⟨a, b⟩
      rcases h2 with h | h
      · omega
      · exact h b
    · rw [if_pos ⟨by omega, h1 i (by omega)⟩]
      exact insK_is hr h1 h2 f (i + 1) (by omega) (by omega)
theorem ins_is {ls : List (List Int)} {x : Int} {out : List (List Int)} {row : Nat} (h : InsIs ls x out row) : insRow ls x = row ∧ insOut ls x = out := by
  have e : insRow ls x = row := by
    rcases h with ⟨a, b, c, _⟩ | ⟨a, b, _⟩
    · exact insK_is (by omega) b (.inr c) ls.length 0 (by omega) (by omega)
    · exact insK_is (by omega) b (.inl a) ls.length 0 (by omega) (by omega)
  refine ⟨e, ?_⟩
  unfold insOut
  rw [e]
  rcases h with ⟨a, b, c, d⟩ | ⟨a, b, d⟩
  · rw [if_pos a, d]
  · rw [if_neg (by omega), d]
theorem OwnLE.cellAt {E : Nat → Sv} {w : World} {lo hi g n c : Nat} {ls : List (List Int)} (h : OwnLE E w lo hi (some ⟨g, 0, none⟩) n c ls) {k : Nat} (hk : k < n) : w.cell? ⟨g, k, none⟩ = some (sv (E k)) := by
  rw [h.2.1.cellAt k (by omega), heads_get _ hk]
theorem OwnLE.place {E : Nat → Sv} {w : World} {lo hi n c : Nat} {A : Option Addr} {ls : List (List Int)} (h : OwnLE E w lo hi A n c ls) (hn : 0 < n) : ∃ g, A = some ⟨g, 0, none⟩ ∧ lo ≤ g ∧ g < hi :=
  OwnL.place ⟨E, h⟩ hn
theorem Own.row_lt' {w : World} {lo hi n c : Nat} {A : Option Addr} {xs : List Int} (h : Own w lo hi A n c xs) {g : Nat} (hg : rowB A = some g) : lo ≤ g ∧ g < hi := h.lt g (by rw [ownB]; exact hg)
theorem OwnLE.row_lt' {E : Nat → Sv} {w : World} {lo hi n c : Nat} {A : Option Addr} {ls : List (List Int)} (h : OwnLE E w lo hi A n c ls) {g : Nat} (hg : rowB A = some g) : lo ≤ g ∧ g < hi :=
  ⟨(h.2.1.lt g (by rw [ownB]; exact hg)).1, h.2.2.1 g (by rw [ownB]; exact hg)⟩
/-- One of the lists replaced: by one in the same block, or in a new one. -/
theorem OwnLE.repl {E : Nat → Sv} {w w2 : World} {lo hi g n c : Nat} {ls : List (List Int)} (h : OwnLE E w lo hi (some ⟨g, 0, none⟩) n c ls) {k : Nat} (hk : k < n) (hhi : hi ≤ w.heap.size) (hg : w.grownBy w2 (rowB (E k).1)) {A2 : Option Addr} {n2 c2 : Nat} {ys : List Int}
    (hx : Own w2 lo w2.heap.size A2 n2 c2 ys) (hat : rowB A2 = rowB (E k).1 ∨ ∃ q, rowB A2 = some q ∧ w.heap.size ≤ q) :
    OwnL (w2.setCell ⟨g, k, none⟩ (.slice A2 n2 c2)) lo w2.heap.size (some ⟨g, 0, none⟩) n c (ls.set k ys) ∧ w2.grownBy (w2.setCell ⟨g, k, none⟩ (.slice A2 n2 c2)) (some g) := by
  obtain ⟨hl, ho, hh, he, hne, hdd⟩ := h
  have hgl := hh g rfl
  have hs := hg.size
  have hrk : ∀ b, rowB (E k).1 = some b → (sv (E k)).ownBlock = some b := fun b hb => by unfold sv; rw [ownB]; exact hb
  have ho2 : w2.ownsRow lo 22 1 (.slice (some ⟨g, 0, none⟩) n c) n (heads n E) := ho.kept hg (.inr fun e => hne k g hk (hrk g e.symm) rfl)
  have he2 : ∀ j, j < n → j ≠ k → Own w2 lo hi (E j).1 (E j).2.1 (E j).2.2 (li ls j) := fun j hj hjk => (he j hj).kept hg (fun b hb e => by
    rcases Nat.lt_or_gt_of_ne hjk with h | h
    · exact hdd j k b h hk hb (hrk b e)
    · exact hdd k j b h hj (hrk b e) hb)
  have hA2g : ∀ b, (sv ((A2, n2, c2) : Sv)).ownBlock = some b → b ≠ g := fun b hb => by
    have hb' : rowB A2 = some b := by rw [← ownB A2 n2 c2]; exact hb
    rcases hat with e | ⟨q, e, hq⟩
    · intro h; subst h; exact hne k b hk (hrk b (e ▸ hb')) rfl
    · rw [e] at hb'; injection hb' with hb'; omega
  have hA2E : ∀ j b, j < n → j ≠ k → (sv ((A2, n2, c2) : Sv)).ownBlock = some b → (sv (E j)).ownBlock ≠ some b := fun j b hj hjk hb e2 => by
    have hb' : rowB A2 = some b := by rw [← ownB A2 n2 c2]; exact hb
    rcases hat with e | ⟨q, e, hq⟩
    · have h3 := hrk b (e ▸ hb')
      rcases Nat.lt_or_gt_of_ne hjk with h | h
      · exact hdd j k b h hk e2 h3
      · exact hdd k j b h hj h3 e2
    · rw [e] at hb'; injection hb' with hb'
      have := (he j hj).lt b e2
      omega
  obtain ⟨o1, gg⟩ := ho2.stored k (.slice A2 n2 c2)
  refine ⟨⟨fun j => if j = k then (A2, n2, c2) else E j, by simpa using hl, ?_, fun b hb => by have := hh b hb; omega, fun j hj => ?_, fun j b hj hb => ?_, fun i j b hij hj hb => ?_⟩, gg⟩
  · exact row1_eq o1 (heads_set E hk (A2, n2, c2))
  · dsimp only
    rw [li_set (by omega)]
    by_cases e : j = k
    · rw [if_pos e, if_pos e]
      exact hx.kept gg (fun b hb e2 => by injection e2 with e2; exact hA2g b hb e2.symm)
    · rw [if_neg e, if_neg e]
      exact ((he2 j hj e).kept gg (fun b hb e2 => hne j b hj hb e2)).wide (Nat.le_refl _) (by omega)
  · dsimp only at hb
    by_cases e : j = k
    · rw [if_pos e] at hb
      have := hA2g b hb
      intro e2; simp [Value.ownBlock] at e2; omega
    · rw [if_neg e] at hb
      exact hne j b hj hb
  · dsimp only at hb ⊢
    by_cases e : i = k
    · rw [if_pos e] at hb
      rw [if_neg (by omega)]
      exact hA2E j b hj (by omega) hb
    · rw [if_neg e] at hb
      by_cases e' : j = k
      · rw [if_pos e']
        intro e2
        exact hA2E i b (by omega) e e2 hb
      · rw [if_neg e']
        exact hdd i j b hij hj hb
end Go.Proofs.Ytfaegfhbbkicgaa

/-
  Rows taken in one by one, in memory, on the program's side. Conditions: the modulus is 2, 3, 5 or 7; lengths at most 1000.
-/




namespace Go.Proofs.Ytfaegfhbbkicgaa
open Go.RowKit

/-- The rows that are kept, in memory. -/
structure EchD (w : World) (lo ge : Nat) (p : Int) (E : List (List Int × Int)) (AR : Option Addr) (nR cR : Nat) (AC : Option Addr) (nC cC : Nat) (Ev : Nat → Sv) : Prop where
  blk : Blk w ge 87 #[.int .i64 p, .slice AR nR cR, .slice AC nC cC]
  glo : lo ≤ ge
  rows : OwnLE Ev w lo w.heap.size AR nR cR (E.map (·.1))
  cols : Own w lo w.heap.size AC nC cC (E.map (·.2))
  ap1 : Apart Ev AR nR ge
  ap2 : rowB AC ≠ some ge
  ap3 : ∀ q, rowB AC = some q → Apart Ev AR nR q
def EchS (w : World) (lo ge : Nat) (p : Int) (E : List (List Int × Int)) : Prop := ∃ AR nR cR AC nC cC Ev, EchD w lo ge p E AR nR cR AC nC cC Ev
theorem OwnLE.belowE {E : Nat → Sv} {w w' : World} {lo hi n c B : Nat} {A : Option Addr} {ls : List (List Int)} (h : OwnLE E w lo hi A n c ls) (hb : Below B w w') (hB : hi ≤ B) : OwnLE E w' lo hi A n c ls := h.below hb hB
section
variable {w w' : World} {lo ge : Nat} {p : Int} {E : List (List Int × Int)} {AR : Option Addr} {nR cR : Nat} {AC : Option Addr} {nC cC : Nat} {Ev : Nat → Sv}
theorem EchD.below {B : Nat} (h : EchD w lo ge p E AR nR cR AC nC cC Ev) (hb : Below B w w') (hB : w.heap.size ≤ B) : EchD w' lo ge p E AR nR cR AC nC cC Ev :=
  ⟨h.blk.below hb (Nat.lt_of_lt_of_le h.blk.lt hB), h.glo, (h.rows.belowE hb hB).wide hb.size, (h.cols.below hb hB).wide (Nat.le_refl _) hb.size, h.ap1, h.ap2, h.ap3⟩
theorem EchD.lenR (h : EchD w lo ge p E AR nR cR AC nC cC Ev) : E.length = nR := by have := h.rows.1; simpa using this
theorem EchD.lenC (h : EchD w lo ge p E AR nR cR AC nC cC Ev) : E.length = nC := by have := h.cols.len; simpa using this
theorem EchD.cells (h : EchD w lo ge p E AR nR cR AC nC cC Ev) : w.cell? ⟨ge, 0, none⟩ = some (.int .i64 p) ∧ w.cell? ⟨ge, 1, none⟩ = some (.slice AR nR cR) ∧ w.cell? ⟨ge, 2, none⟩ = some (.slice AC nC cC) := ⟨h.blk.cell 0, h.blk.cell 1, h.blk.cell 2⟩
end
theorem redE_take {p : Int} {E : List (List Int × Int)} {x : List Int} {i : Nat} (h : i < E.length) :
    redE p (E.take (i + 1)) x = addT p (redE p (E.take i) x) (p - nth (redE p (E.take i) x) (nth (E.map (·.2)) i).toNat) (li (E.map (·.1)) i) := by
  rw [List.take_succ_eq_append_getElem h, redE_snoc]
  have e1 : nth (E.map (·.2)) i = E[i].2 := by rw [nth_get (by simpa using h)]; simp
  have e2 : li (E.map (·.1)) i = E[i].1 := by rw [li_get (by simpa using h)]; simp
  rw [e1, e2]
set_option maxRecDepth 100000 in
set_option maxHeartbeats 8000000 in
theorem echAdd_any (p : Int) (lo ge n c : Nat) (A : Option Addr) (E : List (List Int × Int)) (x : List Int) (w : World) (hp : P7 p) (hE : EchS w lo ge p E) (hok : EOk p n E) (hEl : E.length ≤ 1000) (hs : SI w A n x) (hx : Rg p x) (hn : n ≤ 1000) :
    Calls Try.prog 74 #[.pointer (some ⟨ge, 0, none⟩), .slice A n c] w fun e w' => e = .returned (.tuple #[]) ∧ EchS w' lo ge p (addR p E x) ∧ Below lo w w' := by
  obtain ⟨AR, nR, cR, AC, nC, cC, Ev, hD⟩ := hE
  have hp2 := hp.two
  have hp7 := hp.le
  have HP := Lib.hid hp
  have HOK := Lib.hid hok
  have HX := Lib.hid hx
  have HXL := Lib.hid hs.1
  have HLR := Lib.hid hD.lenR
  have HLC := Lib.hid hD.lenC
  have hnC : nC ≤ 1000 := by have := hD.lenC; omega
  have hnR : nR ≤ 1000 := by have := hD.lenR; omega
  obtain ⟨B, hB⟩ : ∃ B, B = w.heap.size := ⟨_, rfl⟩
  have HB0 : Hid (B = w.heap.size) := hB
  have HGE : Hid (lo ≤ ge ∧ ge < B) := Lib.hid ⟨hD.glo, by rw [hB]; exact hD.blk.lt⟩
  have HD0 := Lib.hid hD
  have HS0 := Lib.hid hs
  clear hp hok hx hD hs hEl
  go_enter Try.func74, Try.ntmps74
  go_upto_region 1 with (at_make; refine wpList_make_zero rfl (.tmp 10) (.tmp 10) rfl n rfl rfl (by omega) ?_; intro w1 ho1 hb1; have HO1 := Lib.hid ho1; have HB1 := Lib.hid hb1; clear ho1 hb1)
  rw [← hB] at HO1 HB1 ⊢
  clear hB
  go_upto_region 2 with (first
    | (refine wpList_copyR rfl (.tmp 12) (.tmp 13) rfl B n A n c rfl rfl B w1.heap.size (List.replicate n 0) x HO1.out (HS0.out.below HB1.out (Nat.le_of_eq HB0.out.symm)) (Nat.le_refl _) ?_
       intro w2 ho2 hg2
       have HO2 : Hid (Own w2 B w2.heap.size (some ⟨B, 0, none⟩) n n x) := Lib.hid (by
         have e : x ++ (List.replicate n (0 : Int)).drop n = x := by simp
         rw [e] at ho2; exact ho2.wide (Nat.le_refl _) hg2.size)
       have HB2 : Hid (Below B w w2) := Lib.hid (HB1.out.grown hg2 (by have := HB1.out.size; have := HB0.out; omega) (by rintro q ⟨⟩; exact Nat.le_refl _))
       clear ho2 hg2))
  have HD2 := Lib.hid (HD0.out.below HB2.out (Nat.le_of_eq HB0.out.symm))
  obtain ⟨q0, q1, q2⟩ := HD2.out.cells
  go_upto_region 3 with fail
  clear q0 q1 q2
  go_loopw [20] (fun iv wr => ∃ i : Nat, i ≤ nC ∧ iv = .int .i64 i ∧ Own wr B wr.heap.size (some ⟨B, 0, none⟩) n n (redE p (E.take i) x) ∧ Below B w wr)
    (fun iv _ => nC - (intOf iv).toNat)
  case atStart => exact ⟨0, Nat.zero_le _, rfl, by simpa [redE] using HO2.out, HB2.out⟩
  case round =>
    obtain ⟨i, hi, rfl, ho, hb⟩ := hrel
    clear HO2 HB2 HD2 HO1 HB1
    have HO := Lib.hid ho
    have HB := Lib.hid hb
    have HDr := Lib.hid (HD0.out.below hb (Nat.le_of_eq HB0.out.symm))
    clear ho hb
    by_cases hlt : i < nC
    case pos =>
      have hlI : (i : Int) < (nC : Int) := by omega
      obtain ⟨gc, rfl, hgc1, hgc2⟩ := HDr.out.cols.place (by omega)
      have hiE : i < E.length := by rw [HLC.out]; exact hlt
      have hiR : i < nR := by have := HLC.out; have := HLR.out; omega
      obtain ⟨gr, rfl, hgr1, hgr2⟩ := HDr.out.rows.place (by omega)
      have hcc := HDr.out.cols.cellAt hlt
      have hcr := HDr.out.rows.cellAt hiR
      have hei := HOK.out.1 E[i] (List.getElem_mem hiE)
      have hcol : nth (E.map (·.2)) i = E[i].2 := by rw [nth_get (by simpa using hiE)]; simp
      have hrow : li (E.map (·.1)) i = E[i].1 := by rw [li_get (by simpa using hiE)]; simp
      obtain ⟨y, hy⟩ : ∃ y, y = E[i].1 := ⟨_, rfl⟩
      rw [← hy] at hei hrow
      obtain ⟨j, hj⟩ : ∃ j : Nat, (j : Int) = nth (E.map (·.2)) i := ⟨(nth (E.map (·.2)) i).toNat, by rw [hcol]; omega⟩
      have hjn : j < n := by rw [hcol] at hj; omega
      rw [← hj] at hcc
      obtain ⟨⟨A', n', c'⟩, hEv⟩ : ∃ a, a = Ev i := ⟨_, rfl⟩
      have hown := HDr.out.rows.2.2.2.1 i hiR
      rw [← hEv] at hcr hown
      have hcr' : wr.cell? ⟨gr, i, none⟩ = some (.slice A' n' c') := hcr
      have hown' : Own wr lo wr.heap.size A' n' c' (li (E.map (·.1)) i) := hown
      rw [hrow] at hown'
      obtain rfl : n' = n := by have := hown'.len; have := hei.1; omega
      have hcx := HO.out.cellAt hjn
      obtain ⟨d, hd⟩ : ∃ d, d = redE p (E.take i) x := ⟨_, rfl⟩
      rw [← hd] at hcx HO
      have hdr : Rg p d := by rw [hd]; exact redE_rg (by omega) _ HX.out
      have hdl : d.length = n' := by rw [hd, redE_len, HXL.out]
      obtain ⟨v, hv⟩ : ∃ v, v = nth d j := ⟨_, rfl⟩
      have hvb := hdr j
      rw [← hv] at hcx hvb
      have hw1 : IntKind.i64.wrap (p - v) = p - v := IntWalk.i64_in _ (by omega)
      have HSTEP : Hid (redE p (E.take (i + 1)) x = addO p d 0 (p - v) y n') := Lib.hid (by
        rw [redE_take hiE, ← hd, ← hj, Int.toNat_natCast, ← hv, hrow, ← hdl, addO_whole])
      have HCALL := Lib.hid (rowTimes_any p (p - v) B n' n' B wr.heap.size 0 n' n' d y A' c' wr.drew ⟨hp2, hp7⟩ ⟨by omega, by omega⟩ hdr hei.2.1 (HO.out.drawn ⟨1, rfl⟩) (by omega) hn ((hown'.drawn ⟨1, rfl⟩).si)
        (.inl fun b o' e => by
          have h1 := (HD0.out.rows.2.2.2.1 i hiR).lt
          rw [← hEv] at h1
          have h2 : rowB A' = some b := by rw [e]; rfl
          have h3 := h1 b (by rw [ownB]; exact h2)
          have := HB0.out
          omega))
      have hS0 : wr.cell? ⟨ge, 0, none⟩ = some (.int .i64 p) ∧ wr.cell? ⟨ge, 1, none⟩ = some (.slice (some ⟨gr, 0, none⟩) nR cR) ∧ wr.cell? ⟨B, j, none⟩ = some (.int .i64 v) ∧ wr.cell? ⟨gr, i, none⟩ = some (.slice A' n' c') := ⟨HDr.out.cells.1, HDr.out.cells.2.1, hcx, hcr'⟩
      have hSD : wr.drew.cell? ⟨ge, 0, none⟩ = some (.int .i64 p) ∧ wr.drew.cell? ⟨ge, 1, none⟩ = some (.slice (some ⟨gr, 0, none⟩) nR cR) ∧ wr.drew.cell? ⟨B, j, none⟩ = some (.int .i64 v) ∧ wr.drew.cell? ⟨gr, i, none⟩ = some (.slice A' n' c') := hS0
      have HS1 := Lib.hid hS0
      have HS2 := Lib.hid hSD
      have hjI : (j : Int) < (n' : Int) := by omega
      have hiI : (i : Int) < (nR : Int) := by omega
      clear hS0 hSD hcx hcr hcr' hown hown' hEv hei hcol hrow hj hd hdr hdl hv hvb hgc1 hgc2 hgr1 hgr2 hy hiE
      have hcc' : wr.cell? ⟨gc, i, none⟩ = some (.int .i64 (j : Int)) := hcc
      clear hcc
      go_wp2_with fail
      obtain ⟨s0, s1, s2, s3⟩ := HS1.out
      refine wp_region_still_tail 21 (by kernel_rfl) (by kernel_rfl) ?_
      simp only [List.take_succ_cons, List.take_zero, List.drop_succ_cons, List.drop_zero]
      repeat still_step
      refine wpStill_nil ?_
      change wpList _ _ _ _ _ wr.drew
      go_wp2_with (go_at_call 137
                   with_reducible refine HCALL.out.mono ?_
                   rintro e w3 ⟨rfl, ho3, wm, hdm, hgm⟩
                   have hsz3 : wr.heap.size ≤ w3.heap.size := by
                     have h1 := (hdm.below wr.heap.size).size
                     have h2 := hgm.size
                     exact Nat.le_trans h1 h2
                   have HO3 := Lib.hid (ho3.wide (Nat.le_refl _) hsz3)
                   have HB3 : Hid (Below B w w3) := Lib.hid ((HB.out.drew.trans (hdm.below B)).grown hgm (by have h1 := HB.out.size; have h2 := HB0.out; have h3 : wr.heap.size ≤ wm.heap.size := (hdm.below wr.heap.size).size; omega) (by rintro q ⟨⟩; exact Nat.le_refl _))
                   clear ho3 hdm hgm hsz3)
      go_wp2
      go_roundw
      case rel => exact ⟨i + 1, by omega, by go_num, by rw [HSTEP.out]; exact HO3.out, HB3.out⟩
      case measure => simp [intOf]; omega
    case neg =>
      obtain rfl : i = nC := by omega
      obtain ⟨d, hd⟩ : ∃ d, d = redE p E x := ⟨_, rfl⟩
      have hOd : Own wr B wr.heap.size (some ⟨B, 0, none⟩) n n d := by
        have := HO.out
        rw [List.take_of_length_le (by have := HLC.out; omega), ← hd] at this; exact this
      clear HO
      have HO := Lib.hid hOd
      have hdr : Rg p d := by rw [hd]; exact redE_rg (by omega) _ HX.out
      have hdl : d.length = n := hOd.len
      have HIX := Lib.hid (indexNonz_any (some ⟨B, 0, none⟩) n n d wr hOd.si (by omega))
      have HDR := Lib.hid hdr
      have HDL := Lib.hid hdl
      have HDE := Lib.hid hd
      clear hOd hdr hdl hd
      by_cases hend : ldN d = n
      case pos =>
        have HRES : Hid (addR p E x = E) := Lib.hid (by unfold addR; rw [← HDE.out, if_pos (by rw [HXL.out]; exact hend)])
        go_upto_region 8 with (go_at_call 138; with_reducible refine HIX.out.mono ?_; rintro e w2 ⟨iv, rfl, hiv, hdr2⟩; obtain rfl : iv = -1 := (by omega); have HD2 := Lib.hid hdr2; clear hiv hdr2)
        go_wp2
        go_returns
        exact ⟨rfl, by rw [HRES.out]; exact ⟨AR, nR, cR, AC, i, cC, Ev, HDr.out.below (HD2.out.below wr.heap.size) (Nat.le_refl _)⟩, (HB.out.mono (by have := HGE.out; omega)).trans (HD2.out.below lo)⟩
      case neg =>
        have hcl := ldN_le d
        obtain ⟨j, hj⟩ : ∃ j, j = ldN d := ⟨_, rfl⟩
        have hjn : j < n := by have := HDL.out; omega
        have HJ := Lib.hid hj
        have hvr := HDR.out j
        have hvne : nth d j ≠ 0 := by rw [hj]; exact ldN_at d (by have := HDL.out; omega)
        obtain ⟨v, hv⟩ : ∃ v, v = nth d j := ⟨_, rfl⟩
        rw [← hv] at hvr hvne
        have hinv := inv7_ok HP.out (x := v) ⟨by omega, hvr.2⟩
        obtain ⟨F, hF⟩ : ∃ F : Nat, (F : Int) = inv7 p v := ⟨(inv7 p v).toNat, by omega⟩
        rw [← hF] at hinv
        have HUQ : Hid (∀ f : Nat, 0 < f → f < F → v * (f : Int) % p ≠ 1) := Lib.hid (fun f h1 h2 h3 => by
          have := inv7_is HP.out (x := v) (y := (f : Int)) ⟨by omega, hvr.2⟩ ⟨by omega, by omega⟩ h3
          omega)
        have HINV := Lib.hid hinv
        have HVR : Hid (0 < v ∧ v < p) := Lib.hid ⟨by omega, hvr.2⟩
        have HNRM : Hid (addO p d 0 ((F : Int) - 1) d n = nrm p d) := Lib.hid (by rw [← HDL.out, addO_whole]; unfold nrm; rw [← HJ.out, ← hv, hF])
        have HRES : Hid (addR p E x = E ++ [(nrm p d, (j : Int))]) := Lib.hid (by unfold addR; rw [← HDE.out, if_neg (by rw [HXL.out]; exact hend), ← HJ.out])
        have HV := Lib.hid hv
        have hpnz : p ≠ 0 := by omega
        clear hcl hj hvr hvne hv hinv hF
        have hjI : (j : Int) < (n : Int) := by omega
        have hj0 : ¬ (j : Int) < 0 := by omega
        go_upto_region 8 with (go_at_call 138; with_reducible refine HIX.out.mono ?_; rintro e w2 ⟨iv, rfl, hiv, hdr2⟩; obtain rfl : iv = (j : Int) := (by have := HJ.out; omega); have HD2 := Lib.hid hdr2; clear hiv hdr2)
        go_wp2_with fail
        obtain ⟨wo, rfl⟩ : ∃ wo, wo = wr := ⟨wr, rfl⟩
        go_loopw [8] (fun fv wr => ∃ f : Nat, 0 < f ∧ f ≤ F ∧ fv = .int .i64 f ∧ Drawn wo wr)
          (fun fv _ => F - (intOf fv).toNat)
        case atStart => exact ⟨1, by omega, by have := HINV.out.1; omega, rfl, HD2.out⟩
        case round =>
          obtain ⟨f, hf0, hf1, rfl, hdx⟩ := hrel
          clear HD2
          have HDX := Lib.hid hdx
          have hOx := HO.out.drawn hdx
          have hcx := hOx.cellAt hjn
          rw [← HV.out] at hcx
          have hq0 : wr.cell? ⟨ge, 0, none⟩ = some (.int .i64 p) := (HDr.out.below (hdx.below wo.heap.size) (Nat.le_refl _)).cells.1
          have hvf0 : 0 ≤ v * (f : Int) := Int.mul_nonneg (by have := HVR.out; omega) (by omega)
          have hvf1 : v * (f : Int) ≤ 7 * 7 := Int.mul_le_mul (by have := HVR.out; omega) (by have := HINV.out; omega) (by omega) (by decide)
          obtain ⟨S, hS⟩ : ∃ S, S = v * (f : Int) := ⟨_, rfl⟩
          have hw1 : IntKind.i64.wrap (v * (f : Int)) = S := by rw [← hS]; exact IntWalk.i64_in _ (by omega)
          obtain ⟨R, hR⟩ : ∃ R, R = S % p := ⟨_, rfl⟩
          have hw2 : S.tmod p = R := by rw [hR]; exact Int.tmod_eq_emod_of_nonneg (by omega)
          have hRb : 0 ≤ R ∧ R < p := by rw [hR]; exact ⟨Int.emod_nonneg _ hpnz, Int.emod_lt_of_pos _ (by omega)⟩
          have hw3 : IntKind.i64.wrap R = R := IntWalk.i64_in _ (by omega)
          clear hdx hOx hvf0 hvf1
          by_cases hfF : f = F
          case neg =>
            have hb : (R != 1) = true := by
              have := HUQ.out f hf0 (by omega)
              rw [hR, hS]; simpa using this
            have hf7 : f ≤ 7 := by have := HINV.out; omega
            clear hS hR hRb
            go_wp2_with fail
            go_quiet (fail)
            go_wp2
            go_roundw
            case rel => exact ⟨f + 1, by omega, by omega, by go_num, HDX.out.drewN _⟩
            case measure => simp [intOf]; omega
          case pos =>
            subst hfF
            have hb : (R != 1) = false := by
              have := HINV.out.2.2
              rw [hR, hS, this]; rfl
            have hf7 : (f : Int) ≤ 7 := by have := HINV.out; omega
            clear hS hR hRb
            have hw4 : IntKind.i64.wrap ((f : Int) - 1) = (f : Int) - 1 := IntWalk.i64_in _ (by omega)
            have HCALL := Lib.hid (fun m : Nat => rowTimes_any p ((f : Int) - 1) B n n B wo.heap.size 0 n n d d (some ⟨B, 0, none⟩) n (wr.drewN m) ⟨hp2, hp7⟩ ⟨by omega, by omega⟩ HDR.out HDR.out (HO.out.drawn (HDX.out.drewN m)) (by omega) hn (HO.out.drawn (HDX.out.drewN m)).si (.inr rfl))
            go_wp2_with fail
            go_quiet (fail)
            go_upto_region 13 with (first
               | (go_at_call 137
                  with_reducible refine (HCALL.out _).mono ?_
                  rintro e w3 ⟨rfl, ho3, wm, hdm, hgm⟩
                  have hwm : Drawn wo wm := (HDX.out.drewN _).trans hdm
                  have hsz3 : wo.heap.size ≤ w3.heap.size := Nat.le_trans (hwm.below wo.heap.size).size hgm.size
                  have HO3 : Hid (Own w3 B wo.heap.size (some ⟨B, 0, none⟩) n n (nrm p d)) := Lib.hid (by rw [HNRM.out] at ho3; exact ho3)
                  have HB3 : Hid (Below B w w3) := Lib.hid ((HB.out.trans (hwm.below B)).grown hgm (by have h1 := HB.out.size; have h2 := HB0.out; have h3 := (hwm.below wo.heap.size).size; omega) (by rintro q ⟨⟩; exact Nat.le_refl _))
                  have HZ3 := Lib.hid hsz3
                  clear ho3 hdm hgm hsz3 hwm))
            have HD3 := Lib.hid (HD0.out.below HB3.out (Nat.le_of_eq HB0.out.symm))
            have HBZ : Hid (B ≤ w3.heap.size) := Lib.hid (by have := HB3.out.size; have := HB0.out; omega)
            have HLE := Lib.hid HD0.out.rows
            have HAPB : Hid (Apart Ev AR nR B ∧ ∀ q, rowB AC = some q → q < B) := Lib.hid ⟨⟨fun e => by have := HD0.out.rows.2.2.1 B (by rw [ownB]; exact e); have := HB0.out; omega, fun j hj e => by have := (HD0.out.rows.2.2.2.1 j hj).lt B e; have := HB0.out; omega⟩, fun q hq => by have := (HD0.out.cols.row_lt' hq).2; have := HB0.out; omega⟩
            obtain ⟨c0, c1, c2⟩ := HD3.out.cells
            clear hb hw1 hw2 hw3 hw4 hcx hq0
            go_upto_region 14 with (first
               | (at_builtin
                  refine wpList_appendLE rfl (.tmp 79) (.tmp 81) rfl lo w3.heap.size AR nR cR (E.map (·.1)) B wo.heap.size (some ⟨B, 0, none⟩) n n (nrm p d) rfl (by show Act.eval _ _ = _; simp [Act.eval]) HD3.out.rows HO3.out (by have := HGE.out; omega) (fun b hb => by rw [ownB] at hb; injection hb with hb; subst hb; exact ⟨by rw [ownB]; exact HAPB.out.1.1, HAPB.out.1.2⟩) HZ3.out (Nat.le_refl _) (by have := HBZ.out; have := HGE.out; omega) (by omega) ?_
                  intro AR' cR' w4 hE4 hat4 hgr4 hb4
                  have HE4 := Lib.hid hE4
                  have HAT4 := Lib.hid hat4
                  have HGR4 := Lib.hid hgr4
                  have HB4 := Lib.hid hb4
                  have HK4 := Lib.hid (HD3.out.blk.grown hgr4 (fun e => HD3.out.ap1.1 e.symm))
                  have c1' : w4.cell? ⟨ge, 1, none⟩ = some (.slice AR nR cR) := HK4.out.cell 1
                  have f1' := HK4.out.frozen 1
                  clear hE4 hat4 hgr4 hb4))
            have hg4 : w4.grownBy (w4.setCell ⟨ge, 1, none⟩ (.slice AR' (nR + 1) cR')) (some ge) := grown_setP _ _ _
            have HKv : Hid (Blk (w4.setCell ⟨ge, 1, none⟩ (.slice AR' (nR + 1) cR')) ge 87 #[.int .i64 p, .slice AR' (nR + 1) cR', .slice AC i cC]) := Lib.hid (HK4.out.set_ 1 _)
            obtain ⟨v4, hv4⟩ : ∃ v4, v4 = w4.setCell ⟨ge, 1, none⟩ (.slice AR' (nR + 1) cR') := ⟨_, rfl⟩
            rw [← hv4] at hg4 HKv ⊢
            have HAPN : Hid (∀ q, (rowB AC = some q ∨ q = ge) → Apart (snE Ev nR (some ⟨B, 0, none⟩, n, n)) AR' (nR + 1) q) := Lib.hid (fun q hq => by
              have hqB : q < B := by
                rcases hq with h | h
                · exact HAPB.out.2 q h
                · have := HGE.out; omega
              have hap : Apart Ev AR nR q := by
                rcases hq with h | h
                · exact HD0.out.ap3 q h
                · rw [h]; exact HD0.out.ap1
              refine ⟨fun e => ?_, fun j hj e => ?_⟩
              · rcases HAT4.out with h | ⟨z, h, hz⟩
                · exact hap.1 (by rw [← h]; exact e)
                · rw [h] at e; injection e with e; have := HBZ.out; omega
              · by_cases hjn : j < nR
                · rw [snE_lt _ _ hjn] at e; exact hap.2 j hjn e
                · rw [show j = nR by omega, snE_at] at e
                  have e' : some B = some q := e
                  injection e' with e'; omega)
            have HEv : Hid (OwnLE (snE Ev nR (some ⟨B, 0, none⟩, n, n)) v4 lo v4.heap.size AR' (nR + 1) cR' (E.map (·.1) ++ [nrm p d])) := Lib.hid ((HE4.out.apart hg4 (fun q hq => by injection hq with hq; exact HAPN.out q (.inr hq.symm))).wide hg4.size)
            have HCv : Hid (Own v4 lo v4.heap.size AC i cC (E.map (·.2))) := Lib.hid ((((HD3.out.cols.kept HGR4.out (fun q hq e => (HD3.out.ap3 q (by rw [← ownB AC i cC]; exact hq)).1 e)).kept hg4 (fun q hq e => HD3.out.ap2 (by rw [← ownB AC i cC, hq, e]))).wide (Nat.le_refl _) (Nat.le_trans HGR4.out.size hg4.size)))
            have HBv : Hid (Below lo w v4) := Lib.hid (((HB3.out.mono (by have := HGE.out; omega)).trans HB4.out).grown hg4 (by have := HB4.out.size; have := HBZ.out; have := HGE.out; omega) (by rintro q ⟨⟩; exact HGE.out.1))
            have HLOv : Hid (lo ≤ v4.heap.size) := Lib.hid (by have := HB4.out.size; have := HBZ.out; have := HGE.out; have := hg4.size; omega)
            have d2 : v4.cell? ⟨ge, 2, none⟩ = some (.slice AC i cC) := HKv.out.cell 2
            clear hv4 hg4 c0 c1 c2 c1' f1'
            go_wp2_with (first
               | (at_builtin
                  refine wpList_append_keep rfl (.tmp 89) (.tmp 91) rfl lo v4.heap.size AC i cC (E.map (·.2)) (j : Int) rfl (by show Act.eval _ _ = _; simp [Act.eval]) HCv.out HLOv.out (by omega) ?_
                  intro AC' cC' w5 ho5 hgr5 hat5
                  have HO5 := Lib.hid ho5
                  have HGR5 := Lib.hid hgr5
                  have HAT5 := Lib.hid hat5
                  have HK5 := Lib.hid (HKv.out.grown hgr5 (fun e => HD0.out.ap2 e.symm))
                  have d2' : w5.cell? ⟨ge, 2, none⟩ = some (.slice AC i cC) := HK5.out.cell 2
                  have g2' := HK5.out.frozen 2
                  clear ho5 hgr5 hat5))
            go_returns
            have hg5 : w5.grownBy (w5.setCell ⟨ge, 2, none⟩ (.slice AC' (i + 1) cC')) (some ge) := grown_setP _ _ _
            have hne5 : rowB AC' ≠ some ge := fun e => by
              rcases HAT5.out with ⟨h, _⟩ | ⟨z, h, hz, _⟩
              · rw [h] at e; exact HD0.out.ap2 e
              · rw [h, rowB_some] at e
                injection e with e
                have := HKv.out.lt; omega
            refine ⟨rfl, ?_, ?_⟩
            · rw [HRES.out]
              refine ⟨AR', nR + 1, cR', AC', i + 1, cC', snE Ev nR (some ⟨B, 0, none⟩, n, n), HK5.out.set_ 2 _, HGE.out.1, ?_, ?_, HAPN.out ge (.inr rfl), hne5, fun q hq => ?_⟩
              · rw [List.map_append]
                exact ((HEv.out.apart HGR5.out (fun q hq => HAPN.out q (.inl hq))).apart hg5 (fun q hq => by injection hq with hq; exact HAPN.out q (.inr hq.symm))).wide (Nat.le_trans HGR5.out.size hg5.size)
              · rw [List.map_append]
                exact ((HO5.out.kept hg5 (fun q hq e => hne5 (by rw [← ownB AC' (i + 1) cC', hq, e]))).wide (Nat.le_refl _) hg5.size)
              · rcases HAT5.out with ⟨h, _⟩ | ⟨z, h, hz, _⟩
                · rw [h] at hq; exact HAPN.out q (.inl hq)
                · rw [h, rowB_some] at hq
                  injection hq with hq
                  subst hq
                  exact ⟨fun e => by have := HEv.out.row_lt' e; omega, fun j hj e => by have := (HEv.out.2.2.2.1 j hj).lt _ e; omega⟩
            · exact (HBv.out.grown HGR5.out HLOv.out (fun q hq => (HCv.out.row_lt' hq).1)).grown hg5 (by have := HGR5.out.size; have := HLOv.out; omega) (by rintro q ⟨⟩; exact HGE.out.1)
end Go.Proofs.Ytfaegfhbbkicgaa

/-
  All rows of a list taken in, on the program's side. Conditions: the modulus is 2, 3, 5 or 7; lengths at most 1000.
-/

namespace Go.Proofs.Ytfaegfhbbkicgaa
open Go.RowKit

theorem Try.infoEc : (Try.prog.info? 87).map (·.size) = some 3 := by kernel_rfl
/-- What a call that makes an echelon hands back. -/
def FreshEc (w w' : World) (e : Ending) (p : Int) (E : List (List Int × Int)) : Prop :=
  ∃ AR nR cR AC nC cC, e = .returned (.agg #[.int .i64 p, .slice AR nR cR, .slice AC nC cC]) ∧ OwnL w' w.heap.size w'.heap.size AR nR cR (E.map (·.1)) ∧ Own w' w.heap.size w'.heap.size AC nC cC (E.map (·.2)) ∧ Below w.heap.size w w'
theorem take_li' {ls : List (List Int)} {k : Nat} (h : k < ls.length) : ls.take (k + 1) = ls.take k ++ [li ls k] := by
  rw [List.take_succ_eq_append_getElem h, li_get h]
set_option maxRecDepth 100000 in
set_option maxHeartbeats 2000000 in
theorem echelonOf_any (p : Int) (n : Nat) (A : Option Addr) (R c : Nat) (ls : List (List Int)) (w : World) (hp : P7 p) (hs : LS w A R ls) (hR : R ≤ 1000) (hl : ∀ x, x ∈ ls → x.length = n ∧ Rg p x) (hn : n ≤ 1000) :
    Calls Try.prog 128 #[.int .i64 p, .slice A R c] w fun e w' => FreshEc w w' e p (echel p ls) := by
  obtain ⟨w1, hw1⟩ : ∃ w1, w1 = w.alloc (.cells #[.int .i64 0, .slice none 0 0, .slice none 0 0] 87) := ⟨_, rfl⟩
  obtain ⟨g, hg⟩ : ∃ g, g = w.heap.size := ⟨_, rfl⟩
  have hk : Blk w1 g 87 #[.int .i64 0, .slice none 0 0, .slice none 0 0] := by rw [hw1, hg]; exact Blk.new _ _ _
  have hb : Below w.heap.size w w1 := by rw [hw1]; exact Below.alloc_self _ _
  have HB := Lib.hid hb
  have HSZ : Hid (w1.heap.size = g + 1) := Lib.hid (by rw [hw1, hg]; simp)
  have HW := Lib.hid hw1
  have HG := Lib.hid hg
  have HK := Lib.hid hk
  have HP := Lib.hid hp
  have HL := Lib.hid hl
  have HLS := Lib.hid (hs.below hb (Nat.le_refl _))
  have HLN := Lib.hid hs.1
  clear hw1 hg hk hb hp hl hs
  go_enter Try.func128, Try.ntmps128
  go_upto_region 1 with fail
  rw [← HW.out, ← HG.out]
  go_upto_region 2 with (first
    | (refine wpList_store_rowP rfl 87 (.tmp 5) (.tmp 9) rfl w1.heap.size #[.int .i64 p, .slice none 0 0, .slice none 0 0] rfl rfl 87 #[.int .i64 0, .slice none 0 0, .slice none 0 0] (Blk.new _ _ _) Try.infoEc rfl (by simp [Value.oneCell']) ?_
       intro w2 hb2 hg2
       have HK2 := Lib.hid hb2
       have HG2 := Lib.hid hg2
       clear hb2 hg2))
  obtain ⟨ge, hge⟩ : ∃ ge, ge = w1.heap.size := ⟨_, rfl⟩
  rw [← hge] at HK2 HG2 ⊢
  have HGE : Hid (ge = w1.heap.size) := Lib.hid hge
  have HB2 : Hid (Below ge w1 w2) := Lib.hid (((Below.refl ge w1).alloc (Nat.le_of_eq hge) _).grown HG2.out (by simp; omega) (by rintro q ⟨⟩; exact Nat.le_refl _))
  have HE0 : Hid (EchS w2 ge ge p []) := Lib.hid ⟨none, 0, 0, none, 0, 0, fun _ => (none, 0, 0), HK2.out, Nat.le_refl _, ⟨rfl, by simpa [heads] using World.ownsRow_nil _ _ _ _, fun k hk => by simp [Value.ownBlock] at hk, fun j hj => absurd hj (by omega), fun j g hj => absurd hj (by omega), fun i j g _ hj => absurd hj (by omega)⟩, Own.nil _ _ _, ⟨fun e => by simp [rowB, Value.ownBlock] at e, fun j hj => absurd hj (by omega)⟩, fun e => by simp [rowB, Value.ownBlock] at e, fun q hq => by simp [rowB, Value.ownBlock] at hq⟩
  clear hge
  go_wp2_with fail
  go_loopw [12] (fun iv wr => ∃ i : Nat, i ≤ R ∧ iv = .int .i64 i ∧ EchS wr ge ge p (echel p (ls.take i)) ∧ Below ge w1 wr)
    (fun iv _ => R - (intOf iv).toNat)
  case atStart => exact ⟨0, Nat.zero_le _, rfl, by simpa [echel] using HE0.out, HB2.out⟩
  case round =>
    obtain ⟨i, hi, rfl, hE, hbr⟩ := hrel
    clear HE0 HB2 HK2 HG2
    have HE := Lib.hid hE
    have HBR := Lib.hid hbr
    have HOK := Lib.hid (echel_ok (p := p) (n := n) HP.out (rows := ls.take i) (fun x hx => HL.out x (List.mem_of_mem_take hx))).1
    have HLE : Hid ((echel p (ls.take i)).length ≤ 1000) := Lib.hid (by
      have h1 := rnkL_le p (ls.take i)
      unfold rnkL at h1
      have h2 : (ls.take i).length ≤ i := by simp; omega
      omega)
    clear hE hbr
    by_cases hlt : i < R
    case pos =>
      have hlI : (i : Int) < (R : Int) := by omega
      have hil : i < ls.length := by rw [HLN.out]; exact hlt
      obtain ⟨b, o, A', n', c', rfl, hbb, hc0, hsi, _, _⟩ := (HLS.out.below HBR.out (Nat.le_of_eq HGE.out.symm)).at_ hlt
      obtain ⟨x, hx⟩ : ∃ x, x = li ls i := ⟨_, rfl⟩
      rw [← hx] at hsi
      have hxm : x ∈ ls := by rw [hx, li_get hil]; exact List.getElem_mem hil
      have hxo := HL.out x hxm
      have HSTEP : Hid (echel p (ls.take (i + 1)) = addR p (echel p (ls.take i)) x) := Lib.hid (by
        rw [take_li' hil, ← hx]; simp [echel, List.foldl_append])
      obtain rfl : n' = n := by have := hsi.1; have := hxo.1; omega
      have HADD := Lib.hid (echAdd_any p ge ge n' c' A' (echel p (ls.take i)) x wr HP.out HE.out HOK.out HLE.out hsi hxo.2 hn)
      clear hx hxm hxo hsi hil
      go_wp2_with (go_at_call 74; with_reducible refine HADD.out.mono ?_; rintro e w3 ⟨rfl, hE3, hb3⟩; have HE3 := Lib.hid hE3; have HB3 : Hid (Below ge w1 w3) := Lib.hid (HBR.out.trans hb3); clear hE3 hb3)
      go_roundw
      case rel => exact ⟨i + 1, by omega, by go_num, by rw [HSTEP.out]; exact HE3.out, HB3.out⟩
      case measure => simp [intOf]; omega
    case neg =>
      obtain rfl : i = R := by omega
      obtain ⟨AR, nR, cR, AC, nC, cC, Ev, hD⟩ := HE.out
      have HD := Lib.hid hD
      have HKr := Lib.hid (HK.out.below HBR.out (by have := HSZ.out; have := HGE.out; omega))
      clear hD
      go_wp2_with (first
        | (refine wpList_load_rowP rfl 87 (.tmp 5) rfl ge rfl 87 #[.int .i64 p, .slice AR nR cR, .slice AC nC cC] _ HD.out.blk Try.underlying87 rfl Try.infoEc ?_)
        | (refine wpList_store_rowP rfl 87 (.tmp 4) (.tmp 19) rfl g #[.int .i64 p, .slice AR nR cR, .slice AC nC cC] rfl rfl 87 #[.int .i64 0, .slice none 0 0, .slice none 0 0] HKr.out Try.infoEc rfl (by simp [Value.oneCell']) ?_; intro w5 hb5 hg5)
        | fail)
      refine bodyPost_ret (results_rowP Try.results128 _ _ _ 87 #[.int .i64 p, .slice AR nR cR, .slice AC nC cC] _ rfl hb5 Try.underlying87 rfl Try.infoEc) rfl ?_
      have l1 := HSZ.out
      have l2 := HGE.out
      have l3 := HG.out
      have l4 := hg5.size
      have l5 := HBR.out.size
      have hE : echel p (ls.take i) = echel p ls := by rw [List.take_of_length_le (by rw [HLN.out]; exact Nat.le_refl _)]
      have hO := HD.out.rows
      have hC := HD.out.cols
      rw [hE] at hO hC
      refine ⟨AR, nR, cR, AC, nC, cC, rfl, ⟨Ev, ?_⟩, ?_, ?_⟩
      · have h5 := (hO.apart hg5 (fun q hq => by injection hq with hq; subst hq; exact ⟨fun e => by have := (hO.row_lt' e).1; omega, fun j hj e => by have := ((hO.2.2.2.1 j hj).lt _ e).1; omega⟩)).wide l4
        obtain ⟨a1, a2, a3, a4, a5, a6⟩ := h5
        refine ⟨a1, ⟨a2.1, ?_⟩, a3, fun j hj => (a4 j hj).wide (by omega) (Nat.le_refl _), a5, a6⟩
        rcases a2.2 with hn | ⟨g', cap, cur, e, hl, rest⟩
        · exact .inl hn
        · exact .inr ⟨g', cap, cur, e, by omega, rest⟩
      · exact (hC.kept hg5 (fun q hq e => by injection e with e; have := (hC.lt q hq).1; omega)).wide (by omega) l4
      · exact (HB.out.trans (HBR.out.mono (by omega))).grown hg5 (by omega) (by rintro q ⟨⟩; omega)
theorem ecRank_any (p : Int) (AR AC : Option Addr) (nR cR nC cC : Nat) (w : World) :
    Calls Try.prog 129 #[.agg #[.int .i64 p, .slice AR nR cR, .slice AC nC cC]] w fun e w' => e = .returned (.int .i64 nR) ∧ Below w.heap.size w w' := by
  obtain ⟨w1, hw1⟩ : ∃ w1, w1 = w.alloc (.cells #[.int .i64 p, .slice AR nR cR, .slice AC nC cC] 87) := ⟨_, rfl⟩
  obtain ⟨g, hg⟩ : ∃ g, g = w.heap.size := ⟨_, rfl⟩
  have hk : Blk w1 g 87 #[.int .i64 p, .slice AR nR cR, .slice AC nC cC] := by rw [hw1, hg]; exact Blk.new _ _ _
  have HB : Hid (Below w.heap.size w w1) := Lib.hid (by rw [hw1]; exact Below.alloc_self _ _)
  have HW := Lib.hid hw1
  have HG := Lib.hid hg
  have q1 : w1.cell? ⟨g, 1, none⟩ = some (.slice AR nR cR) := hk.cell 1
  clear hw1 hg hk
  go_enter Try.func129, Try.ntmps129
  go_upto_region 1 with fail
  rw [← HW.out, ← HG.out]
  go_wp2
  go_ret
  exact ⟨rfl, HB.out⟩
end Go.Proofs.Ytfaegfhbbkicgaa

/-
  Pieces of spans on the program's side: the place of a number, rows turned round, a matrix of copied rows. Conditions: lengths below 2^40, sizes at most 14.
-/



namespace Go.Proofs.Ytfaegfhbbkicgaa
open Go.RowKit

set_option maxHeartbeats 800000 in
theorem indexV_any (A : Option Addr) (n c : Nat) (xs : List Int) (v : Int) (w : World) (hs : SI w A n xs) (hn : n ≤ 1099511627776) :
    Calls Try.prog 188 #[.slice A n c, .int .i64 v] w fun r w' =>
      ∃ i : Int, r = .returned (.int .i64 i) ∧ (ixN xs v = n ∧ i = -1 ∨ ixN xs v < n ∧ i = (ixN xs v : Int)) ∧ Drawn w w' := by
  have HL := Lib.hid hs.1
  go_enter Try.func188, Try.ntmps188
  go_wp2
  go_loopw [8] (fun i wr => ∃ k : Nat, k ≤ n ∧ i = .int .i64 k ∧ Drawn w wr ∧ ∀ j, j < k → nth xs j ≠ v)
    (fun i _ => n - (intOf i).toNat)
  case atStart => exact ⟨0, Nat.zero_le _, rfl, Drawn.refl _, fun j hj => absurd hj (by omega)⟩
  case round =>
    obtain ⟨k, hk, rfl, hD, hall⟩ := hrel
    have HA := Lib.hid hall
    have HDR := Lib.hid hD
    have hs := hD.si hs
    clear hall hD
    by_cases hlt : k < n
    · have hlI : (k : Int) < (n : Int) := by omega
      obtain ⟨b, o, rfl, hb, hc⟩ := hs.at_ (by omega)
      have hc1 := hc k hlt
      obtain ⟨y, hy⟩ : ∃ y, y = nth xs k := ⟨_, rfl⟩
      rw [← hy] at hc1
      have HY := Lib.hid hy
      clear hc hy hs
      by_cases hg : v = y
      · have hgb : (v == y) = true := by simpa using hg
        have HG := Lib.hid hg
        clear hg
        go_wp2
        go_ret
        have hgt : ixN xs v = k := ixN_is xs k (by rw [HL.out]; omega) HA.out (.inr (by rw [← HY.out]; exact HG.out.symm))
        exact ⟨(k : Int), rfl, .inr ⟨by omega, by rw [hgt]⟩, HDR.out⟩
      · have hgb : (v == y) = false := by simpa using hg
        have HG := Lib.hid hg
        clear hg
        go_wp2
        go_roundw
        case rel => exact ⟨k + 1, by omega, by go_num, HDR.out, fun j hj => by
          rcases Nat.lt_or_ge j k with h | h
          · exact HA.out j h
          · obtain rfl : j = k := by omega
            rw [← HY.out]; exact fun e => HG.out e.symm⟩
        case measure => simp [intOf]; omega
    · have hkn : k = n := by omega
      subst hkn
      go_wp2
      go_ret
      exact ⟨-1, rfl, .inl ⟨ixN_is xs k (by rw [HL.out]; exact Nat.le_refl _) HA.out (.inl HL.out.symm), rfl⟩, HDR.out⟩

/-- A row of heads of slices in a block of its own, with room. -/
def OwnG (w : World) (lo g n c : Nat) (E : Nat → Sv) : Prop := w.ownsRow lo 22 1 (.slice (some ⟨g, 0, none⟩) n c) n (heads n E)
theorem OwnG.cellAt {w : World} {lo g n c : Nat} {E : Nat → Sv} (h : OwnG w lo g n c E) {k : Nat} (hk : k < n) : w.cell? ⟨g, k, none⟩ = some (sv (E k)) := by
  rw [World.ownsRow.cellAt h k (by omega), heads_get _ hk]
theorem OwnG.set_ {w : World} {lo g n c : Nat} {E : Nat → Sv} (h : OwnG w lo g n c E) {k : Nat} (hk : k < n) (a : Sv) : OwnG (w.setCell ⟨g, k, none⟩ (sv a)) lo g n c (fun j => if j = k then a else E j) := by
  have hst := (World.ownsRow.stored h k (sv a)).1
  rw [heads_set E hk a] at hst
  exact hst
theorem OwnG.congr {w : World} {lo g n c : Nat} {E F : Nat → Sv} (h : OwnG w lo g n c E) (e : ∀ k, k < n → E k = F k) : OwnG w lo g n c F := by
  unfold OwnG at h ⊢
  rwa [heads_congr e] at h
def revE (E : Nat → Sv) (n k : Nat) : Nat → Sv := fun t => if t < k ∨ n ≤ t + k then E (n - 1 - t) else E t
set_option maxHeartbeats 2000000 in
theorem reverseRows_any (g n c lo : Nat) (E : Nat → Sv) (w : World) (hs : OwnG w lo g n c E) (h1 : 1 ≤ n) (hn : n ≤ 1099511627776) :
    Calls Try.prog 189 #[.slice (some ⟨g, 0, none⟩) n c] w fun e w' => e = .returned (.tuple #[]) ∧ OwnG w' lo g n c (fun t => E (n - 1 - t)) ∧ Within g (g + 1) w w' := by
  go_enter Try.func189, Try.ntmps189
  go_wp2
  go_loopw [2, 3] (fun i j wr => ∃ k j0 : Nat, 2 * k ≤ n ∧ j0 + k + 1 = n ∧ i = .int .i64 k ∧ j = .int .i64 j0 ∧ OwnG wr lo g n c (revE E n k) ∧ Within g (g + 1) w wr)
    (fun i _ _ => n - (intOf i).toNat)
  case atStart => exact ⟨0, n - 1, by omega, by omega, rfl, by go_num, hs.congr fun t ht => by unfold revE; rw [if_neg (by omega)], Within.of_below_ (Below.refl _ _)⟩
  case round =>
    obtain ⟨k, j, hk, hj, rfl, rfl, hown, hgr⟩ := hrel
    have HO := Lib.hid hown
    have HGR := Lib.hid hgr
    have HJ := Lib.hid hj
    clear hown hs hj hgr
    by_cases hlt : k < j
    · have hck := HO.out.cellAt (k := k) (by have := HJ.out; omega)
      have hcj := HO.out.cellAt (k := j) (by have := HJ.out; omega)
      have e1 : revE E n k k = E k := by unfold revE; rw [if_neg (by have := HJ.out; omega)]
      have e2 : revE E n k j = E j := by unfold revE; rw [if_neg (by have := HJ.out; omega)]
      rw [e1] at hck
      rw [e2] at hcj
      have hfk : wr.frozen? ⟨g, k, none⟩ = false := World.ownsRow.frozenAt HO.out k
      have hfj : wr.frozen? ⟨g, j, none⟩ = false := World.ownsRow.frozenAt HO.out j
      obtain ⟨⟨xa, xn, xc⟩, hx⟩ : ∃ x, x = E k := ⟨_, rfl⟩
      obtain ⟨⟨ya, yn, yc⟩, hy⟩ : ∃ y, y = E j := ⟨_, rfl⟩
      rw [← hx] at hck
      rw [← hy] at hcj
      have hck' : wr.cell? ⟨g, k, none⟩ = some (.slice xa xn xc) := hck
      have hcj' : wr.cell? ⟨g, j, none⟩ = some (.slice ya yn yc) := hcj
      have HX := Lib.hid hx
      have HY := Lib.hid hy
      have hlI : (k : Int) < (j : Int) := by omega
      have hkI : (k : Int) < (n : Int) := by have := HJ.out; omega
      have hjI : (j : Int) < (n : Int) := by have := HJ.out; omega
      have hne : ¬ k = j := by omega
      have hne' : ¬ j = k := by omega
      have hs1 := HO.out.set_ (k := k) (by have := HJ.out; omega) (ya, yn, yc)
      have hs2 := hs1.set_ (k := j) (by have := HJ.out; omega) (xa, xn, xc)
      have HS := Lib.hid hs2
      have hcj2 : (wr.setCell ⟨g, k, none⟩ (.slice ya yn yc)).cell? ⟨g, j, none⟩ = some (.slice ya yn yc) := (World.cell?_setCell_other wr _ _ _ (by intro e; injection e with _ e2; exact hne e2)).trans hcj'
      have hfj2 : (wr.setCell ⟨g, k, none⟩ (.slice ya yn yc)).frozen? ⟨g, j, none⟩ = false := World.ownsRow.frozenAt hs1 j
      clear hs1 hs2 hx hy hck hcj e1 e2
      go_wp2
      go_region
      go_wp2
      go_roundw
      case rel =>
        have e3 := HJ.out
        refine ⟨k + 1, j - 1, by omega, by omega, by go_num, by go_num, ?_, ?_⟩
        · have h5 : OwnG ((wr.setCell ⟨g, k, none⟩ (.slice ya yn yc)).setCell ⟨g, j, none⟩ (.slice xa xn xc)) lo g n c (revE E n (k + 1)) := HS.out.congr fun t ht => by
            unfold revE
            by_cases h6 : t = j
            · subst h6; rw [if_pos rfl, if_pos (by omega), HX.out, show n - 1 - t = k by omega]
            · rw [if_neg h6]
              by_cases h7 : t = k
              · subst h7; rw [if_pos rfl, if_pos (by omega), HY.out, show n - 1 - t = j by omega]
              · rw [if_neg h7]
                by_cases h8 : t < k ∨ n ≤ t + k
                · rw [if_pos h8, if_pos (by omega)]
                · rw [if_neg h8, if_neg (by omega)]
          exact h5
        · have g1 := grown_setP wr ⟨g, k, none⟩ (.slice ya yn yc)
          have g2 := grown_setP (wr.setCell ⟨g, k, none⟩ (.slice ya yn yc)) ⟨g, j, none⟩ (.slice xa xn xc)
          have w1 : Within g (g + 1) wr (wr.setCell ⟨g, k, none⟩ (.slice ya yn yc)) := Within.of_grown g1 (by rintro q ⟨⟩; exact ⟨Nat.le_refl _, Nat.lt_succ_self _⟩)
          have w2 : Within g (g + 1) (wr.setCell ⟨g, k, none⟩ (.slice ya yn yc)) ((wr.setCell ⟨g, k, none⟩ (.slice ya yn yc)).setCell ⟨g, j, none⟩ (.slice xa xn xc)) := Within.of_grown g2 (by rintro q ⟨⟩; exact ⟨Nat.le_refl _, Nat.lt_succ_self _⟩)
          exact ((HGR.out.trans w1).trans w2).trans (Within.of_below_ ((Below.refl _ _).drew))
      case measure => have := HJ.out; simp [intOf]; omega
    · go_wp2
      go_returns
      refine ⟨rfl, HO.out.congr fun t ht => by
        have := HJ.out
        unfold revE
        by_cases h8 : t < k ∨ n ≤ t + k
        · rw [if_pos h8]
        · rw [if_neg h8, show n - 1 - t = t by omega], HGR.out⟩
end Go.Proofs.Ytfaegfhbbkicgaa

/-
  A matrix of copied rows, on the program's side. Conditions: sizes at most 14.
-/

namespace Go.Proofs.Ytfaegfhbbkicgaa
open Go.RowKit

/-- The list ys with e in place of what stood from o on. -/
def spl (ys : List Int) (o : Nat) (e : List Int) : List Int := ys.take o ++ (e ++ ys.drop (o + e.length))
theorem spl_len {ys : List Int} {o : Nat} {e : List Int} (h : o + e.length ≤ ys.length) : (spl ys o e).length = ys.length := by simp [spl]; omega
theorem spl_nth {ys : List Int} {o : Nat} {e : List Int} (h : o + e.length ≤ ys.length) (q : Nat) : nth (spl ys o e) q = if q < o then nth ys q else if q < o + e.length then nth e (q - o) else nth ys q := by
  unfold spl nth
  simp only [List.getD_eq_getElem?_getD]
  have hto : (ys.take o).length = o := by simp; omega
  by_cases h1 : q < o
  · rw [if_pos h1, List.getElem?_append_left (by omega), List.getElem?_take_of_lt h1]
  · rw [if_neg h1, List.getElem?_append_right (by omega), hto]
    by_cases h2 : q < o + e.length
    · rw [if_pos h2, List.getElem?_append_left (by omega)]
    · rw [if_neg h2, List.getElem?_append_right (by omega), List.getElem?_drop, show o + e.length + (q - o - e.length) = q by omega]
theorem splice_take {α : Type} (cur : List α) (N o : Nat) (E : List α) (h : o + E.length ≤ N) (hN : N ≤ cur.length) : (cur.take o ++ (E ++ cur.drop (o + E.length))).take N = (cur.take N).take o ++ (E ++ (cur.take N).drop (o + E.length)) := by
  apply List.ext_getElem?
  intro q
  have hto : (cur.take o).length = o := by simp; omega
  have hto2 : ((cur.take N).take o).length = o := by simp; omega
  rw [List.getElem?_take]
  by_cases h1 : q < o
  · rw [if_pos (by omega), List.getElem?_append_left (by omega), List.getElem?_append_left (by omega), List.getElem?_take_of_lt h1, List.getElem?_take_of_lt h1, List.getElem?_take_of_lt (by omega)]
  · rw [List.getElem?_append_right (l₁ := cur.take o) (by omega), List.getElem?_append_right (l₁ := (cur.take N).take o) (by omega), hto, hto2]
    by_cases h2 : q < o + E.length
    · rw [if_pos (by omega), List.getElem?_append_left (by omega), List.getElem?_append_left (by omega)]
    · rw [List.getElem?_append_right (l₁ := E) (by omega), List.getElem?_append_right (l₁ := E) (by omega), List.getElem?_drop, List.getElem?_drop, List.getElem?_take, show o + E.length + (q - o - E.length) = q by omega]
theorem wpList_copyAt {ops : Array Oper} {rest : List Oper} {o : Oper} {a : Act} {w : World} {Q : Exit → Act → World → Prop} (hgd : o.guard = none) (d s : Operand)
    (ho : o.op = .call { callee := .builtin .copy, args := #[d, s], argTypes := #[22, 22] }) (g off n k' N K : Nat) (A : Option Addr) (c : Nat) (hd : a.eval d = .slice (some ⟨g, off, none⟩) n k') (hs : a.eval s = .slice A n c)
    (lo hi : Nat) (ys e : List Int) (hown : Own w lo hi (some ⟨g, 0, none⟩) N K ys) (hsi : SI w A n e) (hle : off + n ≤ N)
    (hK : ∀ w', Own w' lo hi (some ⟨g, 0, none⟩) N K (spl ys off e) → w.grownBy w' (some g) → wpList Try.prog ops Q rest (a.put o.dst (goInt n)) w') : wpList Try.prog ops Q (o :: rest) a w := by
  have hl := hsi.1
  by_cases h0 : n = 0
  · subst h0
    obtain rfl : e = [] := List.eq_nil_of_length_eq_zero hl
    exact Go.wpList_copy_nothing hgd d s 22 22 ho 3 Try.underlying22 Try.infoIntR (some ⟨g, off, none⟩) A 0 k' 0 c hd hs (by simp) (hK w (by simpa [spl] using hown) (World.grownBy.refl _ _))
  · obtain ⟨b, off2, rfl, hb, hc⟩ := hsi.2 (by omega)
    have hyl := hown.len
    rcases hown.1.2 with ⟨hx, _⟩ | ⟨g', cap, cur, hv, hlo, hg, hnc, hcm, hcs, htake⟩
    · cases hx
    · have hv' := hv
      simp only [Value.slice.injEq, Option.some.injEq, Addr.mk.injEq, and_true, true_and] at hv'
      obtain ⟨rfl, rfl⟩ := hv'
      rw [Nat.mul_one] at htake
      have hcl : N ≤ cur.toList.length := by have := congrArg List.length htake; simp at this ⊢; omega
      have hel : (e.map (Value.int .i64)).length = n := by simp [hl]
      refine Go.wpList_copy_own hgd d s 22 22 ho 3 Try.underlying22 Try.infoIntR g off n k' ⟨b, off2, none⟩ n c hd hs cur 3 hg (e.map (Value.int .i64)) (by simp [hl]) ?_ (by rw [hel]; simp at hcl; omega) (ints_oneCell _ _) ?_
      · intro j v hj
        have hjl : j < e.length := by
          rcases Nat.lt_or_ge j e.length with h | h
          · exact h
          · rw [List.getElem?_eq_none (by simpa using h)] at hj; cases hj
        rw [List.getElem?_map, nth_get? hjl] at hj
        rw [add_pt, hc j (by omega)]
        exact hj
      · rw [hel]
        have hgr := grownBy_setRow w g (cur.toList.take off ++ (e.map (Value.int .i64) ++ cur.toList.drop (off + n))).toArray
        refine hK _ ⟨⟨by rw [List.length_map, spl_len (by omega)]; omega, .inr ⟨g, K, _, rfl, hlo, setRow_heap w g cur _ 3 (0, 0) hg, hnc, hcm, ?_, ?_⟩⟩, hown.2⟩ hgr
        · rw [← hcs]
          simp at hcl
          simp [hl]; omega
        · rw [Nat.mul_one, List.toList_toArray]
          have h5 := splice_take cur.toList N off (e.map (Value.int .i64)) (by rw [hel]; exact hle) hcl
          rw [hel] at h5
          rw [h5, htake]
          simp [spl, List.map_take, List.map_drop, hl]
/-- The rows of a list one behind another, as far as a row. -/
def flatK (R C : Nat) (ls : List (List Int)) (k : Nat) : List Int := (List.range (R * C)).map fun q => if q / C < k then nth (li ls (q / C)) (q % C) else 0
theorem flatK_len (R C : Nat) (ls : List (List Int)) (k : Nat) : (flatK R C ls k).length = R * C := by simp [flatK]
theorem flatK_nth {R C : Nat} {ls : List (List Int)} {k q : Nat} (h : q < R * C) : nth (flatK R C ls k) q = if q / C < k then nth (li ls (q / C)) (q % C) else 0 := nth_rangeMap _ h
theorem flatK_zero (R C : Nat) (ls : List (List Int)) : flatK R C ls 0 = List.replicate (R * C) 0 :=
  nth_ext (by rw [flatK_len]; simp) fun q hq => by
    rw [flatK_len] at hq
    rw [flatK_nth hq, if_neg (Nat.not_lt_zero _)]
    simp [nth, List.getD, hq]
theorem div_row {C i c : Nat} (hc : c < C) : (i * C + c) / C = i ∧ (i * C + c) % C = c := by
  have h1 : (i * C + c) / C = i := by rw [Nat.mul_comm, Nat.mul_add_div (by omega), Nat.div_eq_of_lt hc, Nat.add_zero]
  have h2 := Nat.div_add_mod (i * C + c) C
  rw [h1, Nat.mul_comm] at h2
  exact ⟨h1, by omega⟩
theorem idx_ltB {R C i : Nat} (hi : i < R) (hC : 0 < C) : 0 < R * C := Nat.mul_pos (by omega) hC
theorem flatK_step {R C : Nat} {ls : List (List Int)} {k : Nat} (hk : k < R) (hC : 0 < C) (hl : (li ls k).length = C) : spl (flatK R C ls k) (k * C) (li ls k) = flatK R C ls (k + 1) := by
  have h5 : (k + 1) * C ≤ R * C := Nat.mul_le_mul (by omega) (Nat.le_refl _)
  rw [Nat.add_mul, Nat.one_mul] at h5
  have hle : k * C + (li ls k).length ≤ (flatK R C ls k).length := by rw [flatK_len, hl]; omega
  refine nth_ext (by rw [spl_len hle, flatK_len, flatK_len]) fun q hq => ?_
  rw [spl_len hle, flatK_len] at hq
  rw [spl_nth hle, flatK_nth hq, flatK_nth hq, hl]
  by_cases h1 : q < k * C
  · have h2 : q / C < k := (Nat.div_lt_iff_lt_mul hC).2 h1
    rw [if_pos h1, if_pos h2, if_pos (by omega)]
  · have h2 : ¬ q / C < k := fun h => h1 ((Nat.div_lt_iff_lt_mul hC).1 h)
    rw [if_neg h1, if_neg h2]
    by_cases h3 : q < k * C + C
    · rw [if_pos h3]
      obtain ⟨c, rfl⟩ : ∃ c, q = k * C + c := ⟨q - k * C, by omega⟩
      obtain ⟨e1, e2⟩ := div_row (i := k) (C := C) (c := c) (by omega)
      rw [e1, e2, if_pos (by omega), show k * C + c - k * C = c by omega]
    · rw [if_neg h3]
      have h4 : ¬ q / C < k + 1 := fun h => h3 (by have := (Nat.div_lt_iff_lt_mul hC).1 h; rw [Nat.add_mul, Nat.one_mul] at this; exact this)
      rw [if_neg h4]
set_option maxRecDepth 100000 in
set_option maxHeartbeats 2000000 in
theorem matrixOf_any (p : Int) (C R cx : Nat) (A : Option Addr) (ls : List (List Int)) (w : World) (hs : LS w A R ls) (hC : 0 < C ∧ C ≤ 14) (hR : R ≤ 14) (hl : ∀ x, x ∈ ls → x.length = C) :
    Calls Try.prog 130 #[.int .i64 p, .int .i64 C, .slice A R cx] w fun e w' => FreshMx w w' e p R C (flatK R C ls R) := by
  obtain ⟨w1, hw1⟩ : ∃ w1, w1 = w.alloc (.cells #[.int .i64 0, .int .i64 0, .int .i64 0, .slice none 0 0] 27) := ⟨_, rfl⟩
  obtain ⟨g, hg⟩ : ∃ g, g = w.heap.size := ⟨_, rfl⟩
  have hk : Blk w1 g 27 #[.int .i64 0, .int .i64 0, .int .i64 0, .slice none 0 0] := by rw [hw1, hg]; exact Blk.new _ _ _
  have hb : Below w.heap.size w w1 := by rw [hw1]; exact Below.alloc_self _ _
  have HB := Lib.hid hb
  have HSZ : Hid (w1.heap.size = g + 1) := Lib.hid (by rw [hw1, hg]; simp)
  have HW := Lib.hid hw1
  have HG := Lib.hid hg
  have HK := Lib.hid hk
  have HS := Lib.hid (hs.below hb (Nat.le_refl _))
  have HLL := Lib.hid hs.1
  have HX := Lib.hid hl
  have HC := Lib.hid hC
  have HZM := Lib.hid (zeroMatrix_any p R C w1 hR hC.2)
  clear hw1 hg hk hb hs hl hC
  go_enter Try.func130, Try.ntmps130
  go_upto_region 1 with fail
  rw [← HW.out, ← HG.out]
  go_upto_region 2 with (first
    | (go_at_call 181
       with_reducible refine HZM.out.mono ?_
       rintro e w2 ⟨A2, N, k2, rfl, ho2, hb2⟩
       have HO2 := Lib.hid ho2
       have HB2 := Lib.hid hb2
       clear ho2 hb2)
    | (refine wpList_store_rowP rfl 27 (.tmp 7) (.tmp 14) rfl w2.heap.size #[.int .i64 p, .int .i64 R, .int .i64 C, .slice A2 N k2] rfl rfl 27 #[.int .i64 0, .int .i64 0, .int .i64 0, .slice none 0 0] (Blk.new _ _ _) Try.infoMx rfl (by simp [Value.oneCell']) ?_
       intro w3 hb3 hg3
       have HK3 := Lib.hid hb3
       have HG3 := Lib.hid hg3
       clear hb3 hg3)
    | fail)
  obtain ⟨s1, hs1⟩ : ∃ s1, s1 = w1.heap.size := ⟨_, rfl⟩
  obtain ⟨s2, hs2⟩ : ∃ s2, s2 = w2.heap.size := ⟨_, rfl⟩
  rw [← hs1] at HB2
  rw [← hs1, ← hs2] at HO2
  rw [← hs2] at HK3 HG3 ⊢
  have HORD : Hid (g + 1 = s1 ∧ s1 ≤ s2) := Lib.hid (by have := HSZ.out; have := HB2.out.size; omega)
  have HB3 : Hid (Below s2 w2 w3) := Lib.hid (((Below.refl s2 w2).alloc (Nat.le_of_eq hs2) _).grown HG3.out (by simp; omega) (by rintro q ⟨⟩; exact Nat.le_refl _))
  have HNL : Hid (N = R * C) := Lib.hid (by have := HO2.out.len; simpa using this.symm)
  have HB13 : Hid (Below s1 w1 w3) := Lib.hid (HB2.out.trans (HB3.out.mono HORD.out.2))
  have HO3 : Hid (Own w3 s1 s2 A2 N k2 (flatK R C ls 0)) := Lib.hid (by rw [flatK_zero]; exact HO2.out.below HB3.out (Nat.le_refl _))
  have HS1 := Lib.hid hs1
  clear hs1 hs2 HG3 HB3 HO2 HB2
  go_wp2_with fail
  go_loopw [17] (fun iv wr => ∃ i : Nat, i ≤ R ∧ iv = .int .i64 i ∧ Own wr s1 s2 A2 N k2 (flatK R C ls i) ∧ Blk wr s2 27 #[.int .i64 p, .int .i64 R, .int .i64 C, .slice A2 N k2] ∧ Below s1 w1 wr)
    (fun iv _ => R - (intOf iv).toNat)
  case atStart => exact ⟨0, Nat.zero_le _, rfl, HO3.out, HK3.out, HB13.out⟩
  case round =>
    obtain ⟨i, hi, rfl, ho, hkm, hbr⟩ := hrel
    clear HO3 HK3 HB13
    have HO := Lib.hid ho
    have HKM := Lib.hid hkm
    have HBR := Lib.hid hbr
    have HKG := Lib.hid (HK.out.below hbr (by have := HORD.out; omega))
    clear ho hkm hbr
    by_cases hlt : i < R
    case neg =>
      obtain rfl : i = R := by omega
      go_wp2_with (first
        | (refine wpList_load_rowP rfl 27 (.tmp 7) rfl s2 rfl 27 #[.int .i64 p, .int .i64 i, .int .i64 C, .slice A2 N k2] _ HKM.out Try.underlying27 rfl Try.infoMx ?_)
        | (refine wpList_store_rowP rfl 27 (.tmp 6) (.tmp 28) rfl g #[.int .i64 p, .int .i64 i, .int .i64 C, .slice A2 N k2] rfl rfl 27 #[.int .i64 0, .int .i64 0, .int .i64 0, .slice none 0 0] HKG.out Try.infoMx rfl (by simp [Value.oneCell']) ?_; intro w5 hb5 hg5)
        | fail)
      refine bodyPost_ret (results_rowP Try.results130 _ _ _ 27 #[.int .i64 p, .int .i64 i, .int .i64 C, .slice A2 N k2] _ rfl hb5 Try.underlying27 rfl Try.infoMx) rfl ?_
      have l1 := HORD.out
      have l2 := HG.out
      have l3 := hg5.size
      have l4 := HKM.out.lt
      have l5 := HBR.out.size
      have l6 := HS1.out
      refine ⟨A2, N, k2, rfl, ?_, ?_⟩
      · exact (HO.out.grown hg5 (fun q hq => by injection hq with hq; omega)).wide (by omega) (by omega)
      · exact (HB.out.trans (HBR.out.mono (by omega))).grown hg5 (by omega) (by rintro q ⟨⟩; omega)
    case pos =>
      have hlI : (i : Int) < (R : Int) := by omega
      have hil : i < ls.length := by rw [HLL.out]; exact hlt
      obtain ⟨b, o, A', n', c', rfl, _, hc0, hsi, _, _⟩ := (HS.out.below HBR.out (Nat.le_of_eq HS1.out.symm)).at_ hlt
      have hxl := HX.out (li ls i) (by rw [li_get hil]; exact List.getElem_mem hil)
      obtain rfl : n' = C := by have := hsi.1; omega
      obtain ⟨gd, rfl, _, _⟩ := HO.out.place (by rw [HNL.out]; have := idx_ltB hlt HC.out.1; omega)
      have hq1 : (i + 1) * n' ≤ N := by rw [HNL.out]; exact Nat.mul_le_mul (by omega) (Nat.le_refl _)
      have HROW := Lib.hid (fun w' => matRow_any p (R : Int) gd 0 N k2 n' i w' HC.out.2 (by omega) hq1 HO.out.cap (by have := nat_mul_small hR HC.out.2; have := HNL.out; omega) HC.out.1)
      obtain ⟨q, hq⟩ : ∃ q, q = i * n' := ⟨_, rfl⟩
      obtain ⟨kk, hkk⟩ : ∃ kk, kk = k2 - i * n' := ⟨_, rfl⟩
      rw [Nat.zero_add, ← hkk, ← hq] at HROW
      have hqn : q + n' ≤ N := by rw [Nat.add_mul, Nat.one_mul] at hq1; omega
      have HSTEP : Hid (flatK R n' ls (i + 1) = spl (flatK R n' ls i) q (li ls i)) := Lib.hid (by rw [hq]; exact (flatK_step hlt HC.out.1 hxl).symm)
      have HSI := Lib.hid hsi
      clear hxl hil hq hkk hq1 hsi
      go_wp2_with (first
        | (refine wpList_load_rowP rfl 27 (.tmp 7) rfl s2 rfl 27 #[.int .i64 p, .int .i64 R, .int .i64 n', .slice (some ⟨gd, 0, none⟩) N k2] _ HKM.out Try.underlying27 rfl Try.infoMx ?_)
        | (go_at_call 131
           with_reducible refine (HROW.out _).mono ?_
           rintro e w4 ⟨rfl, hb4⟩
           have HB4 := Lib.hid hb4
           have HO4 : Hid (Own w4 s1 s2 (some ⟨gd, 0, none⟩) N k2 (flatK R n' ls i)) := Lib.hid (HO.out.below hb4 (Nat.le_of_lt HKM.out.lt))
           have HK4 := Lib.hid (HKM.out.below hb4 HKM.out.lt)
           clear hb4)
        | (refine wpList_copyAt rfl (.tmp 24) (.tmp 25) rfl gd q n' kk N k2 A' c' rfl rfl s1 s2 (flatK R n' ls i) (li ls i) HO4.out (HSI.out.below HB4.out (Nat.le_refl _)) hqn ?_
           intro w6 ho6 hg6
           have HO6 := Lib.hid ho6
           have HG6 := Lib.hid hg6
           clear ho6 hg6)
        | fail)
      go_roundw
      case rel =>
        have h3 := HO4.out.lt gd rfl
        exact ⟨i + 1, by omega, by go_num, by rw [HSTEP.out]; exact HO6.out, HK4.out.grown HG6.out (fun e => by injection e with e; omega), (HBR.out.trans (HB4.out.mono (by have := HBR.out.size; have := HS1.out; omega))).grown HG6.out (by have := HBR.out.size; have := HB4.out.size; have := HS1.out; omega) (by rintro z ⟨⟩; exact h3.1)⟩
      case measure => simp [intOf]; omega
end Go.Proofs.Ytfaegfhbbkicgaa

/-
  Spans on the program's side. Conditions: the modulus is 2, 3, 5 or 7; sizes at most 14.
-/

namespace Go.Proofs.Ytfaegfhbbkicgaa
open Go.RowKit

theorem reverseRows_none (A : Option Addr) (c : Nat) (w : World) :
    Calls Try.prog 189 #[.slice A 0 c] w fun e w' => e = .returned (.tuple #[]) ∧ w = w' := by
  go_enter Try.func189, Try.ntmps189
  go_wp2
  refine wp_loop_rounds 1 ?_
  rw [rounds_succ]
  go_wp2
  go_returns
  exact ⟨rfl, rfl⟩
/-- What reducedRows leaves. -/
def RedLS (w w' : World) (A2 : Option Addr) (n2 : Nat) (p : Int) (n : Nat) (E : List (List Int × Int)) : Prop := LS w' A2 n2 (((echel p (dscR E n n)).map (·.1)).reverse) ∧ Below w.heap.size w w'
set_option maxRecDepth 100000 in
set_option maxHeartbeats 4000000 in
theorem reducedRows_any (p : Int) (n : Nat) (E : List (List Int × Int)) (AR AC : Option Addr) (nR cR nC cC : Nat) (w : World) (hp : P7 p) (hok : EOk p n E) (hEl : E.length ≤ 1000) (hR : LS w AR nR (E.map (·.1))) (hC : SI w AC nC (E.map (·.2))) (hn : n ≤ 1000) :
    Calls Try.prog 141 #[.agg #[.int .i64 p, .slice AR nR cR, .slice AC nC cC], .int .i64 n] w fun e w' => ∃ A2 n2 c2, e = .returned (.slice A2 n2 c2) ∧ RedLS w w' A2 n2 p n E := by
  obtain ⟨w1, hw1⟩ : ∃ w1, w1 = w.alloc (.cells #[.int .i64 p, .slice AR nR cR, .slice AC nC cC] 87) := ⟨_, rfl⟩
  obtain ⟨g, hg⟩ : ∃ g, g = w.heap.size := ⟨_, rfl⟩
  have hk : Blk w1 g 87 #[.int .i64 p, .slice AR nR cR, .slice AC nC cC] := by rw [hw1, hg]; exact Blk.new _ _ _
  have hb : Below w.heap.size w w1 := by rw [hw1]; exact Below.alloc_self _ _
  have HB := Lib.hid hb
  have HSZ : Hid (w1.heap.size = g + 1) := Lib.hid (by rw [hw1, hg]; simp)
  have HW := Lib.hid hw1
  have HG := Lib.hid hg
  have HK := Lib.hid hk
  have HP := Lib.hid hp
  have HOK := Lib.hid hok
  have HRL := Lib.hid (hR.below hb (Nat.le_refl _))
  have HCL := Lib.hid (hC.below hb (Nat.le_refl _))
  have HNR : Hid (E.length = nR) := Lib.hid (by have := hR.1; simpa using this)
  have HNC : Hid (E.length = nC) := Lib.hid (by have := hC.1; simpa using this)
  have hnC : nC ≤ 1000 := by have := HNC.out; omega
  have HDS := Lib.hid (fun t (ht : t ≤ n) => DscI.all hp hok t ht)
  have hp2 := hp.two
  have q0 : w1.cell? ⟨g, 0, none⟩ = some (.int .i64 p) := hk.cell 0
  have hwn : IntKind.i64.wrap ((n : Int) - 1) = (n : Int) - 1 := IntWalk.i64_in _ (by omega)
  clear hw1 hg hk hb hp hok hR hC
  go_enter Try.func141, Try.ntmps141
  go_upto_region 1 with fail
  rw [← HW.out, ← HG.out]
  go_upto_region 2 with (first
    | (refine wpList_store_rowP rfl 87 (.tmp 5) (.tmp 10) rfl w1.heap.size #[.int .i64 p, .slice none 0 0, .slice none 0 0] rfl rfl 87 #[.int .i64 0, .slice none 0 0, .slice none 0 0] (Blk.new _ _ _) Try.infoEc rfl (by simp [Value.oneCell']) ?_
       intro w2 hb2 hg2
       have HK2 := Lib.hid hb2
       have HG2 := Lib.hid hg2
       clear hb2 hg2))
  obtain ⟨ge, hge⟩ : ∃ ge, ge = w1.heap.size := ⟨_, rfl⟩
  rw [← hge] at HK2 HG2 ⊢
  have HGE : Hid (ge = w1.heap.size) := Lib.hid hge
  have HB2 : Hid (Below ge w1 w2) := Lib.hid (((Below.refl ge w1).alloc (Nat.le_of_eq hge) _).grown HG2.out (by simp; omega) (by rintro q ⟨⟩; exact Nat.le_refl _))
  have HE0 : Hid (EchS w2 ge ge p []) := Lib.hid ⟨none, 0, 0, none, 0, 0, fun _ => (none, 0, 0), HK2.out, Nat.le_refl _, ⟨rfl, by simpa [heads] using World.ownsRow_nil _ _ _ _, fun k hk => by simp [Value.ownBlock] at hk, fun j hj => absurd hj (by omega), fun j g hj => absurd hj (by omega), fun i j g _ hj => absurd hj (by omega)⟩, Own.nil _ _ _, ⟨fun e => by simp [rowB, Value.ownBlock] at e, fun j hj => absurd hj (by omega)⟩, fun e => by simp [rowB, Value.ownBlock] at e, fun q hq => by simp [rowB, Value.ownBlock] at hq⟩
  clear hge q0
  go_wp2_with fail
  clear hwn
  go_loopw [6] (fun cv wr => ∃ t : Nat, t ≤ n ∧ cv = .int .i64 ((n : Int) - 1 - (t : Int)) ∧ EchS wr ge ge p (echel p (dscR E n t)) ∧ Below ge w1 wr)
    (fun cv _ => (intOf cv + 1).toNat)
  case atStart => exact ⟨0, Nat.zero_le _, by simp, by simpa [echel, dscR] using HE0.out, HB2.out⟩
  case round =>
    obtain ⟨t, ht, rfl, hE, hbr⟩ := hrel
    clear HE0 HB2 HK2 HG2
    have HE := Lib.hid hE
    have HBR := Lib.hid hbr
    have HDT := Lib.hid (HDS.out t ht)
    have HLE : Hid ((echel p (dscR E n t)).length ≤ 1000) := Lib.hid (by
      have h1 := nodup_le ((HDS.out t ht).ok.2.nodup HP.out.two) (m := List.range n) (fun c hc => by
        obtain ⟨x, hx, rfl⟩ := List.mem_map.1 hc
        exact List.mem_range.2 ((HDS.out t ht).ok.2.at_ hx).1)
      simp [prs] at h1
      omega)
    have HKr := Lib.hid (HK.out.below hbr (by have := HSZ.out; have := HGE.out; omega))
    clear hE hbr
    by_cases hlt : t < n
    case pos =>
      obtain ⟨c, hc⟩ : ∃ c : Nat, c = n - 1 - t := ⟨_, rfl⟩
      have hcI : (n : Int) - 1 - (t : Int) = (c : Int) := by omega
      have HCE := Lib.hid hcI
      rw [hcI]
      have hwc : IntKind.i64.wrap ((c : Int) - 1) = (n : Int) - 1 - ((t + 1 : Nat) : Int) := by
        have e : (c : Int) - 1 = (n : Int) - 1 - ((t + 1 : Nat) : Int) := by omega
        rw [← e]; exact IntWalk.i64_in _ (by omega)
      have HIX := Lib.hid (fun w' (hb' : Drawn wr w') => indexV_any AC nC cC (E.map (·.2)) (c : Int) w' (hb'.si (HCL.out.below HBR.out (Nat.le_of_eq HGE.out.symm))) (by omega))
      have hc0 : (c : Int) ≥ 0 := by omega
      have q1 : wr.cell? ⟨g, 1, none⟩ = some (.slice AR nR cR) := HKr.out.cell 1
      have q2 : wr.cell? ⟨g, 2, none⟩ = some (.slice AC nC cC) := HKr.out.cell 2
      by_cases hix : ixN (E.map (·.2)) (c : Int) < nC
      case pos =>
        have HHIT : Hid (dscR E n (t + 1) = dscR E n t ++ [li (E.map (·.1)) (ixN (E.map (·.2)) (c : Int))]) := Lib.hid (by rw [hc]; exact dscR_hit (by rw [← hc, HNC.out]; exact hix))
        obtain ⟨i, hi⟩ : ∃ i, i = ixN (E.map (·.2)) (c : Int) := ⟨_, rfl⟩
        rw [← hi] at HIX HHIT hix
        have hiR : i < nR := by have := HNR.out; have := HNC.out; omega
        have hiE : i < E.length := by rw [HNC.out]; exact hix
        obtain ⟨b, o, A', n', c', rfl, hbb, hcr, hsi, _, _⟩ := (HRL.out.below HBR.out (Nat.le_of_eq HGE.out.symm)).at_ hiR
        have hrow : li (E.map (·.1)) i = E[i].1 := by rw [li_get (by simpa using hiE)]; simp
        have hei := HOK.out.1 E[i] (List.getElem_mem hiE)
        obtain ⟨x, hx⟩ : ∃ x, x = li (E.map (·.1)) i := ⟨_, rfl⟩
        rw [← hx] at hsi HHIT hrow
        obtain rfl : n' = n := by have h1 := hsi.1; have h2 := hei.1; rw [hrow] at h1; omega
        have HADD := Lib.hid (fun w' (hb' : Drawn wr w') => echAdd_any p ge ge n' c' A' (echel p (dscR E n' t)) x w' HP.out (by obtain ⟨AR2, nR2, cR2, AC2, nC2, cC2, Ev2, hD⟩ := HE.out; exact ⟨AR2, nR2, cR2, AC2, nC2, cC2, Ev2, hD.below (hb'.below wr.heap.size) (Nat.le_refl _)⟩) HDT.out.ok HLE.out (hb'.si hsi) (by rw [hrow]; exact hei.2.1) hn)
        have hcr' : wr.cell? ⟨b, o + i, none⟩ = some (.slice A' n' c') := hcr
        have HIL := Lib.hid hi
        have hiI : (i : Int) < (nR : Int) := by omega
        have hi0 : (i : Int) ≥ 0 := by omega
        clear hx hrow hei hsi hcr hiE hi hc hcI
        go_wp2_with (first
          | (go_at_call 188
             with_reducible refine (HIX.out _ (Drawn.refl _)).mono ?_
             rintro e w3 ⟨iv, rfl, hiv, hd3⟩
             obtain rfl : iv = (i : Int) := hiv.elim (fun h => absurd h.1 (by omega)) (fun h => h.2)
             have HD3 := Lib.hid hd3
             have q1' : w3.cell? ⟨g, 1, none⟩ = some (.slice (some ⟨b, o, none⟩) nR cR) := (HKr.out.drawn hd3).cell 1
             have hcr3 : w3.cell? ⟨b, o + i, none⟩ = some (.slice A' n' c') := by obtain ⟨m, rfl⟩ := hd3; exact hcr'
             clear hiv hd3)
          | (go_at_call 74
             with_reducible refine (HADD.out _ HD3.out).mono ?_
             rintro e w4 ⟨rfl, hE4, hb4⟩
             have HE4 := Lib.hid hE4
             have HB4 : Hid (Below ge w1 w4) := Lib.hid ((HBR.out.trans (HD3.out.below ge)).trans hb4)
             clear hE4 hb4)
          | fail)
        go_roundw
        case rel => exact ⟨t + 1, by omega, rfl, by rw [HHIT.out, echel_snoc]; exact HE4.out, HB4.out⟩
        case measure => have l1 := HCE.out; simp [intOf]; omega
      case neg =>
        have HMISS : Hid (dscR E n (t + 1) = dscR E n t) := Lib.hid (dscR_miss (by rw [← hc, HNC.out]; exact hix))
        have HIXE : Hid (ixN (E.map (·.2)) (c : Int) = nC) := Lib.hid (by have := ixN_le (E.map (·.2)) (c : Int); simp only [List.length_map] at this; have := HNC.out; omega)
        clear hc hcI hix
        go_wp2_with (first
          | (go_at_call 188
             with_reducible refine (HIX.out _ (Drawn.refl _)).mono ?_
             rintro e w3 ⟨iv, rfl, hiv, hd3⟩
             obtain rfl : iv = -1 := hiv.elim (fun h => h.2) (fun h => absurd h.1 (by have := HIXE.out; omega))
             have HD3 := Lib.hid hd3
             clear hiv hd3)
          | fail)
        go_roundw
        case rel =>
          obtain ⟨AR2, nR2, cR2, AC2, nC2, cC2, Ev2, hD⟩ := HE.out
          exact ⟨t + 1, by omega, rfl, by rw [HMISS.out]; exact ⟨AR2, nR2, cR2, AC2, nC2, cC2, Ev2, hD.below (HD3.out.below wr.heap.size) (Nat.le_refl _)⟩, HBR.out.trans (HD3.out.below ge)⟩
        case measure => have l1 := HCE.out; simp [intOf]; omega
    case neg =>
      obtain rfl : t = n := by omega
      have hcI : (t : Int) - 1 - (t : Int) = -1 := by omega
      rw [hcI]
      obtain ⟨AR2, nR2, cR2, AC2, nC2, cC2, Ev, hD⟩ := HE.out
      have HD := Lib.hid hD
      have q1 := hD.cells.2.1
      have l1 := HSZ.out
      have l2 := HGE.out
      have l3 := HG.out
      by_cases hn0 : 0 < nR2
      case pos =>
        obtain ⟨gr, rfl, hgr1, hgr2⟩ := hD.rows.place hn0
        have hrev := reverseRows_any gr nR2 cR2 ge Ev wr hD.rows.2.1 hn0 (by have := hD.lenR; have := HLE.out; omega)
        have HREV := Lib.hid hrev
        have HGRW : Hid (gr ≠ ge) := Lib.hid (fun e => hD.ap1.1 (by rw [e]; rfl))
        clear hD hrev l1 l2 l3
        go_wp2_with (first
          | (go_at_call 189
             with_reducible refine HREV.out.mono ?_
             rintro e w3 ⟨rfl, ho3, hw3⟩
             have HO3 := Lib.hid ho3
             have HW3 := Lib.hid hw3
             have q1' : w3.cell? ⟨ge, 1, none⟩ = some (.slice (some ⟨gr, 0, none⟩) nR2 cR2) := Blk.cell (t := 87) (cs := #[.int .i64 p, .slice (some ⟨gr, 0, none⟩) nR2 cR2, .slice AC2 nC2 cC2]) ((hw3.2.2.2.2 ge HD.out.blk.lt (by have := HGRW.out; omega)).trans HD.out.blk) 1
             clear ho3 hw3)
          | fail)
        go_ret
        have l1 := HSZ.out
        have l2 := HGE.out
        have l3 := HG.out
        refine ⟨some ⟨gr, 0, none⟩, nR2, cR2, rfl, ?_, (HB.out.trans ((HBR.out.trans (HW3.out.below hgr1 (by have := HD.out.blk.lt; have := HD.out.glo; omega))).mono (by omega)))⟩
        have hrl := HD.out.lenR
        refine ⟨by simpa using hrl, fun _ => ⟨gr, 0, rfl, (HO3.out.lt gr rfl).2, fun k hk => ⟨(Ev (nR2 - 1 - k)).1, (Ev (nR2 - 1 - k)).2.1, (Ev (nR2 - 1 - k)).2.2, by rw [Nat.zero_add]; exact OwnG.cellAt HO3.out hk, ?_⟩⟩⟩
        have hk2 : nR2 - 1 - k < nR2 := by omega
        have hown := HD.out.rows.2.2.2.1 (nR2 - 1 - k) hk2
        have hown3 := hown.same (w' := w3) (fun q hq => HW3.out.2.2.2.2 q (by have := (hown.lt q (by rw [ownB]; exact hq)).2; omega) (by
          have h5 := HD.out.rows.2.2.2.2.1 (nR2 - 1 - k) q hk2 (by unfold sv; rw [ownB]; exact hq)
          rw [ownB] at h5
          have h6 : gr ≠ q := fun e => h5 (by rw [e]; rfl)
          omega))
        have hli : li (((echel p (dscR E t t)).map (·.1)).reverse) k = li ((echel p (dscR E t t)).map (·.1)) (nR2 - 1 - k) := by
          rw [li_get (by simp; omega), li_get (by simp; omega), List.getElem_reverse]
          congr 1
          simp; omega
        rw [hli]
        refine ⟨hown3.si, hown3.cap, fun e => ?_⟩
        rw [e] at hown3
        exact hown3.nilcapL
      case neg =>
        obtain rfl : nR2 = 0 := by omega
        have HREV := Lib.hid (reverseRows_none AR2 cR2 wr)
        have HE0 : Hid (echel p (dscR E t t) = []) := Lib.hid (List.eq_nil_of_length_eq_zero hD.lenR)
        clear hD l1 l2 l3
        go_wp2_with (first
          | (go_at_call 189
             with_reducible refine HREV.out.mono ?_
             rintro e w3 ⟨rfl, rfl⟩)
          | fail)
        go_ret
        have l1 := HSZ.out
        have l2 := HGE.out
        have l3 := HG.out
        exact ⟨AR2, 0, cR2, rfl, by rw [HE0.out]; exact LS.nil _ _, HB.out.trans (HBR.out.mono (by omega))⟩
end Go.Proofs.Ytfaegfhbbkicgaa

/-
  Pieces of the reduction on the document's side: a number of a matrix, a copy, the inverse; matrices written row by row as functions. Conditions: sizes at most 14.
-/


namespace Go.Proofs.Ytfaegfhbbkicgaa
open Go.RowKit

theorem frozenM {w : World} {g : Nat} {t : TypeId} {cs : Array Value} (h : Blk w g t cs) : w.frozen? ⟨g, 0, none⟩ = false ∧ w.frozen? ⟨g, 1, none⟩ = false ∧ w.frozen? ⟨g, 2, none⟩ = false ∧ w.frozen? ⟨g, 3, none⟩ = false := ⟨h.frozen 0, h.frozen 1, h.frozen 2, h.frozen 3⟩
theorem grown_putM (w : World) (g : Nat) (a b c d : Value) : w.grownBy ((((w.setCell ⟨g, 0, none⟩ a).setCell ⟨g, 1, none⟩ b).setCell ⟨g, 2, none⟩ c).setCell ⟨g, 3, none⟩ d) (some g) :=
  (((grown_setP w ⟨g, 0, none⟩ a).trans (grown_setP _ ⟨g, 1, none⟩ b)).trans (grown_setP _ ⟨g, 2, none⟩ c)).trans (grown_setP _ ⟨g, 3, none⟩ d)
theorem idx_lt {R C i c : Nat} (hi : i < R) (hc : c < C) : i * C + c < R * C := by
  have h : (i + 1) * C ≤ R * C := Nat.mul_le_mul (by omega) (Nat.le_refl _)
  rw [Nat.add_mul, Nat.one_mul] at h
  omega
theorem idx_inj {C i c i' c' : Nat} (hc : c < C) (hc' : c' < C) (h : i * C + c = i' * C + c') : i = i' ∧ c = c' := by
  have h1 : (i * C + c) / C = i := by rw [Nat.mul_comm, Nat.mul_add_div (by omega), Nat.div_eq_of_lt hc, Nat.add_zero]
  have h2 : (i' * C + c') / C = i' := by rw [Nat.mul_comm, Nat.mul_add_div (by omega), Nat.div_eq_of_lt hc', Nat.add_zero]
  have e : i = i' := by rw [← h1, ← h2, h]
  subst e
  exact ⟨rfl, by omega⟩
/-- The list d holds the matrix M. -/
def DM (d : List Int) (R C : Nat) (M : Nat → Nat → Int) : Prop := d.length = R * C ∧ ∀ i c, i < R → c < C → nth d (i * C + c) = M i c
def updM (M : Nat → Nat → Int) (i c : Nat) (v : Int) : Nat → Nat → Int := fun i' c' => if i' = i ∧ c' = c then v else M i' c'
theorem DM.set {d : List Int} {R C : Nat} {M : Nat → Nat → Int} (h : DM d R C M) {i c : Nat} (hi : i < R) (hc : c < C) (v : Int) : DM (d.set (i * C + c) v) R C (updM M i c v) := by
  refine ⟨by rw [List.length_set]; exact h.1, fun i' c' hi' hc' => ?_⟩
  rw [nth_set_at (by rw [h.1]; exact idx_lt hi hc)]
  unfold updM
  by_cases e : i' * C + c' = i * C + c
  · obtain ⟨e1, e2⟩ := idx_inj hc' hc e
    rw [if_pos e, if_pos ⟨e1, e2⟩]
  · rw [if_neg e, if_neg (fun hh => e (by rw [hh.1, hh.2]))]
    exact h.2 i' c' hi' hc'
theorem DM.congr {d : List Int} {R C : Nat} {M N : Nat → Nat → Int} (h : DM d R C M) (e : ∀ i c, i < R → c < C → M i c = N i c) : DM d R C N :=
  ⟨h.1, fun i c hi hc => by rw [h.2 i c hi hc]; exact e i c hi hc⟩
set_option maxHeartbeats 1000000 in
theorem l7At_any (p r : Int) (A : Option Addr) (n k C i j : Nat) (d : List Int) (v : Int) (w : World) (hs : SI w A n d) (hC : C ≤ 14) (hi : i ≤ 14) (hj : j ≤ 14) (h : i * C + j < n) (hv : nth d (i * C + j) = v) :
    Calls Try.prog 186 #[.agg #[.int .i64 p, .int .i64 r, .int .i64 C, .slice A n k], .int .i64 i, .int .i64 j] w fun e w' => e = .returned (.int .i64 v) ∧ Below w.heap.size w w' := by
  obtain ⟨w1, hw1⟩ : ∃ w1, w1 = w.alloc (.cells #[.int .i64 p, .int .i64 r, .int .i64 C, .slice A n k] 27) := ⟨_, rfl⟩
  obtain ⟨g, hg⟩ : ∃ g, g = w.heap.size := ⟨_, rfl⟩
  have hk : Blk w1 g 27 #[.int .i64 p, .int .i64 r, .int .i64 C, .slice A n k] := by rw [hw1, hg]; exact Blk.new _ _ _
  have hb : Below w.heap.size w w1 := by rw [hw1]; exact Below.alloc_self _ _
  have HB := Lib.hid hb
  have HW := Lib.hid hw1
  have HG := Lib.hid hg
  obtain ⟨q0, q1, q2, q3⟩ := cells4 hk
  obtain ⟨b, o, rfl, _, hc⟩ := (hs.below hb (Nat.le_refl _)).2 (by omega)
  obtain ⟨N, hN⟩ : ∃ N, N = i * C := ⟨_, rfl⟩
  have hN1 : N ≤ 196 := by have := nat_mul_small hi hC; omega
  have hwr := wrap_mul_nat hN (by omega)
  have hwr2 : IntKind.i64.wrap ((N : Int) + (j : Int)) = ((N + j : Nat) : Int) := by rw [Int.natCast_add]; exact IntWalk.i64_in _ (by omega)
  have hcell : w1.cell? ⟨b, o + (N + j), none⟩ = some (.int .i64 v) := by rw [hN, ← hv]; exact hc _ h
  obtain ⟨m, hm⟩ : ∃ m, m = N + j := ⟨_, rfl⟩
  rw [← hm] at hwr2 hcell
  have hmn : m < n := by rw [hm, hN]; exact h
  have hmI : (m : Int) < (n : Int) := by omega
  clear hw1 hg hk hb hs hc hN hm hv h
  go_enter Try.func186, Try.ntmps186
  go_upto_region 1 with fail
  rw [← HW.out, ← HG.out]
  go_wp2
  go_ret
  exact ⟨rfl, HB.out⟩
set_option maxHeartbeats 1000000 in
theorem l7Inverse_any (p x : Int) (w : World) (hp : P7 p) (hx : 0 < x ∧ x < p) :
    Calls Try.prog 187 #[.int .i64 x, .int .i64 p] w fun e w' => e = .returned (.int .i64 (inv7 p x)) ∧ Drawn w w' := by
  have hinv := inv7_ok hp hx
  have hp2 := hp.two
  have hp7 := hp.le
  obtain ⟨F, hF⟩ : ∃ F : Nat, (F : Int) = inv7 p x := ⟨(inv7 p x).toNat, by omega⟩
  rw [← hF] at hinv ⊢
  have HUQ : Hid (∀ f : Nat, 0 < f → f < F → x * (f : Int) % p ≠ 1) := Lib.hid (fun f h1 h2 h3 => by
    have := inv7_is hp hx (y := (f : Int)) ⟨by omega, by omega⟩ h3
    omega)
  have HINV := Lib.hid hinv
  have HX := Lib.hid hx
  have hpnz : p ≠ 0 := by omega
  clear hinv hx hF hp
  go_enter Try.func187, Try.ntmps187
  go_wp2
  go_loopw [5] (fun fv wr => ∃ f : Nat, 0 < f ∧ f ≤ F ∧ fv = .int .i64 f ∧ Drawn w wr)
    (fun fv _ => F - (intOf fv).toNat)
  case atStart => exact ⟨1, by omega, by have := HINV.out.1; omega, rfl, Drawn.refl _⟩
  case round =>
    obtain ⟨f, hf0, hf1, rfl, hdx⟩ := hrel
    have HDX := Lib.hid hdx
    have hvf0 : 0 ≤ x * (f : Int) := Int.mul_nonneg (by have := HX.out; omega) (by omega)
    have hvf1 : x * (f : Int) ≤ 7 * 7 := Int.mul_le_mul (by have := HX.out; omega) (by have := HINV.out; omega) (by omega) (by decide)
    obtain ⟨S, hS⟩ : ∃ S, S = x * (f : Int) := ⟨_, rfl⟩
    have hw1 : IntKind.i64.wrap (x * (f : Int)) = S := by rw [← hS]; exact IntWalk.i64_in _ (by omega)
    obtain ⟨R, hR⟩ : ∃ R, R = S % p := ⟨_, rfl⟩
    have hw2 : S.tmod p = R := by rw [hR]; exact Int.tmod_eq_emod_of_nonneg (by omega)
    have hRb : 0 ≤ R ∧ R < p := by rw [hR]; exact ⟨Int.emod_nonneg _ hpnz, Int.emod_lt_of_pos _ (by omega)⟩
    have hw3 : IntKind.i64.wrap R = R := IntWalk.i64_in _ (by omega)
    have hfp : (f : Int) < p := by have := HINV.out; omega
    have hf7 : f ≤ 7 := by omega
    clear hdx hvf0 hvf1
    by_cases hfF : f = F
    case neg =>
      have hb : (R == 1) = false := by
        have := HUQ.out f hf0 (by omega)
        rw [hR, hS]; simpa using this
      clear hS hR hRb
      go_wp2
      go_roundw
      case rel => exact ⟨f + 1, by omega, by omega, by go_num, HDX.out⟩
      case measure => simp [intOf]; omega
    case pos =>
      subst hfF
      have hb : (R == 1) = true := by
        have := HINV.out.2.2
        rw [hR, hS, this]; rfl
      clear hS hR hRb
      go_wp2
      go_ret
      exact ⟨rfl, HDX.out⟩
set_option maxRecDepth 100000 in
set_option maxHeartbeats 2000000 in
theorem l7Copy_any (p r c : Int) (A : Option Addr) (n k : Nat) (xs : List Int) (w : World) (hs : SI w A n xs) (hn : n ≤ 1099511627776) :
    Calls Try.prog 185 #[.agg #[.int .i64 p, .int .i64 r, .int .i64 c, .slice A n k]] w fun e w' => FreshMx w w' e p r c xs := by
  obtain ⟨w1, hw1⟩ : ∃ w1, w1 = (w.alloc (.cells #[.int .i64 p, .int .i64 r, .int .i64 c, .slice A n k] 27)).alloc (.cells #[.int .i64 0, .int .i64 0, .int .i64 0, .slice none 0 0] 27) := ⟨_, rfl⟩
  obtain ⟨g, hg⟩ : ∃ g, g = w.heap.size := ⟨_, rfl⟩
  have hk : Blk w1 g 27 #[.int .i64 p, .int .i64 r, .int .i64 c, .slice A n k] := by rw [hw1, hg]; exact (Blk.new _ _ _).alloc _
  have hk2 : Blk w1 (g + 1) 27 #[.int .i64 0, .int .i64 0, .int .i64 0, .slice none 0 0] := by
    rw [hw1, hg]
    have := Blk.new (w.alloc (.cells #[.int .i64 p, .int .i64 r, .int .i64 c, .slice A n k] 27)) 27 #[.int .i64 0, .int .i64 0, .int .i64 0, .slice none 0 0]
    simpa using this
  have hb : Below w.heap.size w w1 := by rw [hw1]; go_grown
  have HS := Lib.hid (hs.below hb (Nat.le_refl _))
  have HB1 := Lib.hid hb
  have HW := Lib.hid hw1
  have HG := Lib.hid hg
  have HK := Lib.hid hk
  have HK2 := Lib.hid hk2
  have HSZ : Hid (w1.heap.size = g + 1 + 1) := Lib.hid (by rw [hw1, hg]; simp)
  have hqd : w1.drew.cell? ⟨g, 0, none⟩ = some (.int .i64 p) ∧ w1.drew.cell? ⟨g, 1, none⟩ = some (.int .i64 r) ∧ w1.drew.cell? ⟨g, 2, none⟩ = some (.int .i64 c) ∧ w1.drew.cell? ⟨g, 3, none⟩ = some (.slice A n k) := cells4 hk
  have HQD := Lib.hid hqd
  have HQ := Lib.hid (cells4 hk)
  have HC1 := Lib.hid (fun w' (hb' : Below w1.heap.size w1 w') => l1Ints_any A n k xs w' (HS.out.below hb' (Nat.le_refl _)) hn)
  clear hw1 hg hk hk2 hb hs hqd
  go_enter Try.func185, Try.ntmps185
  go_upto_region 1 with fail
  rw [← HW.out, ← HG.out]
  go_region_held3 (fun w' => w'.cell? ⟨g, 0, none⟩ = some (.int .i64 p) ∧ w'.cell? ⟨g, 1, none⟩ = some (.int .i64 r) ∧ w'.cell? ⟨g, 2, none⟩ = some (.int .i64 c) ∧ w'.cell? ⟨g, 3, none⟩ = some (.slice A n k))
    (first | exact HQD.out | exact HQ.out | exact K4 | exact KZ)
    (first
      | (go_at_call 170
         with_reducible refine (HC1.out _ ((Below.refl _ _).drew)).mono ?_
         rintro e w4 ⟨B1, m1, d1, rfl, ho4, hb4⟩
         have HB4 : Hid (Below w1.heap.size w1 w4) := Lib.hid (((Below.refl _ _).drew).trans hb4)
         have HK4 := Lib.hid (HK.out.below HB4.out HK.out.lt)
         have K4 := cells4 HK4.out
         have HR4 := Lib.hid (HK2.out.below HB4.out HK2.out.lt)
         obtain ⟨rr0, rr1, rr2, rr3⟩ := cells4 HR4.out
         obtain ⟨ff0, ff1, ff2, ff3⟩ := frozenM HR4.out
         have KZ := cells4 ((((HK4.out.far (p := ⟨g + 1, 0, none⟩) (by show g ≠ g + 1; omega) (.int .i64 p)).far (p := ⟨g + 1, 1, none⟩) (by show g ≠ g + 1; omega) (.int .i64 r)).far (p := ⟨g + 1, 2, none⟩) (by show g ≠ g + 1; omega) (.int .i64 c)).far (p := ⟨g + 1, 3, none⟩) (by show g ≠ g + 1; omega) (.slice B1 m1 d1))
         have HO4 : Hid (Own w4 w1.heap.size w4.heap.size B1 m1 d1 xs) := Lib.hid ho4
         have HRP : Hid (Blk ((((w4.setCell ⟨g + 1, 0, none⟩ (.int .i64 p)).setCell ⟨g + 1, 1, none⟩ (.int .i64 r)).setCell ⟨g + 1, 2, none⟩ (.int .i64 c)).setCell ⟨g + 1, 3, none⟩ (.slice B1 m1 d1)) (g + 1) 27 #[.int .i64 p, .int .i64 r, .int .i64 c, .slice B1 m1 d1]) := Lib.hid ((((HR4.out.set_ 0 _).set_ 1 _).set_ 2 _).set_ 3 _)
         have HGP := Lib.hid (grown_putM w4 (g + 1) (.int .i64 p) (.int .i64 r) (.int .i64 c) (.slice B1 m1 d1))
         clear ho4 hb4))
  go_wp2
  refine bodyPost_ret (results_rowP Try.results185 _ _ _ 27 #[.int .i64 p, .int .i64 r, .int .i64 c, .slice B1 m1 d1] _ rfl HRP.out Try.underlying27 rfl Try.infoMx) rfl ?_
  have l1 := HSZ.out
  have l2 := HG.out
  have l3 := HGP.out.size
  have l4 := HB4.out.size
  have l5 := HB1.out.size
  refine ⟨B1, m1, d1, rfl, ?_, ?_⟩
  · exact (HO4.out.grown HGP.out (fun q hq => by injection hq with hq; omega)).wide (by omega) l3
  · exact (HB1.out.trans (HB4.out.mono l5)).grown HGP.out (by omega) (by rintro q ⟨⟩; omega)
end Go.Proofs.Ytfaegfhbbkicgaa

/-
  The reduction on the document's side, in memory. Conditions: the modulus is 2, 3, 5 or 7; sizes at most 14.
-/


namespace Go.Proofs.Ytfaegfhbbkicgaa
open Go.RowKit

/-- Where a reduction stands, in memory. -/
structure RS (w0 wr : World) (g s1 s2 : Nat) (p : Int) (R C : Nat) (A A4 : Option Addr) (n k kd : Nat) (d : List Int) (Ap : Option Addr) (np cp : Nat) (ps : List Int) : Prop where
  b1 : Blk wr g 27 #[.int .i64 p, .int .i64 R, .int .i64 C, .slice A n k]
  b2 : Blk wr (g + 1) 27 #[.int .i64 0, .int .i64 0, .int .i64 0, .slice none 0 0]
  b4 : Blk wr s2 27 #[.int .i64 p, .int .i64 R, .int .i64 C, .slice A4 n kd]
  od : Own wr s1 s2 A4 n kd d
  op : Own wr (s2 + 1) wr.heap.size Ap np cp ps
  ord : g + 1 < s1 ∧ s1 ≤ s2 ∧ s2 < wr.heap.size
  be : Below g w0 wr
section
variable {w0 wr w' : World} {g s1 s2 : Nat} {p : Int} {R C : Nat} {A A4 : Option Addr} {n k kd : Nat} {d : List Int} {Ap : Option Addr} {np cp : Nat} {ps : List Int}
theorem RS.below (h : RS w0 wr g s1 s2 p R C A A4 n k kd d Ap np cp ps) (hb : Below wr.heap.size wr w') : RS w0 w' g s1 s2 p R C A A4 n k kd d Ap np cp ps := by
  obtain ⟨b1, b2, b4, od, op, ord, be⟩ := h
  have hz := hb.size
  exact ⟨b1.below hb b1.lt, b2.below hb b2.lt, b4.below hb b4.lt, od.below hb (by omega), (op.below hb (Nat.le_refl _)).wide (Nat.le_refl _) hz, by omega, be.trans (hb.mono (by omega))⟩
theorem RS.put {gd : Nat} (h : RS w0 wr g s1 s2 p R C A (some ⟨gd, 0, none⟩) n k kd d Ap np cp ps) (q : Nat) (v : Int) : RS w0 (wr.setCell ⟨gd, q, none⟩ (.int .i64 v)) g s1 s2 p R C A (some ⟨gd, 0, none⟩) n k kd (d.set q v) Ap np cp ps := by
  obtain ⟨b1, b2, b4, od, op, ord, be⟩ := h
  have hl := od.lt gd rfl
  obtain ⟨h1, hg⟩ := od.set_ (k := q) v
  have hz := hg.size
  exact ⟨b1.grown hg (fun e => by injection e with e; omega), b2.grown hg (fun e => by injection e with e; omega), b4.grown hg (fun e => by injection e with e; omega), h1, (op.grown hg (fun z hz => by injection hz with hz; omega)).wide (Nat.le_refl _) hz, by omega, be.grown hg (by omega) (by rintro z ⟨⟩; omega)⟩
theorem RS.s7 (h : RS w0 wr g s1 s2 p R C A A4 n k kd d Ap np cp ps) : wr.cell? ⟨g, 0, none⟩ = some (.int .i64 p) ∧ wr.cell? ⟨g, 1, none⟩ = some (.int .i64 R) ∧ wr.cell? ⟨g, 2, none⟩ = some (.int .i64 C) ∧ wr.cell? ⟨s2, 0, none⟩ = some (.int .i64 p) ∧ wr.cell? ⟨s2, 1, none⟩ = some (.int .i64 R) ∧ wr.cell? ⟨s2, 2, none⟩ = some (.int .i64 C) ∧ wr.cell? ⟨s2, 3, none⟩ = some (.slice A4 n kd) :=
  ⟨h.b1.cell 0, h.b1.cell 1, h.b1.cell 2, h.b4.cell 0, h.b4.cell 1, h.b4.cell 2, h.b4.cell 3⟩
/-- A number of the matrix, read in a world that came of this one. -/
theorem RS.at_ (h : RS w0 wr g s1 s2 p R C A A4 n k kd d Ap np cp ps) {M : Nat → Nat → Int} (hd : DM d R C M) (hR : R ≤ 14) (hC : C ≤ 14) {i c : Nat} (hi : i < R) (hc : c < C) (v : Int) (hv : M i c = v) (w' : World) (hb : Below wr.heap.size wr w') :
    Calls Try.prog 186 #[.agg #[.int .i64 p, .int .i64 R, .int .i64 C, .slice A4 n kd], .int .i64 i, .int .i64 c] w' fun e w2 => e = .returned (.int .i64 v) ∧ Below w'.heap.size w' w2 :=
  l7At_any p R A4 n kd C i c d v w' ((h.od.below hb (by have := h.ord; omega)).si) hC (by omega) (by omega) (by have := h.od.len; have h1 := hd.1; have h2 := idx_lt hi hc; omega) (by rw [hd.2 i c hi hc]; exact hv)
theorem RS.app (h : RS w0 wr g s1 s2 p R C A A4 n k kd d Ap np cp ps) {row : Option Nat} (hg : wr.grownBy w' row) (hr : row = (Value.slice Ap np cp).ownBlock) {A' : Option Addr} {c' : Nat} {qs : List Int} {m : Nat} (ho : Own w' (s2 + 1) w'.heap.size A' m c' qs) :
    RS w0 w' g s1 s2 p R C A A4 n k kd d A' m c' qs := by
  obtain ⟨b1, b2, b4, od, op, ord, be⟩ := h
  have hz := hg.size
  have hlt : ∀ q, row = some q → s2 + 1 ≤ q := fun q hq => (op.lt q (by rw [← hr]; exact hq)).1
  exact ⟨b1.grown hg (fun e => by have := hlt g e.symm; omega), b2.grown hg (fun e => by have := hlt _ e.symm; omega), b4.grown hg (fun e => by have := hlt _ e.symm; omega), od.grown hg (fun q hq => by have := hlt q hq; omega), ho, by omega, be.grown hg (by omega) (fun q hq => by have := hlt q hq; omega)⟩
theorem RS.mcell {gd : Nat} (h : RS w0 wr g s1 s2 p R C A (some ⟨gd, 0, none⟩) n k kd d Ap np cp ps) {q : Nat} (hq : q < n) : wr.cell? ⟨gd, q, none⟩ = some (.int .i64 (nth d q)) ∧ wr.frozen? ⟨gd, q, none⟩ = false := ⟨h.od.cellAt hq, h.od.frozenAt q⟩
end
theorem idx_wraps {i C q : Nat} (hi : i ≤ 14) (hC : C ≤ 14) (hq : q ≤ 14) : ∃ N m : Nat, IntKind.i64.wrap ((i : Int) * (C : Int)) = (N : Int) ∧ IntKind.i64.wrap ((N : Int) + (q : Int)) = (m : Int) ∧ m = i * C + q := by
  have h := nat_mul_small hi hC
  exact ⟨i * C, i * C + q, wrap_mul_nat rfl (by omega), by rw [Int.natCast_add]; exact IntWalk.i64_in _ (by omega), rfl⟩
/-- What a reduction leaves. -/
def RedRes (p : Int) (R C : Nat) (M0 : Nat → Nat → Int) (w w' : World) (A' : Option Addr) (n k' : Nat) (Ap : Option Addr) (np cp : Nat) : Prop :=
  ∃ d M ps j, Own w' w.heap.size w'.heap.size A' n k' d ∧ Own w' w.heap.size w'.heap.size Ap np cp ps ∧ DM d R C M ∧ RedI p C R M0 M ps j ∧ j ≤ C ∧ (j = C ∨ ps.length = R) ∧ Below w.heap.size w w'
theorem results_mx_tmp {P : Program} {fn : Func} {p q : Tmp} {ty : TypeId} (h : fn.results = #[.cell p ty, .tmp q]) (tmps : Array Value) (w : World) (g : Nat) (t : TypeId) (cs : Array Value) (d : TypeDesc)
    (hp : tmps.getD p undef = .pointer (some ⟨g, 0, none⟩)) (hg : Blk w g t cs) (hu : P.underlying ty = some d) (hd : (match d with | .struct _ | .array _ _ => true | _ => false) = true) (hi : (P.info? ty).map (·.size) = some cs.size) :
    (results fn tmps).run P w = .ok (.tuple #[.agg cs, tmps.getD q undef]) w := by
  have hp' : tmps[p]?.getD undef = .pointer (some ⟨g, 0, none⟩) := by simpa using hp
  simp [results, h, hp', asAddr, run_loadVar_row w g t ty cs (0, 0) d hg hu hd hi]
/-- Exchanged as far as a column; scaled as far as a column; cleared as far as a row and a column. -/
def swK (M : Nat → Nat → Int) (a b k : Nat) : Nat → Nat → Int := fun i c => if c < k then swM M a b i c else M i c
def scK (p : Int) (M : Nat → Nat → Int) (r : Nat) (f : Int) (k : Nat) : Nat → Nat → Int := fun i c => if c < k then scM p M r f i c else M i c
def clK (p : Int) (M : Nat → Nat → Int) (r j i0 k : Nat) : Nat → Nat → Int := fun i c => if i < i0 ∨ i = i0 ∧ c < k then clM p M r j i c else M i c
theorem swK_step {M : Nat → Nat → Int} {a b k : Nat} (i c : Nat) : updM (updM (swK M a b k) a k (M b k)) b k (M a k) i c = swK M a b (k + 1) i c := by
  unfold updM swK swM
  by_cases hc : c = k
  · subst hc
    by_cases h1 : i = b
    · subst h1
      by_cases h2 : i = a
      · subst h2; simp
      · simp [h2]
    · by_cases h2 : i = a
      · subst h2; simp [h1]
      · simp [h1, h2]
  · have e1 : (c < k + 1) ↔ c < k := by omega
    simp [hc, e1]
theorem scK_step {p : Int} {M : Nat → Nat → Int} {r k : Nat} {f : Int} (i c : Nat) : updM (scK p M r f k) r k (M r k * f % p) i c = scK p M r f (k + 1) i c := by
  unfold updM scK scM
  by_cases hc : c = k
  · subst hc
    by_cases h1 : i = r
    · simp [h1]
    · simp [h1]
  · have e1 : (c < k + 1) ↔ c < k := by omega
    simp [hc, e1]
theorem clK_step {p : Int} {M : Nat → Nat → Int} {r j i0 k : Nat} (h : i0 ≠ r) (i c : Nat) : updM (clK p M r j i0 k) i0 k ((M i0 k + (p - M i0 j) * M r k) % p) i c = clK p M r j i0 (k + 1) i c := by
  unfold updM clK
  by_cases hc : i = i0 ∧ c = k
  · obtain ⟨rfl, rfl⟩ := hc
    rw [if_pos ⟨rfl, rfl⟩, if_pos (Or.inr ⟨rfl, by omega⟩)]
    simp [clM, h]
  · rw [if_neg hc]
    by_cases h1 : i < i0 ∨ i = i0 ∧ c < k
    · rw [if_pos h1, if_pos (by omega)]
    · rw [if_neg h1, if_neg (by omega)]
theorem clK_row {p : Int} {M : Nat → Nat → Int} {r j i0 C : Nat} (i c : Nat) (hc : c < C) : clK p M r j i0 C i c = clK p M r j (i0 + 1) 0 i c := by
  unfold clK
  by_cases h1 : i < i0 ∨ i = i0 ∧ c < C
  · rw [if_pos h1, if_pos (by omega)]
  · rw [if_neg h1, if_neg (by omega)]
theorem clK_skip {p : Int} {M : Nat → Nat → Int} {r j : Nat} (i c : Nat) : clK p M r j r 0 i c = clK p M r j (r + 1) 0 i c := by
  unfold clK
  by_cases h1 : i < r
  · rw [if_pos (by omega), if_pos (by omega)]
  · by_cases h2 : i = r
    · subst h2
      rw [if_neg (by omega), if_pos (by omega)]
      simp [clM]
    · rw [if_neg (by omega), if_neg (by omega)]
set_option maxRecDepth 100000 in
set_option maxHeartbeats 16000000 in
theorem l7Reduce_any (p : Int) (R C : Nat) (A : Option Addr) (n k : Nat) (xs : List Int) (M0 : Nat → Nat → Int) (w : World) (hp : P7 p) (hs : SI w A n xs) (hR : R ≤ 14) (hC : C ≤ 14) (hx : Rg p xs) (hd0 : DM xs R C M0) :
    Calls Try.prog 136 #[.agg #[.int .i64 p, .int .i64 R, .int .i64 C, .slice A n k]] w fun e w' => ∃ A' k' Ap np cp, e = .returned (.tuple #[.agg #[.int .i64 p, .int .i64 R, .int .i64 C, .slice A' n k'], .slice Ap np cp]) ∧ RedRes p R C M0 w w' A' n k' Ap np cp := by
  obtain ⟨w1, hw1⟩ : ∃ w1, w1 = (w.alloc (.cells #[.int .i64 p, .int .i64 R, .int .i64 C, .slice A n k] 27)).alloc (.cells #[.int .i64 0, .int .i64 0, .int .i64 0, .slice none 0 0] 27) := ⟨_, rfl⟩
  obtain ⟨g, hg⟩ : ∃ g, g = w.heap.size := ⟨_, rfl⟩
  have hk : Blk w1 g 27 #[.int .i64 p, .int .i64 R, .int .i64 C, .slice A n k] := by rw [hw1, hg]; exact (Blk.new _ _ _).alloc _
  have hk2 : Blk w1 (g + 1) 27 #[.int .i64 0, .int .i64 0, .int .i64 0, .slice none 0 0] := by
    rw [hw1, hg]
    have := Blk.new (w.alloc (.cells #[.int .i64 p, .int .i64 R, .int .i64 C, .slice A n k] 27)) 27 #[.int .i64 0, .int .i64 0, .int .i64 0, .slice none 0 0]
    simpa using this
  have hb : Below w.heap.size w w1 := by rw [hw1]; go_grown
  have hn196 : n ≤ 196 := by have h1 := hs.1; have h2 := hd0.1; have h3 := nat_mul_small hR hC; omega
  have HCP := Lib.hid (l7Copy_any p (R : Int) (C : Int) A n k xs w1 (hs.below hb (Nat.le_refl _)) (by omega))
  have HNL : Hid (n = R * C) := Lib.hid (by have h1 := hs.1; have h2 := hd0.1; omega)
  have HB1 := Lib.hid hb
  have HW := Lib.hid hw1
  have HG := Lib.hid hg
  have HK := Lib.hid hk
  have HK2 := Lib.hid hk2
  have HSZ : Hid (w1.heap.size = g + 1 + 1) := Lib.hid (by rw [hw1, hg]; simp)
  have HP := Lib.hid hp
  have HD0 := Lib.hid hd0
  have hp2 := hp.two
  have hp7 := hp.le
  have hpnz : p ≠ 0 := by omega
  have HRG : Hid (∀ i c, i < R → c < C → 0 ≤ M0 i c ∧ M0 i c < p) := Lib.hid (fun i c hi hc => by rw [← hd0.2 i c hi hc]; exact hx _)
  clear hw1 hg hk hk2 hb hs hp hx hd0
  go_enter Try.func136, Try.ntmps136
  go_upto_region 1 with fail
  rw [← HW.out, ← HG.out]
  go_upto_region 2 with (first
    | (refine wpList_load_rowP rfl 27 (.tmp 1) rfl g rfl 27 #[.int .i64 p, .int .i64 R, .int .i64 C, .slice A n k] _ HK.out Try.underlying27 rfl Try.infoMx ?_)
    | (go_at_call 185
       with_reducible refine HCP.out.mono ?_
       rintro e w2 ⟨A4, n4, kd, rfl, ho2, hb2⟩
       obtain rfl : n4 = n := by have := ho2.len; have := HD0.out.1; have := HNL.out; omega
       have HO2 := Lib.hid ho2
       have HB2 := Lib.hid hb2
       clear ho2 hb2)
    | (refine wpList_store_rowP rfl 27 (.tmp 4) (.tmp 17) rfl w2.heap.size #[.int .i64 p, .int .i64 R, .int .i64 C, .slice A4 n4 kd] rfl rfl 27 #[.int .i64 0, .int .i64 0, .int .i64 0, .slice none 0 0] (Blk.new _ _ _) Try.infoMx rfl (by simp [Value.oneCell']) ?_
       intro w3 hb3 hg3
       have HK3 := Lib.hid hb3
       have HG3 := Lib.hid hg3
       clear hb3 hg3)
    | fail)
  obtain ⟨s1, hs1⟩ : ∃ s1, s1 = w1.heap.size := ⟨_, rfl⟩
  obtain ⟨s2, hs2⟩ : ∃ s2, s2 = w2.heap.size := ⟨_, rfl⟩
  rw [← hs1] at HB2
  rw [← hs1, ← hs2] at HO2
  rw [← hs2] at HK3 HG3 ⊢
  obtain ⟨n, rfl⟩ : ∃ m, m = n4 := ⟨_, rfl⟩
  have HRS : Hid (RS w w3 g s1 s2 p R C A A4 n k kd xs none 0 0 []) := Lib.hid (by
    have h0 := HSZ.out
    have h1 := HB2.out.size
    have hba : Below s2 w2 (w2.alloc (.cells #[.int .i64 0, .int .i64 0, .int .i64 0, .slice none 0 0] 27)) := (Below.refl s2 w2).alloc (Nat.le_of_eq hs2) _
    have hb3 : Below s2 w2 w3 := hba.grown HG3.out (by simp; omega) (by rintro q ⟨⟩; exact Nat.le_refl _)
    have h3 : s2 < w3.heap.size := HK3.out.lt
    exact ⟨(HK.out.below HB2.out (by rw [hs1]; exact HK.out.lt)).below hb3 (by omega), (HK2.out.below HB2.out (by rw [hs1]; exact HK2.out.lt)).below hb3 (by omega), HK3.out, HO2.out.below hb3 (Nat.le_refl _), Own.nil _ _ _, by omega, by
      have := HB1.out
      rw [← HG.out] at this
      exact (this.trans (HB2.out.mono (by omega))).trans (hb3.mono (by omega))⟩)
  clear hs1 hs2 HK HK2 HK3 HG3 HO2 HB2
  have hne3 : Below w3.heap.size w3 (w3.alloc (.cells #[] 3)) := Below.alloc_self _ _
  have HRS4 : Hid (RS w (w3.alloc (.cells #[] 3)) g s1 s2 p R C A A4 n k kd xs (some ⟨w3.heap.size, 0, none⟩) 0 0 []) := Lib.hid (by
    have h5 := HRS.out.below hne3
    exact ⟨h5.b1, h5.b2, h5.b4, h5.od, (Own.empty w3).wide (by have := HRS.out.ord; omega) (by simp), h5.ord, h5.be⟩)
  clear hne3
  go_wp2_with fail
  go_loopw [5, 6] (fun pv jv wr => ∃ (j : Nat) (d : List Int) (M : Nat → Nat → Int) (Ap : Option Addr) (np cp : Nat) (ps : List Int), j ≤ C ∧ jv = .int .i64 j ∧ pv = .slice Ap np cp ∧ RS w wr g s1 s2 p R C A A4 n k kd d Ap np cp ps ∧ DM d R C M ∧ RedI p C R M0 M ps j)
    (fun _ jv _ => C - (intOf jv).toNat)
  case atStart => exact ⟨0, xs, M0, _, 0, 0, [], Nat.zero_le _, rfl, rfl, HRS4.out, HD0.out, RedI.start HRG.out⟩
  case round =>
    obtain ⟨j, d, M, Ap, np, cp, ps, hj, rfl, rfl, hrs, hdm, hri⟩ := hrel
    clear HRS4 HRS
    have HRS := Lib.hid hrs
    have HDM := Lib.hid hdm
    have HRI := Lib.hid hri
    have HNP := Lib.hid hrs.op.len
    have hnpR : np ≤ R := by have := hri.le; have := HNP.out; omega
    have hjI : (j : Int) ≤ (C : Int) := by omega
    clear hrs hdm hri
    by_cases hlt : j < C ∧ np < R
    case neg =>
      have HFIN : Hid (j = C ∨ ps.length = R) := Lib.hid (by have := HNP.out; omega)
      obtain ⟨q0, q1, q2, q3, q4, q5, q6⟩ := HRS.out.s7
      have tailArm : True := trivial
      by_cases hjC : j < C
      case pos =>
        have hjCI : (j : Int) < (C : Int) := by omega
        have hnpI : ¬ (np : Int) < (R : Int) := by omega
        go_wp2_with (first
          | (refine wpList_load_rowP rfl 27 (.tmp 4) rfl s2 rfl 27 #[.int .i64 p, .int .i64 R, .int .i64 C, .slice A4 n kd] _ HRS.out.b4 Try.underlying27 rfl Try.infoMx ?_)
          | (refine wpList_store_rowP rfl 27 (.tmp 2) (.tmp 168) rfl (g + 1) #[.int .i64 p, .int .i64 R, .int .i64 C, .slice A4 n kd] rfl rfl 27 #[.int .i64 0, .int .i64 0, .int .i64 0, .slice none 0 0] HRS.out.b2 Try.infoMx rfl (by simp [Value.oneCell']) ?_; intro w5 hb5 hg5)
          | fail)
        refine bodyPost_ret (results_mx_tmp Try.results136 _ _ _ 27 #[.int .i64 p, .int .i64 R, .int .i64 C, .slice A4 n kd] _ rfl hb5 Try.underlying27 rfl Try.infoMx) rfl ?_
        have l1 := HRS.out.ord
        have l2 := HG.out
        have l3 := hg5.size
        refine ⟨A4, kd, Ap, np, cp, rfl, d, M, ps, j, ?_, ?_, HDM.out, HRI.out, hj, HFIN.out, ?_⟩
        · exact (HRS.out.od.grown hg5 (fun q hq => by injection hq with hq; omega)).wide (by omega) (by omega)
        · exact (HRS.out.op.grown hg5 (fun q hq => by injection hq with hq; omega)).wide (by omega) (by omega)
        · have := HRS.out.be.grown hg5 (by omega) (by rintro q ⟨⟩; omega)
          rw [l2] at this; exact this
      case neg =>
        have hjCI : ¬ (j : Int) < (C : Int) := by omega
        go_wp2_with (first
          | (refine wpList_load_rowP rfl 27 (.tmp 4) rfl s2 rfl 27 #[.int .i64 p, .int .i64 R, .int .i64 C, .slice A4 n kd] _ HRS.out.b4 Try.underlying27 rfl Try.infoMx ?_)
          | (refine wpList_store_rowP rfl 27 (.tmp 2) (.tmp 168) rfl (g + 1) #[.int .i64 p, .int .i64 R, .int .i64 C, .slice A4 n kd] rfl rfl 27 #[.int .i64 0, .int .i64 0, .int .i64 0, .slice none 0 0] HRS.out.b2 Try.infoMx rfl (by simp [Value.oneCell']) ?_; intro w5 hb5 hg5)
          | fail)
        refine bodyPost_ret (results_mx_tmp Try.results136 _ _ _ 27 #[.int .i64 p, .int .i64 R, .int .i64 C, .slice A4 n kd] _ rfl hb5 Try.underlying27 rfl Try.infoMx) rfl ?_
        have l1 := HRS.out.ord
        have l2 := HG.out
        have l3 := hg5.size
        refine ⟨A4, kd, Ap, np, cp, rfl, d, M, ps, j, ?_, ?_, HDM.out, HRI.out, hj, HFIN.out, ?_⟩
        · exact (HRS.out.od.grown hg5 (fun q hq => by injection hq with hq; omega)).wide (by omega) (by omega)
        · exact (HRS.out.op.grown hg5 (fun q hq => by injection hq with hq; omega)).wide (by omega) (by omega)
        · have := HRS.out.be.grown hg5 (by omega) (by rintro q ⟨⟩; omega)
          rw [l2] at this; exact this
    case pos =>
      obtain ⟨hjC, hnp⟩ := hlt
      have hjCI : (j : Int) < (C : Int) := by omega
      have hnpI : (np : Int) < (R : Int) := by omega
      obtain ⟨q0, q1, q2, q3, q4, q5, q6⟩ := HRS.out.s7
      go_wp2_with fail
      clear q0 q1 q2 q3 q4 q5 q6
      obtain ⟨wo, rfl⟩ : ∃ wo, wo = wr := ⟨wr, rfl⟩
      go_loopw [7] (fun av wr => ∃ a : Nat, np ≤ a ∧ a ≤ R ∧ av = .int .i64 a ∧ RS w wr g s1 s2 p R C A A4 n k kd d Ap np cp ps ∧ ∀ i, np ≤ i → i < a → M i j = 0)
        (fun av _ => R - (intOf av).toNat)
      case atStart => exact ⟨np, Nat.le_refl _, by omega, rfl, HRS.out, fun i h1 h2 => absurd h2 (by omega)⟩
      case round =>
        obtain ⟨a, hna, haR, rfl, hrs, hall⟩ := hrel
        clear HRS
        have HRS := Lib.hid hrs
        have HALL := Lib.hid hall
        obtain ⟨q0, q1, q2, q3, q4, q5, q6⟩ := hrs.s7
        clear hrs hall
        by_cases haE : a < R
        case neg =>
          obtain rfl : a = R := by omega
          have haI : ¬ (a : Int) < (a : Int) := by omega
          go_wp2
          go_roundw
          case rel => exact ⟨j + 1, d, M, Ap, np, cp, ps, by omega, by go_num, rfl, HRS.out, HDM.out, HRI.out.skip (fun i h1 h2 => HALL.out i (by have := HNP.out; omega) h2)⟩
          case measure => simp [intOf]; omega
        case pos =>
          have haI : (a : Int) < (R : Int) := by omega
          obtain ⟨v, hv⟩ : ∃ v, v = M a j := ⟨_, rfl⟩
          have HAT := Lib.hid (HRS.out.at_ HDM.out hR hC haE hjC v hv.symm wr (Below.refl _ _))
          have HV := Lib.hid hv
          clear hv
          by_cases hv0 : v = 0
          case pos =>
            subst hv0
            go_wp2_with (first
              | (go_at_call 186
                 with_reducible refine HAT.out.mono ?_
                 rintro e w4 ⟨rfl, hb4⟩
                 have HRS4 := Lib.hid (HRS.out.below hb4)
                 clear hb4)
              | fail)
            go_roundw
            case rel => exact ⟨a + 1, by omega, by omega, by go_num, HRS4.out, fun i h1 h2 => by
              by_cases e : i = a
              · rw [e]; exact HV.out.symm
              · exact HALL.out i h1 (by omega)⟩
            case measure => simp [intOf]; omega
          case neg =>
            have hvb : (v == 0) = false := by simpa using hv0
            have haRb : ((a : Int) == (R : Int)) = false := by simp; omega
            go_wp2_with (first
              | (go_at_call 186
                 with_reducible refine HAT.out.mono ?_
                 rintro e w4 ⟨rfl, hb4⟩
                 have HRS4 := Lib.hid (HRS.out.below hb4)
                 obtain ⟨t0, t1, t2, t3, t4, t5, t6⟩ := HRS4.out.s7
                 clear hb4)
              | fail)
            clear q0 q1 q2 q3 q4 q5 q6 t0 t1 t2 t3 t4 t5 t6 hvb haRb
            clear HAT
            go_loopw [9] (fun kv wr => ∃ (q : Nat) (d1 : List Int), q ≤ C ∧ kv = .int .i64 q ∧ RS w wr g s1 s2 p R C A A4 n k kd d1 Ap np cp ps ∧ DM d1 R C (swK M a np q))
              (fun kv _ => C - (intOf kv).toNat)
            case atStart => exact ⟨0, d, Nat.zero_le _, rfl, HRS4.out, HDM.out.congr fun i c _ _ => by simp [swK]⟩
            case round =>
              obtain ⟨q, d1, hq, rfl, hrs, hdm⟩ := hrel
              clear HRS4
              by_cases hqC : q < C
              case pos =>
                have hqI : (q : Int) < (C : Int) := by omega
                obtain ⟨gd, rfl, _, _⟩ := hrs.od.place (by rw [HNL.out]; have := idx_lt haE hqC; omega)
                obtain ⟨Na, m1, ha1, ha2, hm1⟩ := idx_wraps (i := a) (C := C) (q := q) (by omega) hC (by omega)
                obtain ⟨Nb, m2, hb1, hb2, hm2⟩ := idx_wraps (i := np) (C := C) (q := q) (by omega) hC (by omega)
                have hm1n : m1 < n := by rw [hm1, HNL.out]; exact idx_lt haE hqC
                have hm2n : m2 < n := by rw [hm2, HNL.out]; exact idx_lt hnp hqC
                have hm1I : (m1 : Int) < (n : Int) := by omega
                have hm2I : (m2 : Int) < (n : Int) := by omega
                obtain ⟨x1, hx1⟩ : ∃ x1, x1 = M a q := ⟨_, rfl⟩
                obtain ⟨y1, hy1⟩ : ∃ y1, y1 = M np q := ⟨_, rfl⟩
                have HAT1 := Lib.hid (hrs.at_ hdm hR hC haE hqC x1 (by rw [hx1]; simp [swK]) wr (Below.refl _ _))
                have HAT2 := Lib.hid (fun w5 (hb5 : Below wr.heap.size wr w5) => (hrs.below hb5).at_ hdm hR hC hnp hqC y1 (by rw [hy1]; simp [swK]) w5.drew ((Below.refl _ _).drew))
                have HFIN : Hid (DM ((d1.set m1 y1).set m2 x1) R C (swK M a np (q + 1))) := Lib.hid (by
                  rw [hm1, hm2]
                  exact ((hdm.set haE hqC y1).set hnp hqC x1).congr fun i c _ _ => by rw [hx1, hy1]; exact swK_step i c)
                have HRS := Lib.hid hrs
                obtain ⟨q0, q1, q2, q3, q4, q5, q6⟩ := hrs.s7
                clear hrs hdm hm1 hm2 hx1 hy1
                go_upto_region 15 with (first
                  | (go_at_call 186
                     with_reducible refine HAT1.out.mono ?_
                     rintro e w5 ⟨rfl, hb5⟩
                     have HRS5 := Lib.hid (HRS.out.below hb5)
                     have HAT3 := Lib.hid (HAT2.out w5 hb5)
                     clear hb5)
                  | fail)
                clear q0 q1 q2 q3 q4 q5 q6 HAT1 HAT2
                have HQ := Lib.hid HRS5.out.s7
                have hqd : w5.drew.cell? ⟨g, 0, none⟩ = some (.int .i64 p) ∧ w5.drew.cell? ⟨g, 1, none⟩ = some (.int .i64 R) ∧ w5.drew.cell? ⟨g, 2, none⟩ = some (.int .i64 C) ∧ w5.drew.cell? ⟨s2, 0, none⟩ = some (.int .i64 p) ∧ w5.drew.cell? ⟨s2, 1, none⟩ = some (.int .i64 R) ∧ w5.drew.cell? ⟨s2, 2, none⟩ = some (.int .i64 C) ∧ w5.drew.cell? ⟨s2, 3, none⟩ = some (.slice (some ⟨gd, 0, none⟩) n kd) := HRS5.out.s7
                have HQD := Lib.hid hqd
                clear hqd
                go_region_held3 (fun w' => w'.cell? ⟨g, 0, none⟩ = some (.int .i64 p) ∧ w'.cell? ⟨g, 1, none⟩ = some (.int .i64 R) ∧ w'.cell? ⟨g, 2, none⟩ = some (.int .i64 C) ∧ w'.cell? ⟨s2, 0, none⟩ = some (.int .i64 p) ∧ w'.cell? ⟨s2, 1, none⟩ = some (.int .i64 R) ∧ w'.cell? ⟨s2, 2, none⟩ = some (.int .i64 C) ∧ w'.cell? ⟨s2, 3, none⟩ = some (.slice (some ⟨gd, 0, none⟩) n kd))
                  (first | exact HQD.out | exact HQ.out | exact K4 | exact K5 | exact KZ)
                  (first
                    | (go_at_call 186
                       with_reducible refine HAT3.out.mono ?_
                       rintro e w6 ⟨rfl, hb6⟩
                       have HB6 : Hid (Below w5.heap.size w5 w6) := Lib.hid (((Below.refl _ _).drew).trans hb6)
                       have HRS6 := Lib.hid (HRS5.out.below HB6.out)
                       have K4 : w6.cell? ⟨g, 0, none⟩ = some (.int .i64 p) ∧ w6.cell? ⟨g, 1, none⟩ = some (.int .i64 R) ∧ w6.cell? ⟨g, 2, none⟩ = some (.int .i64 C) ∧ w6.cell? ⟨s2, 0, none⟩ = some (.int .i64 p) ∧ w6.cell? ⟨s2, 1, none⟩ = some (.int .i64 R) ∧ w6.cell? ⟨s2, 2, none⟩ = some (.int .i64 C) ∧ w6.cell? ⟨s2, 3, none⟩ = some (.slice (some ⟨gd, 0, none⟩) n kd) := HRS6.out.s7
                       have KZ : (w6.setCell ⟨gd, m1, none⟩ (.int .i64 y1)).cell? ⟨g, 0, none⟩ = some (.int .i64 p) ∧ (w6.setCell ⟨gd, m1, none⟩ (.int .i64 y1)).cell? ⟨g, 1, none⟩ = some (.int .i64 R) ∧ (w6.setCell ⟨gd, m1, none⟩ (.int .i64 y1)).cell? ⟨g, 2, none⟩ = some (.int .i64 C) ∧ (w6.setCell ⟨gd, m1, none⟩ (.int .i64 y1)).cell? ⟨s2, 0, none⟩ = some (.int .i64 p) ∧ (w6.setCell ⟨gd, m1, none⟩ (.int .i64 y1)).cell? ⟨s2, 1, none⟩ = some (.int .i64 R) ∧ (w6.setCell ⟨gd, m1, none⟩ (.int .i64 y1)).cell? ⟨s2, 2, none⟩ = some (.int .i64 C) ∧ (w6.setCell ⟨gd, m1, none⟩ (.int .i64 y1)).cell? ⟨s2, 3, none⟩ = some (.slice (some ⟨gd, 0, none⟩) n kd) := (HRS6.out.put m1 y1).s7
                       obtain ⟨cc, ff⟩ := HRS6.out.mcell hm1n
                       clear hb6))
                have HRS7 : Hid (RS w (w6.setCell ⟨gd, m1, none⟩ (.int .i64 y1)) g s1 s2 p R C A (some ⟨gd, 0, none⟩) n k kd (d1.set m1 y1) Ap np cp ps) := Lib.hid (HRS6.out.put m1 y1)
                obtain ⟨w7, hw7⟩ : ∃ w7, w7 = w6.setCell ⟨gd, m1, none⟩ (.int .i64 y1) := ⟨_, rfl⟩
                rw [← hw7] at HRS7 ⊢
                clear hw7 HQ HQD K4 KZ cc ff
                obtain ⟨q0, q1, q2, q3, q4, q5, q6⟩ := HRS7.out.s7
                obtain ⟨cc, ff⟩ := HRS7.out.mcell hm2n
                go_wp2_with fail
                go_roundw
                case rel => exact ⟨q + 1, (d1.set m1 y1).set m2 x1, by omega, by go_num, HRS7.out.put m2 x1, HFIN.out⟩
                case measure => simp [intOf]; omega
              case neg =>
                obtain rfl : C = q := by omega
                have HDM1 : Hid (DM d1 R C (swM M a np)) := Lib.hid (hdm.congr fun i c _ hc => by simp [swK, hc])
                have HRS := Lib.hid hrs
                clear hrs hdm
                obtain ⟨M1, hM1⟩ : ∃ M1, M1 = swM M a np := ⟨_, rfl⟩
                rw [← hM1] at HDM1
                have HM1 := Lib.hid hM1
                have hM1j : M1 np j = v := by
                  rw [hM1, HV.out]
                  by_cases e : np = a
                  · subst e; simp [swM]
                  · simp [swM, e]
                have HRG1 : Hid (∀ i c, i < R → c < C → 0 ≤ M1 i c ∧ M1 i c < p) := Lib.hid (fun i c hi hc => by
                  rw [hM1]
                  unfold swM
                  split
                  · exact HRI.out.rg np c hnp hc
                  · split
                    · exact HRI.out.rg a c haE hc
                    · exact HRI.out.rg i c hi hc)
                have hvr : 0 < v ∧ v < p := by
                  have := HRI.out.rg a j haE hjC
                  rw [← HV.out] at this; omega
                have HAT := Lib.hid (HRS.out.at_ HDM1.out hR hC hnp hjC v hM1j wr.drew ((Below.refl _ _).drew))
                have HIV := Lib.hid (fun w' => l7Inverse_any p v w' HP.out hvr)
                have hivr := inv7_ok HP.out hvr
                obtain ⟨f, hf⟩ : ∃ f, f = inv7 p v := ⟨_, rfl⟩
                rw [← hf] at hivr HIV
                have HF := Lib.hid hf
                have HFR : Hid (0 < f ∧ f < p) := Lib.hid ⟨hivr.1, hivr.2.1⟩
                obtain ⟨q0, q1, q2, q3, q4, q5, q6⟩ := HRS.out.s7
                clear hM1 hM1j hvr hivr hf
                go_wp2_with fail
                clear q0 q1 q2 q3 q4 q5 q6
                have HQ := Lib.hid HRS.out.s7
                have hqd : wr.drew.cell? ⟨g, 0, none⟩ = some (.int .i64 p) ∧ wr.drew.cell? ⟨g, 1, none⟩ = some (.int .i64 R) ∧ wr.drew.cell? ⟨g, 2, none⟩ = some (.int .i64 C) ∧ wr.drew.cell? ⟨s2, 0, none⟩ = some (.int .i64 p) ∧ wr.drew.cell? ⟨s2, 1, none⟩ = some (.int .i64 R) ∧ wr.drew.cell? ⟨s2, 2, none⟩ = some (.int .i64 C) ∧ wr.drew.cell? ⟨s2, 3, none⟩ = some (.slice A4 n kd) := HRS.out.s7
                have HQD := Lib.hid hqd
                clear hqd
                go_region_held3 (fun w' => w'.cell? ⟨g, 0, none⟩ = some (.int .i64 p) ∧ w'.cell? ⟨g, 1, none⟩ = some (.int .i64 R) ∧ w'.cell? ⟨g, 2, none⟩ = some (.int .i64 C) ∧ w'.cell? ⟨s2, 0, none⟩ = some (.int .i64 p) ∧ w'.cell? ⟨s2, 1, none⟩ = some (.int .i64 R) ∧ w'.cell? ⟨s2, 2, none⟩ = some (.int .i64 C) ∧ w'.cell? ⟨s2, 3, none⟩ = some (.slice A4 n kd))
                  (first | exact HQD.out | exact HQ.out | exact K4 | exact K5 | exact KZ)
                  (first
                    | (go_at_call 186
                       with_reducible refine HAT.out.mono ?_
                       rintro e w5 ⟨rfl, hb5⟩
                       have HRS5 := Lib.hid (HRS.out.below (((Below.refl _ _).drew).trans hb5))
                       have K4 : w5.cell? ⟨g, 0, none⟩ = some (.int .i64 p) ∧ w5.cell? ⟨g, 1, none⟩ = some (.int .i64 R) ∧ w5.cell? ⟨g, 2, none⟩ = some (.int .i64 C) ∧ w5.cell? ⟨s2, 0, none⟩ = some (.int .i64 p) ∧ w5.cell? ⟨s2, 1, none⟩ = some (.int .i64 R) ∧ w5.cell? ⟨s2, 2, none⟩ = some (.int .i64 C) ∧ w5.cell? ⟨s2, 3, none⟩ = some (.slice A4 n kd) := HRS5.out.s7
                       clear hb5)
                    | (go_at_call 187
                       with_reducible refine (HIV.out _).mono ?_
                       rintro e w6 ⟨rfl, hd6⟩
                       have HRS6 := Lib.hid (HRS5.out.below (hd6.below _))
                       have K5 : w6.cell? ⟨g, 0, none⟩ = some (.int .i64 p) ∧ w6.cell? ⟨g, 1, none⟩ = some (.int .i64 R) ∧ w6.cell? ⟨g, 2, none⟩ = some (.int .i64 C) ∧ w6.cell? ⟨s2, 0, none⟩ = some (.int .i64 p) ∧ w6.cell? ⟨s2, 1, none⟩ = some (.int .i64 R) ∧ w6.cell? ⟨s2, 2, none⟩ = some (.int .i64 C) ∧ w6.cell? ⟨s2, 3, none⟩ = some (.slice A4 n kd) := HRS6.out.s7
                       clear hd6))
                clear HQ HQD K4 K5
                go_wp2_with fail
                go_loopw [12] (fun kv wr => ∃ (q : Nat) (d2 : List Int), q ≤ C ∧ kv = .int .i64 q ∧ RS w wr g s1 s2 p R C A A4 n k kd d2 Ap np cp ps ∧ DM d2 R C (scK p M1 np f q))
                  (fun kv _ => C - (intOf kv).toNat)
                case atStart => exact ⟨0, d1, Nat.zero_le _, rfl, HRS6.out, HDM1.out.congr fun i c _ _ => by simp [scK]⟩
                case round =>
                  obtain ⟨q, d2, hq2, rfl, hrs, hdm⟩ := hrel
                  clear HRS6 HRS5
                  clear HRS
                  by_cases hqC : q < C
                  case pos =>
                    have hqI : (q : Int) < (C : Int) := by omega
                    obtain ⟨gd, rfl, _, _⟩ := hrs.od.place (by rw [HNL.out]; have := idx_lt haE hqC; omega)
                    obtain ⟨Nb, m2, hb1, hb2, hm2⟩ := idx_wraps (i := np) (C := C) (q := q) (by omega) hC (by omega)
                    have hm2n : m2 < n := by rw [hm2, HNL.out]; exact idx_lt hnp hqC
                    have hm2I : (m2 : Int) < (n : Int) := by omega
                    obtain ⟨x1, hx1⟩ : ∃ x1, x1 = M1 np q := ⟨_, rfl⟩
                    have HAT2 := Lib.hid (hrs.at_ hdm hR hC hnp hqC x1 (by rw [hx1]; simp [scK]) wr.drew ((Below.refl _ _).drew))
                    have hx1r := HRG1.out np q hnp hqC
                    rw [← hx1] at hx1r
                    have hfr := HFR.out
                    have hX0 : 0 ≤ x1 * f := Int.mul_nonneg hx1r.1 (by omega)
                    have hX1 : x1 * f ≤ 7 * 7 := Int.mul_le_mul (by omega) (by omega) (by omega) (by decide)
                    obtain ⟨X, hX⟩ : ∃ X, X = x1 * f := ⟨_, rfl⟩
                    rw [← hX] at hX0 hX1
                    have hwX : IntKind.i64.wrap (x1 * f) = X := by rw [← hX]; exact IntWalk.i64_in _ (by omega)
                    obtain ⟨Y, hY⟩ : ∃ Y, Y = X % p := ⟨_, rfl⟩
                    have hwY : X.tmod p = Y := by rw [hY]; exact Int.tmod_eq_emod_of_nonneg hX0
                    have hYr : 0 ≤ Y ∧ Y < p := by rw [hY]; exact ⟨Int.emod_nonneg _ hpnz, Int.emod_lt_of_pos _ (by omega)⟩
                    have hwZ : IntKind.i64.wrap Y = Y := IntWalk.i64_in _ (by omega)
                    have HFIN : Hid (DM (d2.set m2 Y) R C (scK p M1 np f (q + 1))) := Lib.hid (by
                      rw [hm2]
                      exact (hdm.set hnp hqC Y).congr fun i c _ _ => by rw [hY, hX, hx1]; exact scK_step i c)
                    have HRS := Lib.hid hrs
                    obtain ⟨q0, q1, q2, q3, q4, q5, q6⟩ := hrs.s7
                    clear hrs hdm hm2 hx1 hx1r hfr hX0 hX1 hX hY hYr
                    go_wp2_with fail
                    clear q0 q1 q2 q3 q4 q5 q6
                    have HQ := Lib.hid HRS.out.s7
                    have hqd : wr.drew.cell? ⟨g, 0, none⟩ = some (.int .i64 p) ∧ wr.drew.cell? ⟨g, 1, none⟩ = some (.int .i64 R) ∧ wr.drew.cell? ⟨g, 2, none⟩ = some (.int .i64 C) ∧ wr.drew.cell? ⟨s2, 0, none⟩ = some (.int .i64 p) ∧ wr.drew.cell? ⟨s2, 1, none⟩ = some (.int .i64 R) ∧ wr.drew.cell? ⟨s2, 2, none⟩ = some (.int .i64 C) ∧ wr.drew.cell? ⟨s2, 3, none⟩ = some (.slice (some ⟨gd, 0, none⟩) n kd) := HRS.out.s7
                    have HQD := Lib.hid hqd
                    clear hqd
                    go_region_held3 (fun w' => w'.cell? ⟨g, 0, none⟩ = some (.int .i64 p) ∧ w'.cell? ⟨g, 1, none⟩ = some (.int .i64 R) ∧ w'.cell? ⟨g, 2, none⟩ = some (.int .i64 C) ∧ w'.cell? ⟨s2, 0, none⟩ = some (.int .i64 p) ∧ w'.cell? ⟨s2, 1, none⟩ = some (.int .i64 R) ∧ w'.cell? ⟨s2, 2, none⟩ = some (.int .i64 C) ∧ w'.cell? ⟨s2, 3, none⟩ = some (.slice (some ⟨gd, 0, none⟩) n kd))
                      (first | exact HQD.out | exact HQ.out | exact K4 | exact K5 | exact KZ)
                      (first
                        | (go_at_call 186
                           with_reducible refine HAT2.out.mono ?_
                           rintro e w6 ⟨rfl, hb6⟩
                           have HRS6 := Lib.hid (HRS.out.below (((Below.refl _ _).drew).trans hb6))
                           have K4 : w6.cell? ⟨g, 0, none⟩ = some (.int .i64 p) ∧ w6.cell? ⟨g, 1, none⟩ = some (.int .i64 R) ∧ w6.cell? ⟨g, 2, none⟩ = some (.int .i64 C) ∧ w6.cell? ⟨s2, 0, none⟩ = some (.int .i64 p) ∧ w6.cell? ⟨s2, 1, none⟩ = some (.int .i64 R) ∧ w6.cell? ⟨s2, 2, none⟩ = some (.int .i64 C) ∧ w6.cell? ⟨s2, 3, none⟩ = some (.slice (some ⟨gd, 0, none⟩) n kd) := HRS6.out.s7
                           have KZ : (w6.setCell ⟨gd, m2, none⟩ (.int .i64 Y)).cell? ⟨g, 0, none⟩ = some (.int .i64 p) ∧ (w6.setCell ⟨gd, m2, none⟩ (.int .i64 Y)).cell? ⟨g, 1, none⟩ = some (.int .i64 R) ∧ (w6.setCell ⟨gd, m2, none⟩ (.int .i64 Y)).cell? ⟨g, 2, none⟩ = some (.int .i64 C) ∧ (w6.setCell ⟨gd, m2, none⟩ (.int .i64 Y)).cell? ⟨s2, 0, none⟩ = some (.int .i64 p) ∧ (w6.setCell ⟨gd, m2, none⟩ (.int .i64 Y)).cell? ⟨s2, 1, none⟩ = some (.int .i64 R) ∧ (w6.setCell ⟨gd, m2, none⟩ (.int .i64 Y)).cell? ⟨s2, 2, none⟩ = some (.int .i64 C) ∧ (w6.setCell ⟨gd, m2, none⟩ (.int .i64 Y)).cell? ⟨s2, 3, none⟩ = some (.slice (some ⟨gd, 0, none⟩) n kd) := (HRS6.out.put m2 Y).s7
                           obtain ⟨cc, ff⟩ := HRS6.out.mcell hm2n
                           clear hb6))
                    clear HQ HQD K4 KZ cc ff
                    go_wp2_with fail
                    go_roundw
                    case rel => exact ⟨q + 1, d2.set m2 Y, by omega, by go_num, HRS6.out.put m2 Y, HFIN.out⟩
                    case measure => simp [intOf]; omega
                  case neg =>
                    obtain rfl : C = q := by omega
                    have HDM2 : Hid (DM d2 R C (scM p M1 np f)) := Lib.hid (hdm.congr fun i c _ hc => by simp [scK, hc])
                    have HRS := Lib.hid hrs
                    obtain ⟨M2, hM2⟩ : ∃ M2, M2 = scM p M1 np f := ⟨_, rfl⟩
                    rw [← hM2] at HDM2
                    have HM2 := Lib.hid hM2
                    have HRG2 : Hid (∀ i c, i < R → c < C → 0 ≤ M2 i c ∧ M2 i c < p) := Lib.hid (fun i c hi hc => by
                      rw [hM2]
                      unfold scM
                      split
                      · exact ⟨Int.emod_nonneg _ hpnz, Int.emod_lt_of_pos _ (by omega)⟩
                      · exact HRG1.out i c hi hc)
                    have hCI : ¬ (C : Int) < (C : Int) := by omega
                    obtain ⟨q0, q1, q2, q3, q4, q5, q6⟩ := hrs.s7
                    clear hrs hdm hM2
                    go_wp2_with fail
                    clear q0 q1 q2 q3 q4 q5 q6 hCI
                    go_loopw [13] (fun iv wr => ∃ (i : Nat) (d3 : List Int), i ≤ R ∧ iv = .int .i64 i ∧ RS w wr g s1 s2 p R C A A4 n k kd d3 Ap np cp ps ∧ DM d3 R C (clK p M2 np j i 0))
                      (fun iv _ => R - (intOf iv).toNat)
                    case atStart => exact ⟨0, d2, Nat.zero_le _, rfl, HRS.out, HDM2.out.congr fun i c _ _ => by simp [clK]⟩
                    case round =>
                      obtain ⟨i, d3, hi, rfl, hrs, hdm⟩ := hrel
                      clear HRS
                      have HRS := Lib.hid hrs
                      have HDM3 := Lib.hid hdm
                      clear hrs hdm
                      by_cases hiR : i < R
                      case pos =>
                        have hiI : (i : Int) < (R : Int) := by omega
                        obtain ⟨cv, hcv⟩ : ∃ cv, cv = M2 i j := ⟨_, rfl⟩
                        have HAT3 := Lib.hid (HRS.out.at_ HDM3.out hR hC hiR hjC cv (by rw [hcv]; simp [clK]) wr (Below.refl _ _))
                        have HCV := Lib.hid hcv
                        have hcvr := HRG2.out i j hiR hjC
                        rw [← hcv] at hcvr
                        clear hcv
                        obtain ⟨q0, q1, q2, q3, q4, q5, q6⟩ := HRS.out.s7
                        go_wp2_with (first
                          | (go_at_call 186
                             with_reducible refine HAT3.out.mono ?_
                             rintro e w4 ⟨rfl, hb4⟩
                             have HRS4 := Lib.hid (HRS.out.below hb4)
                             obtain ⟨t0, t1, t2, t3, t4, t5, t6⟩ := HRS4.out.s7
                             clear hb4)
                          | fail)
                        clear q0 q1 q2 q3 q4 q5 q6 t0 t1 t2 t3 t4 t5 t6 HAT3
                        go_loopw [15] (fun kv wr => ∃ (q : Nat) (d4 : List Int), q ≤ C ∧ kv = .int .i64 q ∧ RS w wr g s1 s2 p R C A A4 n k kd d4 Ap np cp ps ∧ DM d4 R C (clK p M2 np j i q) ∧ (i = np → q = 0))
                          (fun kv _ => C - (intOf kv).toNat)
                        case atStart => exact ⟨0, d3, Nat.zero_le _, rfl, HRS4.out, HDM3.out, fun _ => rfl⟩
                        case round =>
                          obtain ⟨q, d4, hq4, rfl, hrs, hdm, hz⟩ := hrel
                          clear HRS4 HRS
                          have HRS := Lib.hid hrs
                          have HDM4 := Lib.hid hdm
                          have HZ := Lib.hid hz
                          clear hrs hdm hz
                          obtain ⟨q0, q1, q2, q3, q4, q5, q6⟩ := HRS.out.s7
                          by_cases hqC : q < C
                          case neg =>
                            have hqI : ¬ (q : Int) < (C : Int) := by omega
                            go_wp2
                            go_roundw
                            case rel => exact ⟨i + 1, d4, by omega, by go_num, HRS.out, HDM4.out.congr fun x c _ hc => by
                              have hqe : q = C := by omega
                              rw [hqe]; exact clK_row x c hc⟩
                            case measure => simp [intOf]; omega
                          case pos =>
                            have hqI : (q : Int) < (C : Int) := by omega
                            by_cases hin : i = np
                            case pos =>
                              have hinb : ((i : Int) != (np : Int)) = false := by simp; omega
                              go_wp2
                              go_roundw
                              case rel => exact ⟨i + 1, d4, by omega, by go_num, HRS.out, HDM4.out.congr fun x c _ hc => by
                                have h0 := HZ.out hin
                                rw [h0, hin]; exact clK_skip x c⟩
                              case measure => simp [intOf]; omega
                            case neg =>
                              have hinb : ((i : Int) != (np : Int)) = true := by simp; omega
                              obtain ⟨gd, rfl, _, _⟩ := HRS.out.od.place (by rw [HNL.out]; have := idx_lt haE hqC; omega)
                              obtain ⟨Nb, m2, hb1, hb2, hm2⟩ := idx_wraps (i := i) (C := C) (q := q) (by omega) hC (by omega)
                              have hm2n : m2 < n := by rw [hm2, HNL.out]; exact idx_lt hiR hqC
                              have hm2I : (m2 : Int) < (n : Int) := by omega
                              obtain ⟨a1, ha1⟩ : ∃ a1, a1 = M2 i q := ⟨_, rfl⟩
                              obtain ⟨b1, hb1'⟩ : ∃ b1, b1 = M2 np q := ⟨_, rfl⟩
                              have hclb : clK p M2 np j i q np q = b1 := by
                                rw [hb1']
                                unfold clK
                                split
                                · simp [clM]
                                · rfl
                              have HATA := Lib.hid (fun w' hb' => HRS.out.at_ HDM4.out hR hC hiR hqC a1 (by rw [ha1]; simp [clK]) w' hb')
                              have HATB := Lib.hid (fun w' hb' => HRS.out.at_ HDM4.out hR hC hnp hqC b1 hclb w' hb')
                              have hbr := HRG2.out np q hnp hqC
                              have har := HRG2.out i q hiR hqC
                              rw [← hb1'] at hbr
                              rw [← ha1] at har
                              obtain ⟨Dv, hDv⟩ : ∃ Dv, Dv = p - cv := ⟨_, rfl⟩
                              have hw1 : IntKind.i64.wrap (p - cv) = Dv := by rw [← hDv]; exact IntWalk.i64_in _ (by omega)
                              have hP0 : 0 ≤ Dv * b1 := Int.mul_nonneg (by omega) hbr.1
                              have hP1 : Dv * b1 ≤ 7 * 7 := Int.mul_le_mul (by omega) (by omega) hbr.1 (by decide)
                              obtain ⟨PB, hPB⟩ : ∃ PB, PB = Dv * b1 := ⟨_, rfl⟩
                              rw [← hPB] at hP0 hP1
                              have hw2 : IntKind.i64.wrap (Dv * b1) = PB := by rw [← hPB]; exact IntWalk.i64_in _ (by omega)
                              obtain ⟨X, hX⟩ : ∃ X, X = a1 + PB := ⟨_, rfl⟩
                              have hw3 : IntKind.i64.wrap (a1 + PB) = X := by rw [← hX]; exact IntWalk.i64_in _ (by omega)
                              obtain ⟨Y, hY⟩ : ∃ Y, Y = X % p := ⟨_, rfl⟩
                              have hw4 : X.tmod p = Y := by rw [hY]; exact Int.tmod_eq_emod_of_nonneg (by omega)
                              have hYr : 0 ≤ Y ∧ Y < p := by rw [hY]; exact ⟨Int.emod_nonneg _ hpnz, Int.emod_lt_of_pos _ (by omega)⟩
                              have hw5 : IntKind.i64.wrap Y = Y := IntWalk.i64_in _ (by omega)
                              have HFIN : Hid (DM (d4.set m2 Y) R C (clK p M2 np j i (q + 1))) := Lib.hid (by
                                rw [hm2]
                                exact (HDM4.out.set hiR hqC Y).congr fun x c _ _ => by rw [hY, hX, hPB, hDv, ha1, hb1', HCV.out]; exact clK_step hin x c)
                              clear hm2 ha1 hb1' hclb hbr har hP0 hP1 hX hY hYr hDv hPB
                              go_wp2_with fail
                              clear q0 q1 q2 q3 q4 q5 q6
                              have HQ := Lib.hid HRS.out.s7
                              have hqd : wr.drew.cell? ⟨g, 0, none⟩ = some (.int .i64 p) ∧ wr.drew.cell? ⟨g, 1, none⟩ = some (.int .i64 R) ∧ wr.drew.cell? ⟨g, 2, none⟩ = some (.int .i64 C) ∧ wr.drew.cell? ⟨s2, 0, none⟩ = some (.int .i64 p) ∧ wr.drew.cell? ⟨s2, 1, none⟩ = some (.int .i64 R) ∧ wr.drew.cell? ⟨s2, 2, none⟩ = some (.int .i64 C) ∧ wr.drew.cell? ⟨s2, 3, none⟩ = some (.slice (some ⟨gd, 0, none⟩) n kd) := HRS.out.s7
                              have HQD := Lib.hid hqd
                              clear hqd
                              go_region_held3 (fun w' => w'.cell? ⟨g, 0, none⟩ = some (.int .i64 p) ∧ w'.cell? ⟨g, 1, none⟩ = some (.int .i64 R) ∧ w'.cell? ⟨g, 2, none⟩ = some (.int .i64 C) ∧ w'.cell? ⟨s2, 0, none⟩ = some (.int .i64 p) ∧ w'.cell? ⟨s2, 1, none⟩ = some (.int .i64 R) ∧ w'.cell? ⟨s2, 2, none⟩ = some (.int .i64 C) ∧ w'.cell? ⟨s2, 3, none⟩ = some (.slice (some ⟨gd, 0, none⟩) n kd))
                                (first | exact HQD.out | exact HQ.out | exact K4 | exact K5 | exact KZ)
                                (first
                                  | (go_at_call 186
                                     with_reducible refine (HATB.out _ HBA.out).mono ?_
                                     rintro e w6 ⟨rfl, hb6⟩
                                     have HRS6 := Lib.hid (HRS.out.below (HBA.out.trans (hb6.mono HBA.out.size)))
                                     have K4 : w6.cell? ⟨g, 0, none⟩ = some (.int .i64 p) ∧ w6.cell? ⟨g, 1, none⟩ = some (.int .i64 R) ∧ w6.cell? ⟨g, 2, none⟩ = some (.int .i64 C) ∧ w6.cell? ⟨s2, 0, none⟩ = some (.int .i64 p) ∧ w6.cell? ⟨s2, 1, none⟩ = some (.int .i64 R) ∧ w6.cell? ⟨s2, 2, none⟩ = some (.int .i64 C) ∧ w6.cell? ⟨s2, 3, none⟩ = some (.slice (some ⟨gd, 0, none⟩) n kd) := HRS6.out.s7
                                     have KZ : (w6.setCell ⟨gd, m2, none⟩ (.int .i64 Y)).cell? ⟨g, 0, none⟩ = some (.int .i64 p) ∧ (w6.setCell ⟨gd, m2, none⟩ (.int .i64 Y)).cell? ⟨g, 1, none⟩ = some (.int .i64 R) ∧ (w6.setCell ⟨gd, m2, none⟩ (.int .i64 Y)).cell? ⟨g, 2, none⟩ = some (.int .i64 C) ∧ (w6.setCell ⟨gd, m2, none⟩ (.int .i64 Y)).cell? ⟨s2, 0, none⟩ = some (.int .i64 p) ∧ (w6.setCell ⟨gd, m2, none⟩ (.int .i64 Y)).cell? ⟨s2, 1, none⟩ = some (.int .i64 R) ∧ (w6.setCell ⟨gd, m2, none⟩ (.int .i64 Y)).cell? ⟨s2, 2, none⟩ = some (.int .i64 C) ∧ (w6.setCell ⟨gd, m2, none⟩ (.int .i64 Y)).cell? ⟨s2, 3, none⟩ = some (.slice (some ⟨gd, 0, none⟩) n kd) := (HRS6.out.put m2 Y).s7
                                     obtain ⟨cc, ff⟩ := HRS6.out.mcell hm2n
                                     clear hb6)
                                  | (go_at_call 186
                                     with_reducible refine (HATA.out _ HBC.out).mono ?_
                                     rintro e w6 ⟨rfl, hb6⟩
                                     have HRS6 := Lib.hid (HRS.out.below (HBC.out.trans (hb6.mono HBC.out.size)))
                                     have K4 : w6.cell? ⟨g, 0, none⟩ = some (.int .i64 p) ∧ w6.cell? ⟨g, 1, none⟩ = some (.int .i64 R) ∧ w6.cell? ⟨g, 2, none⟩ = some (.int .i64 C) ∧ w6.cell? ⟨s2, 0, none⟩ = some (.int .i64 p) ∧ w6.cell? ⟨s2, 1, none⟩ = some (.int .i64 R) ∧ w6.cell? ⟨s2, 2, none⟩ = some (.int .i64 C) ∧ w6.cell? ⟨s2, 3, none⟩ = some (.slice (some ⟨gd, 0, none⟩) n kd) := HRS6.out.s7
                                     have KZ : (w6.setCell ⟨gd, m2, none⟩ (.int .i64 Y)).cell? ⟨g, 0, none⟩ = some (.int .i64 p) ∧ (w6.setCell ⟨gd, m2, none⟩ (.int .i64 Y)).cell? ⟨g, 1, none⟩ = some (.int .i64 R) ∧ (w6.setCell ⟨gd, m2, none⟩ (.int .i64 Y)).cell? ⟨g, 2, none⟩ = some (.int .i64 C) ∧ (w6.setCell ⟨gd, m2, none⟩ (.int .i64 Y)).cell? ⟨s2, 0, none⟩ = some (.int .i64 p) ∧ (w6.setCell ⟨gd, m2, none⟩ (.int .i64 Y)).cell? ⟨s2, 1, none⟩ = some (.int .i64 R) ∧ (w6.setCell ⟨gd, m2, none⟩ (.int .i64 Y)).cell? ⟨s2, 2, none⟩ = some (.int .i64 C) ∧ (w6.setCell ⟨gd, m2, none⟩ (.int .i64 Y)).cell? ⟨s2, 3, none⟩ = some (.slice (some ⟨gd, 0, none⟩) n kd) := (HRS6.out.put m2 Y).s7
                                     obtain ⟨cc, ff⟩ := HRS6.out.mcell hm2n
                                     clear hb6)
                                  | (go_at_call 186
                                     with_reducible refine (HATA.out _ ((Below.refl _ _).drew)).mono ?_
                                     rintro e wa ⟨rfl, hb5⟩
                                     have HBA : Hid (Below wr.heap.size wr wa) := Lib.hid (((Below.refl _ _).drew).trans hb5)
                                     have K5 : wa.cell? ⟨g, 0, none⟩ = some (.int .i64 p) ∧ wa.cell? ⟨g, 1, none⟩ = some (.int .i64 R) ∧ wa.cell? ⟨g, 2, none⟩ = some (.int .i64 C) ∧ wa.cell? ⟨s2, 0, none⟩ = some (.int .i64 p) ∧ wa.cell? ⟨s2, 1, none⟩ = some (.int .i64 R) ∧ wa.cell? ⟨s2, 2, none⟩ = some (.int .i64 C) ∧ wa.cell? ⟨s2, 3, none⟩ = some (.slice (some ⟨gd, 0, none⟩) n kd) := (HRS.out.below HBA.out).s7
                                     clear hb5)
                                  | (go_at_call 186
                                     with_reducible refine (HATB.out _ ((Below.refl _ _).drew)).mono ?_
                                     rintro e wc ⟨rfl, hb5⟩
                                     have HBC : Hid (Below wr.heap.size wr wc) := Lib.hid (((Below.refl _ _).drew).trans hb5)
                                     have K5 : wc.cell? ⟨g, 0, none⟩ = some (.int .i64 p) ∧ wc.cell? ⟨g, 1, none⟩ = some (.int .i64 R) ∧ wc.cell? ⟨g, 2, none⟩ = some (.int .i64 C) ∧ wc.cell? ⟨s2, 0, none⟩ = some (.int .i64 p) ∧ wc.cell? ⟨s2, 1, none⟩ = some (.int .i64 R) ∧ wc.cell? ⟨s2, 2, none⟩ = some (.int .i64 C) ∧ wc.cell? ⟨s2, 3, none⟩ = some (.slice (some ⟨gd, 0, none⟩) n kd) := (HRS.out.below HBC.out).s7
                                     clear hb5))
                              all_goals
                                (clear HQ HQD cc ff
                                 go_wp2_with fail
                                 go_roundw
                                 case rel => exact ⟨q + 1, d4.set m2 Y, by omega, by go_num, HRS6.out.put m2 Y, HFIN.out, fun h => absurd h hin⟩
                                 case measure => simp [intOf]; omega)
                      case neg =>
                        obtain rfl : R = i := by omega
                        have HSTEP : Hid (RedI p C R M0 (clM p M2 np j) (ps ++ [(j : Int)]) (j + 1)) := Lib.hid (by
                          have h5 := HRI.out.step HP.out hjC (a := a) (by rw [HNP.out]; exact hna) haE (by rw [← HV.out]; exact hv0)
                          rw [HNP.out, ← HV.out, ← HF.out, ← HM1.out, ← HM2.out] at h5
                          exact h5)
                        have HDML : Hid (DM d3 R C (clM p M2 np j)) := Lib.hid (HDM3.out.congr fun x c hx _ => by
                          unfold clK
                          rw [if_pos (Or.inl hx)])
                        have hRI : ¬ (R : Int) < (R : Int) := by omega
                        obtain ⟨q0, q1, q2, q3, q4, q5, q6⟩ := HRS.out.s7
                        go_wp2_with (first
                          | (at_builtin
                             refine wpList_append1 rfl (.tmp 164) (.tmp 166) rfl (s2 + 1) Ap np cp ps (j : Int) rfl (by show Act.eval _ _ = _; simp [Act.eval]) HRS.out.op (by have := HRS.out.ord; omega) (by omega) ?_
                             intro A' c' w9 ho9 hg9 hb9
                             have HRS9 := Lib.hid (HRS.out.app hg9 rfl ho9)
                             clear ho9 hg9 hb9)
                          | fail)
                        go_roundw
                        case rel => exact ⟨j + 1, d3, clM p M2 np j, A', np + 1, c', ps ++ [(j : Int)], by omega, by go_num, rfl, HRS9.out, HDML.out, HSTEP.out⟩
                        case measure => simp [intOf]; omega

end Go.Proofs.Ytfaegfhbbkicgaa

/-
  The rank of a corner, on the program's side. Conditions: lengths below 2^40.
-/

namespace Go.Proofs.Ytfaegfhbbkicgaa
open Go.RowKit

/-- The first rows of a corner. -/
def rowC (d : List Int) (C c i : Nat) : List Int := (List.range c).map fun j => nth d (i * C + j)
def rowsC (d : List Int) (C r c : Nat) : List (List Int) := (List.range r).map (rowC d C c)
theorem rowC_len (d : List Int) (C c i : Nat) : (rowC d C c i).length = c := by simp [rowC]
theorem rowC_nth {d : List Int} {C c i j : Nat} (h : j < c) : nth (rowC d C c i) j = nth d (i * C + j) := nth_rangeMap _ h
theorem rowC_rg {p : Int} (hp : 0 < p) {d : List Int} (h : Rg p d) (C c i : Nat) : Rg p (rowC d C c i) := fun j => by
  by_cases hj : j < c
  · rw [rowC_nth hj]; exact h _
  · rw [nth_past (by rw [rowC_len]; omega)]; exact ⟨Int.le_refl _, hp⟩
theorem rowsC_len (d : List Int) (C r c : Nat) : (rowsC d C r c).length = r := by simp [rowsC]
theorem rowsC_li {d : List Int} {C r c i : Nat} (h : i < r) : li (rowsC d C r c) i = rowC d C c i := by simp [li, rowsC, List.getD, h]
theorem rowsC_ok {p : Int} (hp : 0 < p) {d : List Int} (h : Rg p d) (C r c : Nat) : ∀ x, x ∈ rowsC d C r c → x.length = c ∧ Rg p x := fun x hx => by
  obtain ⟨i, _, rfl⟩ := List.mem_map.1 hx
  exact ⟨rowC_len .., rowC_rg hp h C c i⟩
theorem SI.mid {w : World} {b o n : Nat} {xs : List Int} (h : SI w (some ⟨b, o, none⟩) n xs) {C c i : Nat} (hc : i * C + c ≤ n) : SI w (some ⟨b, o + i * C, none⟩) c (rowC xs C c i) := by
  refine ⟨rowC_len .., fun h0 => ?_⟩
  obtain ⟨b', o', e, hb, hcell⟩ := h.2 (by omega)
  injection e with e
  injection e with e1 e2
  subst e1 e2
  refine ⟨b, o + i * C, rfl, hb, fun k hk => ?_⟩
  rw [rowC_nth hk, Nat.add_assoc]
  exact hcell (i * C + k) (by omega)
theorem matP.rg {p r c : Int} {xs : List Int} (h : matP p r c xs) : Rg p xs := fun j => by
  by_cases hj : j < xs.length
  · exact h.2.2.2.2 j hj
  · rw [nth_past (by omega)]; exact ⟨Int.le_refl _, by have := h.1.two; omega⟩
theorem matP.nats {p r c : Int} {xs : List Int} (h : matP p r c xs) : ∃ R C : Nat, r = (R : Int) ∧ c = (C : Int) ∧ R ≤ 7 ∧ 1 ≤ C ∧ C ≤ 7 ∧ xs.length = R * C := by
  obtain ⟨h1, h2, h3, h4, h5⟩ := h
  refine ⟨r.toNat, c.toNat, by omega, by omega, by omega, by omega, by omega, ?_⟩
  have e1 : r = (r.toNat : Int) := by omega
  have e2 : c = (c.toNat : Int) := by omega
  rw [e1, e2, ← Int.natCast_mul] at h4
  omega
def crnP (p R C : Int) (xs : List Int) (r c : Int) : Prop := matP p R C xs ∧ (0 ≤ r ∧ r ≤ R) ∧ (0 ≤ c ∧ c ≤ C)
instance crnP.dec (p R C : Int) (xs : List Int) (r c : Int) : Decidable (crnP p R C xs r c) := by unfold crnP; exact inferInstance
def crnK (p R C : Int) (xs : List Int) (r c : Int) : Int := if crnP p R C xs r c then (rnkL p (rowsC xs C.toNat r.toNat c.toNat) : Int) else -1
theorem crnK_no {p R C : Int} {xs : List Int} {r c : Int} (h : ¬ crnP p R C xs r c) : crnK p R C xs r c = -1 := if_neg h
theorem crnK_yes {p R C : Int} {xs : List Int} {r c : Int} (h : crnP p R C xs r c) : crnK p R C xs r c = (rnkL p (rowsC xs C.toNat r.toNat c.toNat) : Int) := if_pos h
end Go.Proofs.Ytfaegfhbbkicgaa

/-
  Flags: the model. No conditions.
-/





namespace Go.Proofs.Ytfaegfhbbkicgaa
open Go.RowKit

theorem addR_app (p : Int) (E : List (List Int × Int)) (x : List Int) : ∃ t, addR p E x = E ++ t ∧ t.length ≤ 1 := by
  unfold addR
  split
  · exact ⟨[], by simp, by simp⟩
  · exact ⟨_, rfl, by simp⟩
theorem foldl_addR_app (p : Int) : ∀ (rows : List (List Int)) (E : List (List Int × Int)), ∃ t, rows.foldl (addR p) E = E ++ t ∧ t.length ≤ rows.length
  | [], E => ⟨[], by simp, by simp⟩
  | x :: rows, E => by
    obtain ⟨t, e, h⟩ := addR_app p E x
    obtain ⟨s, e2, h2⟩ := foldl_addR_app p rows (addR p E x)
    exact ⟨t ++ s, by rw [List.foldl_cons, e2, e, List.append_assoc], by simp; omega⟩
theorem echel_take {p : Int} {rows : List (List Int)} (h : (echel p rows).length = rows.length) {i : Nat} (hi : i ≤ rows.length) : echel p (rows.take i) = (echel p rows).take i := by
  obtain ⟨t, e, ht⟩ := foldl_addR_app p (rows.drop i) (echel p (rows.take i))
  have e1 : echel p rows = echel p (rows.take i) ++ t := by
    rw [← e]
    unfold echel
    rw [← List.foldl_append, List.take_append_drop]
  have h1 := rnkL_le p (rows.take i)
  unfold rnkL at h1
  have h2 : (rows.take i).length = i := by simp; omega
  have h3 : (rows.drop i).length = rows.length - i := by simp
  have h4 : (echel p (rows.take i)).length = i := by
    rw [e1, List.length_append] at h
    omega
  rw [e1, List.take_append_of_le_length (by omega), List.take_of_length_le (l := echel p (rows.take i)) (by omega)]
/-- Each row of a flag is kept: as what is left of it, scaled, at the column where that begins. -/
theorem flag_step {p : Int} {rows : List (List Int)} (h : (echel p rows).length = rows.length) {i : Nat} (hi : i < rows.length) :
    ldN (redE p ((echel p rows).take i) (li rows i)) ≠ (li rows i).length ∧ li ((echel p rows).map (·.1)) i = nrm p (redE p ((echel p rows).take i) (li rows i)) ∧ nth ((echel p rows).map (·.2)) i = (ldN (redE p ((echel p rows).take i) (li rows i)) : Int) := by
  have e : echel p (rows.take (i + 1)) = addR p (echel p (rows.take i)) (li rows i) := by
    rw [take_li' hi]; simp [echel, List.foldl_append]
  rw [echel_take h (by omega), echel_take h (by omega)] at e
  have hiE : i < (echel p rows).length := by omega
  unfold addR at e
  by_cases hl : ldN (redE p ((echel p rows).take i) (li rows i)) = (li rows i).length
  · rw [if_pos hl] at e
    have := congrArg List.length e
    simp at this
    omega
  · rw [if_neg hl, List.take_succ_eq_append_getElem hiE] at e
    have e2 := List.append_cancel_left e
    injection e2 with e3
    refine ⟨hl, ?_, ?_⟩
    · rw [li_get (by simpa using hiE)]; simp [e3]
    · rw [nth_get (by simpa using hiE)]; simp [e3]
theorem nrm_nth {p : Int} {r : List Int} {j : Nat} (h : j < r.length) : nth (nrm p r) j = nth r j * inv7 p (nth r (ldN r)) % p := by
  unfold nrm
  rw [addT_nth h, Int.sub_mul, Int.one_mul, Int.mul_comm (nth r j)]
  congr 1; omega
/-- A row scaled as far as a column. -/
def scL (p : Int) (r : List Int) (f : Int) (k : Nat) : List Int := (List.range r.length).map fun q => if q < k then nth r q * f % p else nth r q
theorem scL_len (p : Int) (r : List Int) (f : Int) (k : Nat) : (scL p r f k).length = r.length := by simp [scL]
theorem scL_nth {p : Int} {r : List Int} {f : Int} {k q : Nat} (h : q < r.length) : nth (scL p r f k) q = if q < k then nth r q * f % p else nth r q := nth_rangeMap _ h
theorem scL_zero (p : Int) (r : List Int) (f : Int) : scL p r f 0 = r := nth_ext (scL_len ..) fun j hj => by rw [scL_nth (by rwa [scL_len] at hj), if_neg (by omega)]
theorem scL_succ {p : Int} {r : List Int} {f : Int} {k : Nat} (h : k < r.length) : (scL p r f k).set k (nth r k * f % p) = scL p r f (k + 1) :=
  nth_ext (by rw [List.length_set, scL_len, scL_len]) fun j hj => by
    rw [List.length_set, scL_len] at hj
    rw [nth_set_at (by rw [scL_len]; exact h), scL_nth hj, scL_nth hj]
    by_cases e : j = k
    · subst e; rw [if_pos rfl, if_pos (by omega)]
    · rw [if_neg e]
      by_cases hlt : j < k
      · rw [if_pos hlt, if_pos (by omega)]
      · rw [if_neg hlt, if_neg (by omega)]
theorem scL_all {p : Int} {r : List Int} {f : Int} (hf : f = inv7 p (nth r (ldN r))) : scL p r f r.length = nrm p r :=
  nth_ext (by rw [scL_len, nrm_len]) fun j hj => by
    rw [scL_len] at hj
    rw [scL_nth hj, if_pos hj, nrm_nth hj, hf]
/-- The rows before i of a normal form, the others as they were; one row put in another's place. -/
def nfM (E : List (List Int × Int)) (xs : List Int) (n i : Nat) : Nat → Nat → Int := fun i' j => if i' < i then nth (li (E.map (·.1)) i') j else nth xs (i' * n + j)
def rwM (M : Nat → Nat → Int) (i : Nat) (x : List Int) : Nat → Nat → Int := fun i' j => if i' = i then nth x j else M i' j
theorem rwM_set {M : Nat → Nat → Int} {i j : Nat} {x : List Int} (hj : j < x.length) (v : Int) (i' c : Nat) : updM (rwM M i x) i j v i' c = rwM M i (x.set j v) i' c := by
  unfold updM rwM
  by_cases h : i' = i
  · subst h
    rw [if_pos rfl, if_pos rfl, nth_set_at hj]
    by_cases h2 : c = j
    · rw [if_pos ⟨rfl, h2⟩, if_pos h2]
    · rw [if_neg (fun hh => h2 hh.2), if_neg h2]
  · rw [if_neg (fun hh => h hh.1), if_neg h, if_neg h]
theorem rwM_start {E : List (List Int × Int)} {xs : List Int} {n i : Nat} (i' c : Nat) (hc : c < n) : nfM E xs n i i' c = rwM (nfM E xs n i) i (rowC xs n n i) i' c := by
  unfold rwM
  by_cases h : i' = i
  · subst h
    rw [if_pos rfl, rowC_nth hc]
    unfold nfM
    rw [if_neg (by omega)]
  · rw [if_neg h]
theorem rwM_end {E : List (List Int × Int)} {xs : List Int} {n i : Nat} (i' c : Nat) : rwM (nfM E xs n i) i (li (E.map (·.1)) i) i' c = nfM E xs n (i + 1) i' c := by
  unfold rwM nfM
  by_cases h : i' = i
  · subst h
    rw [if_pos rfl, if_pos (by omega)]
  · rw [if_neg h]
    by_cases h1 : i' < i
    · rw [if_pos h1, if_pos (by omega)]
    · rw [if_neg h1, if_neg (by omega)]
theorem nfM_flat {E : List (List Int × Int)} {xs : List Int} {n : Nat} (_hn : 0 < n) : DM (flatK n n (E.map (·.1)) n) n n (nfM E xs n n) := by
  refine ⟨flatK_len .., fun i c hi hc => ?_⟩
  obtain ⟨e1, e2⟩ := div_row (i := i) hc
  rw [flatK_nth (idx_lt hi hc), e1, e2, if_pos hi]
  unfold nfM
  rw [if_pos hi]
/-- Whether a matrix is a flag. -/
def flagB (p r c : Int) (xs : List Int) : Bool := matB p r c xs && (decide (r = c) && decide (rnkL p (rowsC xs c.toNat c.toNat c.toNat) = c.toNat))
theorem flagB_no1 {p r c : Int} {xs : List Int} (h : matB p r c xs = false) : flagB p r c xs = false := by simp [flagB, h]
theorem flagB_no2 {p r c : Int} {xs : List Int} (h : r ≠ c) : flagB p r c xs = false := by simp [flagB, h]
theorem flagB_rk {p r c : Int} {xs : List Int} (h : matB p r c xs = true) (e : r = c) : flagB p r c xs = decide (rnkL p (rowsC xs c.toNat c.toNat c.toNat) = c.toNat) := by subst e; simp [flagB, h]
theorem flagB_yes {p r c : Int} {xs : List Int} (h : flagB p r c xs = true) : ∃ C : Nat, r = (C : Int) ∧ c = (C : Int) ∧ P7 p ∧ 1 ≤ C ∧ C ≤ 7 ∧ xs.length = C * C ∧ Rg p xs ∧ (echel p (rowsC xs C C C)).length = C := by
  unfold flagB at h
  simp only [Bool.and_eq_true, decide_eq_true_eq] at h
  obtain ⟨h1, rfl, h3⟩ := h
  have hM := matB_P h1
  obtain ⟨R, C, rfl, e, hR7, hC1, hC7, hxl⟩ := hM.nats
  have eC : R = C := by omega
  subst eC
  simp only [Int.toNat_natCast] at h3
  exact ⟨R, rfl, rfl, hM.1, hC1, hC7, hxl, hM.rg, h3⟩
/-- The normal form's numbers, and its columns. -/
def nfX (p : Int) (C : Nat) (xs : List Int) : List Int := flatK C C ((echel p (rowsC xs C C C)).map (·.1)) C
def nfW (p : Int) (C : Nat) (xs : List Int) : List Int := (echel p (rowsC xs C C C)).map (·.2)
def NfIs (p r c : Int) (xs : List Int) (zp zr zc : Int) (z : List Int) (ok : Bool) : Prop :=
  ok = flagB p r c xs ∧ (ok = true → zp = p ∧ zr = r ∧ zc = c ∧ z = nfX p c.toNat xs) ∧ (ok = false → zp = 0 ∧ zr = 0 ∧ zc = 0 ∧ z = [])
theorem nf_ex (p r c : Int) (xs : List Int) : ∃ zp zr zc z ok, NfIs p r c xs zp zr zc z ok := by
  cases h : flagB p r c xs with
  | true => exact ⟨_, _, _, _, true, h.symm, fun _ => ⟨rfl, rfl, rfl, rfl⟩, fun h' => absurd h' (by decide)⟩
  | false => exact ⟨0, 0, 0, [], false, h.symm, fun h' => absurd h' (by decide), fun _ => ⟨rfl, rfl, rfl, rfl⟩⟩
theorem NfIs.len {p r c : Int} {xs : List Int} {zp zr zc : Int} {z : List Int} {ok : Bool} (h : NfIs p r c xs zp zr zc z ok) : z.length ≤ 1000 := by
  cases ok with
  | true =>
    obtain ⟨_, _, _, rfl⟩ := h.2.1 rfl
    obtain ⟨C, rfl, rfl, _, _, hC7, _⟩ := flagB_yes h.1.symm
    have := nat_mul_small (r := C) (c := C) (by omega) (by omega)
    simp only [nfX, flatK_len, Int.toNat_natCast]
    omega
  | false => obtain ⟨_, _, _, rfl⟩ := h.2.2 rfl; simp
def flgW (p r c : Int) (xs : List Int) : List Int := if flagB p r c xs = true then nfW p c.toNat xs else []
theorem flgW_len (p r c : Int) (xs : List Int) : (flgW p r c xs).length ≤ 1000 := by
  unfold flgW
  split
  · rename_i h
    obtain ⟨C, rfl, rfl, _, _, hC7, _, _, hl⟩ := flagB_yes h
    simp only [nfW, List.length_map, Int.toNat_natCast, hl]; omega
  · simp

end Go.Proofs.Ytfaegfhbbkicgaa
