/-
  Parts of reduced words: plain lemmas on playing words and on the order by ranks. Conditions: the length is at most 7.
-/
import Derived.Test.YtoogmghmnfljjaaSpecH
import Derived.Test.YtoogmghmnfljjaaSpecG
import Derived.Test.YtoogmghmnfljjaaFacts5
import Derived.Test.YtoogmghmnfljjaaDecode
namespace Go.Proofs.Ytoogmghmnfljjaa
open Go.RowKit

/-- Playing the word goes up, step by step, from v to x. -/
def upTo : List Int → List Int → List Int → Prop
  | v, [], x => v = x
  | v, k :: r, x => ∃ i : Nat, k = (i : Int) ∧ i + 1 < v.length ∧ nth v i < nth v (i + 1) ∧ upTo (swapL v i (i + 1)) r x
theorem upTo_play {n : Nat} (h7 : n ≤ 7) {ws x : List Int} (h : upTo (idL n) ws x) (all : Bool) : ∀ k, k ≤ ws.length → upTo ((playL ws all k).take n) (ws.drop k) x
  | 0, _ => by
    show upTo ((idL 7).take n) (ws.drop 0) x
    rw [idL_take h7]; exact h
  | k + 1, hk => by
    have ih := upTo_play h7 h all k (by omega)
    rw [List.drop_eq_getElem_cons (by omega), ← nth_get (by omega)] at ih
    obtain ⟨i, e, hi, ha, hu⟩ := ih
    have hl : ((playL ws all k).take n).length = n := by rw [List.length_take, playL_len]; omega
    rw [hl] at hi
    rw [nth_take (by omega), nth_take (by omega)] at ha
    have hh := playL_hit (ws := ws) (all := all) (k := k) (i := i) (by omega) (.inr ha)
    rw [hh, swapL_take (by omega) (by omega)]
    exact hu
theorem upTo_end {n : Nat} (h7 : n ≤ 7) {ws x : List Int} (h : upTo (idL n) ws x) (all : Bool) : (playL ws all ws.length).take n = x := by
  have := upTo_play h7 h all ws.length (Nat.le_refl _)
  rw [List.drop_length] at this
  exact this
/-- Each letter is an ascent where it comes. -/
theorem upTo_asc {n : Nat} (h7 : n ≤ 7) {ws x : List Int} (h : upTo (idL n) ws x) {k : Nat} (hk : k < ws.length) :
    ∃ i : Nat, nth ws k = (i : Int) ∧ i + 1 < n ∧ nth ((playL ws true k).take n) i < nth ((playL ws true k).take n) (i + 1) ∧ (playL ws true (k + 1)).take n = swapL ((playL ws true k).take n) i (i + 1) := by
  have ih := upTo_play h7 h true k (by omega)
  rw [List.drop_eq_getElem_cons (by omega), ← nth_get (by omega)] at ih
  obtain ⟨i, e, hi, ha, hu⟩ := ih
  have hl : ((playL ws true k).take n).length = n := by rw [List.length_take, playL_len]; omega
  rw [hl] at hi
  refine ⟨i, e, hi, ha, ?_⟩
  rw [playL_hit (ws := ws) (all := true) (k := k) (i := i) (by omega) (.inl rfl), swapL_take (by omega) (by omega)]
theorem playL_congr {ws ws' : List Int} {all : Bool} : ∀ k, (∀ j, j < k → nth ws j = nth ws' j) → playL ws all k = playL ws' all k
  | 0, _ => rfl
  | k + 1, h => by
    have e := playL_congr (all := all) k (fun j hj => h j (by omega))
    have e2 := h k (by omega)
    show (if _ then _ else _) = (if _ then _ else _)
    rw [e, e2]
/-- One letter more. -/
def stepL (v : List Int) (i : Nat) (all : Bool) : List Int := if all = true ∨ nth v i < nth v (i + 1) then swapL v i (i + 1) else v
theorem play_snoc {ws : List Int} {all : Bool} {i n : Nat} (hi : i + 1 < n) (h7 : n ≤ 7) : (playL (ws ++ [(i : Int)]) all (ws.length + 1)).take n = stepL ((playL ws all ws.length).take n) i all := by
  have e : playL (ws ++ [(i : Int)]) all ws.length = playL ws all ws.length := playL_congr _ (fun j hj => nth_snoc_lt hj)
  have e2 : (nth (ws ++ [(i : Int)]) ws.length).toNat = i := by rw [nth_snoc_eq]; simp
  unfold stepL
  rw [nth_take (by omega), nth_take (by omega)]
  show (if _ then _ else _ : List Int).take n = _
  rw [e, e2]
  split
  · rw [swapL_take (by omega) (by omega)]
  · rfl
theorem stepL_len (v : List Int) (i : Nat) (all : Bool) : (stepL v i all).length = v.length := by
  unfold stepL; split <;> simp [swapL_len]

/-- 1 if below, 0 otherwise. -/
def ind (a c : Int) : Nat := if a < c then 1 else 0
theorem rank_step (xs : List Int) (c : Int) (k : Nat) : rankN xs c (k + 1) = rankN xs c k + ind (nth xs k) c := rfl
theorem ind_le (a c : Int) : ind a c ≤ 1 := by unfold ind; split <;> omega
theorem ind_mono {a b c : Int} (h : a ≤ b) : ind b c ≤ ind a c := by unfold ind; split <;> split <;> omega
theorem rank_swap {v : List Int} {i : Nat} (hi : i + 1 < v.length) (c : Int) : ∀ r, r ≤ v.length → rankN (swapL v i (i + 1)) c r = if r = i + 1 then rankN v c i + ind (nth v (i + 1)) c else rankN v c r
  | 0, _ => by rw [if_neg (by omega)]; rfl
  | r + 1, hr => by
    have ih := rank_swap hi c r (by omega)
    rw [rank_step, ih, swapL_nth (by omega) (by omega) (by omega)]
    by_cases h1 : r = i + 1
    · subst h1
      rw [if_pos rfl, if_pos rfl, if_neg (by omega), rank_step, rank_step]
      omega
    · rw [if_neg h1, if_neg h1]
      by_cases h2 : r = i
      · subst h2
        rw [if_pos rfl, if_pos rfl]
      · rw [if_neg h2, if_neg (by omega), rank_step]
theorem belowP_refl (v : List Int) (n : Nat) : belowP v v n := fun _ _ _ _ => Nat.le_refl _
theorem belowP_trans {a b c : List Int} {n : Nat} (h : belowP a b n) (h' : belowP b c n) : belowP a c n := fun r hr x hx => Nat.le_trans (h' r hr x hx) (h r hr x hx)
theorem below_up {v : List Int} {i n : Nat} (hl : v.length = n) (hi : i + 1 < n) (ha : nth v i < nth v (i + 1)) : belowP v (swapL v i (i + 1)) n := by
  intro r hr x hx
  rw [rank_swap (by omega) _ r (by omega)]
  split
  · rename_i e
    subst e
    rw [rank_step]
    have := ind_mono (a := nth v i) (b := nth v (i + 1)) (c := (x : Int)) (by omega)
    omega
  · exact Nat.le_refl _
theorem rank_dem {v : List Int} {i n : Nat} (hl : v.length = n) (hi : i + 1 < n) (c : Int) {r : Nat} (hr : r ≤ n) :
    rankN (stepL v i false) c r = if r = i + 1 then rankN v c i + (if nth v i < c ∧ nth v (i + 1) < c then 1 else 0) else rankN v c r := by
  unfold stepL
  by_cases ha : nth v i < nth v (i + 1)
  · rw [if_pos (.inr ha), rank_swap (by omega) _ r (by omega)]
    split
    · unfold ind
      congr 1
      split <;> split <;> omega
    · rfl
  · rw [if_neg (by rintro (h | h); cases h; exact ha h)]
    split
    · rename_i e
      subst e
      rw [rank_step]
      unfold ind
      congr 1
      split <;> split <;> omega
    · rfl
theorem lift_both {a b : List Int} {i n : Nat} (hla : a.length = n) (hlb : b.length = n) (hi : i + 1 < n) (h : belowP a b n) : belowP (stepL a i true) (stepL b i false) n := by
  intro r hr x hx
  have e : stepL a i true = swapL a i (i + 1) := by unfold stepL; rw [if_pos (.inl rfl)]
  rw [e, rank_dem hlb hi _ hr, rank_swap (by omega) _ r (by omega)]
  split
  · have h0 := h i (by omega) x hx
    have h2 := h (i + 2) (by omega) x hx
    rw [rank_step, rank_step, rank_step, rank_step] at h2
    unfold ind at h2 ⊢
    by_cases q1 : nth a i < (x : Int) <;> by_cases q2 : nth a (i + 1) < (x : Int) <;> by_cases q3 : nth b i < (x : Int) <;> by_cases q4 : nth b (i + 1) < (x : Int) <;>
      simp only [q1, q2, q3, q4, and_self, and_false, false_and, and_true, true_and, if_true, if_false] at h2 ⊢ <;> omega
  · exact h r hr x hx
theorem lift_dem {b v : List Int} {i n : Nat} (hlb : b.length = n) (hlv : v.length = n) (hi : i + 1 < n) (ha : nth v i < nth v (i + 1)) (h : belowP b v n) : belowP (stepL b i false) (swapL v i (i + 1)) n := by
  intro r hr x hx
  rw [rank_dem hlb hi _ hr, rank_swap (by omega) _ r (by omega)]
  split
  · have h0 := h i (by omega) x hx
    have h2 := h (i + 2) (by omega) x hx
    rw [rank_step, rank_step, rank_step, rank_step] at h2
    unfold ind at h2 ⊢
    by_cases q1 : nth b i < (x : Int) <;> by_cases q2 : nth b (i + 1) < (x : Int) <;> by_cases q3 : nth v i < (x : Int) <;> by_cases q4 : nth v (i + 1) < (x : Int) <;>
      simp only [q1, q2, q3, q4, and_self, and_false, false_and, and_true, true_and, if_true, if_false] at h2 ⊢ <;> omega
  · exact h r hr x hx
/-- What is known of a part of the first k letters. -/
def PartP (n : Nat) (ws part : List Int) (k : Nat) : Prop :=
  part.length ≤ k ∧ (∀ j, j < part.length → 0 ≤ nth part j ∧ nth part j ≤ (n : Int) - 2) ∧ belowP ((playL part true part.length).take n) ((playL part false part.length).take n) n ∧ belowP ((playL part false part.length).take n) ((playL ws true k).take n) n
theorem PartP.zero (n : Nat) (ws : List Int) : PartP n ws [] 0 := ⟨Nat.le_refl _, fun j hj => absurd hj (by simp), belowP_refl _ _, belowP_refl _ _⟩
theorem takeN (ws : List Int) (all : Bool) (k : Nat) {n : Nat} (h7 : n ≤ 7) : ((playL ws all k).take n).length = n := by rw [List.length_take, playL_len]; omega
theorem PartP.skip {n : Nat} (h7 : n ≤ 7) {ws part x : List Int} {k : Nat} (h : PartP n ws part k) (hu : upTo (idL n) ws x) (hk : k < ws.length) : PartP n ws part (k + 1) := by
  obtain ⟨i, _, hi, ha, e⟩ := upTo_asc h7 hu hk
  obtain ⟨h1, h2, h3, h4⟩ := h
  refine ⟨by omega, h2, h3, ?_⟩
  rw [e]
  exact belowP_trans h4 (below_up (takeN _ _ _ h7) hi ha)
theorem PartP.take {n : Nat} (h7 : n ≤ 7) {ws part x : List Int} {k : Nat} (h : PartP n ws part k) (hu : upTo (idL n) ws x) (hk : k < ws.length) : PartP n ws (part ++ [nth ws k]) (k + 1) := by
  obtain ⟨i, ei, hi, ha, e⟩ := upTo_asc h7 hu hk
  obtain ⟨h1, h2, h3, h4⟩ := h
  rw [ei]
  refine ⟨by simp; omega, fun j hj => ?_, ?_, ?_⟩
  · rw [List.length_append] at hj
    rcases Nat.lt_or_ge j part.length with h | h
    · rw [nth_snoc_lt h]; exact h2 j h
    · have : j = part.length := by simp at hj; omega
      subst this
      rw [nth_snoc_eq]; omega
  · rw [List.length_append, List.length_singleton, play_snoc hi h7, play_snoc hi h7]
    exact lift_both (takeN _ _ _ h7) (takeN _ _ _ h7) hi h3
  · rw [List.length_append, List.length_singleton, play_snoc hi h7, e]
    exact lift_dem (takeN _ _ _ h7) (takeN _ _ _ h7) hi ha h4
end Go.Proofs.Ytoogmghmnfljjaa
