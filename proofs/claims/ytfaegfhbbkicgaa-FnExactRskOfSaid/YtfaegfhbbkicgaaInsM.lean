/-
  A number inserted into rows: what comes of it (plain lists); one list of a list replaced in memory. Conditions: as each lemma says.
-/
import Derived.Test.YtfaegfhbbkicgaaApE
import Derived.Test.YtfaegfhbbkicgaaLsHelp
namespace Go.Proofs.Ytfaegfhbbkicgaa
open Go.RowKit

/-- The first place with a number above x. -/
def gtN (xs : List Int) (x : Int) : Nat := (xs.takeWhile fun y => decide (y ≤ x)).length
theorem gtN_le (xs : List Int) (x : Int) : gtN xs x ≤ xs.length := (List.takeWhile_sublist _).length_le
theorem gtN_is {x : Int} : ∀ (xs : List Int) (k : Nat), k ≤ xs.length → (∀ j, j < k → nth xs j ≤ x) → (k = xs.length ∨ ¬ nth xs k ≤ x) → gtN xs x = k
  | [], k, hk, _, _ => by
    have : k = 0 := by simpa using hk
    subst this; rfl
  | y :: r, 0, _, _, h2 => by
    rcases h2 with h | h
    · simp at h
    · have h' : ¬ y ≤ x := h
      simp [gtN, h']
  | y :: r, k + 1, hk, h1, h2 => by
    have h0 : y ≤ x := h1 0 (by omega)
    have hS : ∀ j, nth (y :: r) (j + 1) = nth r j := fun j => by simp [nth, List.getD]
    have ih := gtN_is r k (by simpa using hk) (fun j hj => by have := h1 (j + 1) (by omega); rwa [hS] at this) (by
      rcases h2 with h | h
      · exact .inl (by simpa using h)
      · exact .inr (by rwa [hS] at h))
    have e : gtN (y :: r) x = gtN r x + 1 := by simp [gtN, h0]
    rw [e, ih]
/-- The number that is inserted into row i. -/
def xI (ls : List (List Int)) (x : Int) : Nat → Int
  | 0 => x
  | i + 1 => nth (li ls i) (gtN (li ls i) (xI ls x i))
/-- The rows when i of them have been gone through. -/
def rI (ls : List (List Int)) (x : Int) : Nat → List (List Int)
  | 0 => ls
  | i + 1 => (rI ls x i).set i ((li ls i).set (gtN (li ls i) (xI ls x i)) (xI ls x i))
theorem rI_len (ls : List (List Int)) (x : Int) : ∀ i, (rI ls x i).length = ls.length
  | 0 => rfl
  | i + 1 => by simp [rI, rI_len ls x i]
theorem rI_li {ls : List (List Int)} {x : Int} : ∀ {i j : Nat}, i ≤ j → i ≤ ls.length → li (rI ls x i) j = li ls j
  | 0, j, _, _ => rfl
  | i + 1, j, h, hl => by
    show li ((rI ls x i).set i _) j = _
    rw [li_set (by rw [rI_len]; omega), if_neg (by omega)]
    exact rI_li (by omega) (by omega)
def goesI (ls : List (List Int)) (x : Int) (j : Nat) : Prop := gtN (li ls j) (xI ls x j) < (li ls j).length
/-- What inserting leaves, and the row that has grown. -/
def InsIs (ls : List (List Int)) (x : Int) (out : List (List Int)) (row : Nat) : Prop :=
  (row < ls.length ∧ (∀ j, j < row → goesI ls x j) ∧ ¬ goesI ls x row ∧ out = (rI ls x row).set row (li ls row ++ [xI ls x row])) ∨ (row = ls.length ∧ (∀ j, j < row → goesI ls x j) ∧ out = rI ls x row ++ [[xI ls x row]])
def insK (ls : List (List Int)) (x : Int) : Nat → Nat → Nat
  | 0, i => i
  | f + 1, i => if i < ls.length ∧ gtN (li ls i) (xI ls x i) < (li ls i).length then insK ls x f (i + 1) else i
def insRow (ls : List (List Int)) (x : Int) : Nat := insK ls x ls.length 0
def insOut (ls : List (List Int)) (x : Int) : List (List Int) :=
  if insRow ls x < ls.length then (rI ls x (insRow ls x)).set (insRow ls x) (li ls (insRow ls x) ++ [xI ls x (insRow ls x)]) else rI ls x (insRow ls x) ++ [[xI ls x (insRow ls x)]]
theorem insK_is {ls : List (List Int)} {x : Int} {row : Nat} (hr : row ≤ ls.length) (h1 : ∀ j, j < row → goesI ls x j) (h2 : row = ls.length ∨ ¬ goesI ls x row) : ∀ f i, i ≤ row → row ≤ i + f → insK ls x f i = row
  | 0, i, hi, hf => by show i = row; omega
  | f + 1, i, hi, hf => by
    unfold insK
    by_cases e : i = row
    · subst e
      rw [if_neg]
      rintro ⟨a, b⟩
      rcases h2 with h | h
      · omega
      · exact h b
    · rw [if_pos ⟨by omega, h1 i (by omega)⟩]
      exact insK_is hr h1 h2 f (i + 1) (by omega) (by omega)
theorem ins_is {ls : List (List Int)} {x : Int} {out : List (List Int)} {row : Nat} (h : InsIs ls x out row) : insRow ls x = row ∧ insOut ls x = out := by
  have e : insRow ls x = row := by
    rcases h with ⟨a, b, c, _⟩ | ⟨a, b, _⟩
    · exact insK_is (by omega) b (.inr c) ls.length 0 (by omega) (by omega)
    · exact insK_is (by omega) b (.inl a) ls.length 0 (by omega) (by omega)
  refine ⟨e, ?_⟩
  unfold insOut
  rw [e]
  rcases h with ⟨a, b, c, d⟩ | ⟨a, b, d⟩
  · rw [if_pos a, d]
  · rw [if_neg (by omega), d]
theorem OwnLE.cellAt {E : Nat → Sv} {w : World} {lo hi g n c : Nat} {ls : List (List Int)} (h : OwnLE E w lo hi (some ⟨g, 0, none⟩) n c ls) {k : Nat} (hk : k < n) : w.cell? ⟨g, k, none⟩ = some (sv (E k)) := by
  rw [h.2.1.cellAt k (by omega), heads_get _ hk]
theorem OwnLE.place {E : Nat → Sv} {w : World} {lo hi n c : Nat} {A : Option Addr} {ls : List (List Int)} (h : OwnLE E w lo hi A n c ls) (hn : 0 < n) : ∃ g, A = some ⟨g, 0, none⟩ ∧ lo ≤ g ∧ g < hi :=
  OwnL.place ⟨E, h⟩ hn
theorem Own.row_lt' {w : World} {lo hi n c : Nat} {A : Option Addr} {xs : List Int} (h : Own w lo hi A n c xs) {g : Nat} (hg : rowB A = some g) : lo ≤ g ∧ g < hi := h.lt g (by rw [ownB]; exact hg)
theorem OwnLE.row_lt' {E : Nat → Sv} {w : World} {lo hi n c : Nat} {A : Option Addr} {ls : List (List Int)} (h : OwnLE E w lo hi A n c ls) {g : Nat} (hg : rowB A = some g) : lo ≤ g ∧ g < hi :=
  ⟨(h.2.1.lt g (by rw [ownB]; exact hg)).1, h.2.2.1 g (by rw [ownB]; exact hg)⟩
/-- One of the lists replaced: by one in the same block, or in a new one. -/
theorem OwnLE.repl {E : Nat → Sv} {w w2 : World} {lo hi g n c : Nat} {ls : List (List Int)} (h : OwnLE E w lo hi (some ⟨g, 0, none⟩) n c ls) {k : Nat} (hk : k < n) (hhi : hi ≤ w.heap.size) (hg : w.grownBy w2 (rowB (E k).1)) {A2 : Option Addr} {n2 c2 : Nat} {ys : List Int}
    (hx : Own w2 lo w2.heap.size A2 n2 c2 ys) (hat : rowB A2 = rowB (E k).1 ∨ ∃ q, rowB A2 = some q ∧ w.heap.size ≤ q) :
    OwnL (w2.setCell ⟨g, k, none⟩ (.slice A2 n2 c2)) lo w2.heap.size (some ⟨g, 0, none⟩) n c (ls.set k ys) ∧ w2.grownBy (w2.setCell ⟨g, k, none⟩ (.slice A2 n2 c2)) (some g) := by
  obtain ⟨hl, ho, hh, he, hne, hdd⟩ := h
  have hgl := hh g rfl
  have hs := hg.size
  have hrk : ∀ b, rowB (E k).1 = some b → (sv (E k)).ownBlock = some b := fun b hb => by unfold sv; rw [ownB]; exact hb
  have ho2 : w2.ownsRow lo 22 1 (.slice (some ⟨g, 0, none⟩) n c) n (heads n E) := ho.kept hg (.inr fun e => hne k g hk (hrk g e.symm) rfl)
  have he2 : ∀ j, j < n → j ≠ k → Own w2 lo hi (E j).1 (E j).2.1 (E j).2.2 (li ls j) := fun j hj hjk => (he j hj).kept hg (fun b hb e => by
    rcases Nat.lt_or_gt_of_ne hjk with h | h
    · exact hdd j k b h hk hb (hrk b e)
    · exact hdd k j b h hj (hrk b e) hb)
  have hA2g : ∀ b, (sv ((A2, n2, c2) : Sv)).ownBlock = some b → b ≠ g := fun b hb => by
    have hb' : rowB A2 = some b := by rw [← ownB A2 n2 c2]; exact hb
    rcases hat with e | ⟨q, e, hq⟩
    · intro h; subst h; exact hne k b hk (hrk b (e ▸ hb')) rfl
    · rw [e] at hb'; injection hb' with hb'; omega
  have hA2E : ∀ j b, j < n → j ≠ k → (sv ((A2, n2, c2) : Sv)).ownBlock = some b → (sv (E j)).ownBlock ≠ some b := fun j b hj hjk hb e2 => by
    have hb' : rowB A2 = some b := by rw [← ownB A2 n2 c2]; exact hb
    rcases hat with e | ⟨q, e, hq⟩
    · have h3 := hrk b (e ▸ hb')
      rcases Nat.lt_or_gt_of_ne hjk with h | h
      · exact hdd j k b h hk e2 h3
      · exact hdd k j b h hj h3 e2
    · rw [e] at hb'; injection hb' with hb'
      have := (he j hj).lt b e2
      omega
  obtain ⟨o1, gg⟩ := ho2.stored k (.slice A2 n2 c2)
  refine ⟨⟨fun j => if j = k then (A2, n2, c2) else E j, by simpa using hl, ?_, fun b hb => by have := hh b hb; omega, fun j hj => ?_, fun j b hj hb => ?_, fun i j b hij hj hb => ?_⟩, gg⟩
  · exact row1_eq o1 (heads_set E hk (A2, n2, c2))
  · dsimp only
    rw [li_set (by omega)]
    by_cases e : j = k
    · rw [if_pos e, if_pos e]
      exact hx.kept gg (fun b hb e2 => by injection e2 with e2; exact hA2g b hb e2.symm)
    · rw [if_neg e, if_neg e]
      exact ((he2 j hj e).kept gg (fun b hb e2 => hne j b hj hb e2)).wide (Nat.le_refl _) (by omega)
  · dsimp only at hb
    by_cases e : j = k
    · rw [if_pos e] at hb
      have := hA2g b hb
      intro e2; simp [Value.ownBlock] at e2; omega
    · rw [if_neg e] at hb
      exact hne j b hj hb
  · dsimp only at hb ⊢
    by_cases e : i = k
    · rw [if_pos e] at hb
      rw [if_neg (by omega)]
      exact hA2E j b hj (by omega) hb
    · rw [if_neg e] at hb
      by_cases e' : j = k
      · rw [if_pos e']
        intro e2
        exact hA2E i b (by omega) e e2 hb
      · rw [if_neg e']
        exact hdd i j b hij hj hb
end Go.Proofs.Ytfaegfhbbkicgaa
