/-
  Slices of slices of numbers: as they read, and as a call's own; a list more behind them; marks. Conditions: as each lemma says.
-/
import Derived.Test.YtfaegfhbbkicgaaTermMem
import Derived.Deep.AppendLies
namespace Go.Proofs.Ytfaegfhbbkicgaa
open Go.RowKit

def li (ls : List (List Int)) (k : Nat) : List Int := ls.getD k []
theorem li_get {ls : List (List Int)} {k : Nat} (h : k < ls.length) : li ls k = ls[k] := by simp [li, List.getD, h]
theorem li_app_lt {ls us : List (List Int)} {k : Nat} (h : k < ls.length) : li (ls ++ us) k = li ls k := by simp [li, List.getD, List.getElem?_append, h]
theorem li_app_at {ls : List (List Int)} {t : List Int} : li (ls ++ [t]) ls.length = t := by simp [li, List.getD]
theorem li_set {ls : List (List Int)} {k j : Nat} (hk : k < ls.length) (t : List Int) : li (ls.set k t) j = if j = k then t else li ls j := by
  unfold li
  rw [List.getD_eq_getElem?_getD, List.getD_eq_getElem?_getD, List.getElem?_set]
  by_cases e : k = j
  · subst e; simp [hk]
  · rw [if_neg e, if_neg (fun h => e h.symm)]
theorem li_ext {ls us : List (List Int)} (hl : ls.length = us.length) (h : ∀ j, j < ls.length → li ls j = li us j) : ls = us := by
  apply List.ext_getElem hl
  intro j h1 h2
  have := h j h1
  rwa [li_get h1, li_get h2] at this
/-- The slice (A, n, ..) reads as these lists. -/
def LS (w : World) (A : Option Addr) (n : Nat) (ls : List (List Int)) : Prop :=
  ls.length = n ∧ (0 < n → ∃ b o, A = some ⟨b, o, none⟩ ∧ b < w.heap.size ∧ ∀ k, k < n → ∃ A' n' c', w.cell? ⟨b, o + k, none⟩ = some (.slice A' n' c') ∧
    SI w A' n' (li ls k) ∧ n' ≤ c' ∧ (A' = none → n' = 0 ∧ c' = 0))
section
variable {w w' : World} {A : Option Addr} {n : Nat} {ls : List (List Int)}
theorem LS.nil (w : World) (A : Option Addr) : LS w A 0 [] := ⟨rfl, fun h => absurd h (by omega)⟩
theorem LS.at_ (h : LS w A n ls) {k : Nat} (hk : k < n) : ∃ b o A' n' c', A = some ⟨b, o, none⟩ ∧ b < w.heap.size ∧ w.cell? ⟨b, o + k, none⟩ = some (.slice A' n' c') ∧
    SI w A' n' (li ls k) ∧ n' ≤ c' ∧ (A' = none → n' = 0 ∧ c' = 0) := by
  obtain ⟨b, o, e, hb, hc⟩ := h.2 (by omega)
  obtain ⟨A', n', c', h1⟩ := hc k hk
  exact ⟨b, o, A', n', c', e, hb, h1⟩
theorem LS.below {B : Nat} (h : LS w A n ls) (hb : Below B w w') (hB : w.heap.size ≤ B) : LS w' A n ls := by
  refine ⟨h.1, fun hn => ?_⟩
  obtain ⟨b, o, e, hlt, hc⟩ := h.2 hn
  have hsz := hb.size
  refine ⟨b, o, e, by omega, fun k hk => ?_⟩
  obtain ⟨A', n', c', h1, h2, h3⟩ := hc k hk
  exact ⟨A', n', c', by rw [Below.cell hb (p := ⟨b, o + k, none⟩) (by show b < B; omega)]; exact h1, h2.below hb hB, h3⟩
theorem LS.drawn (h : LS w A n ls) (hd : Drawn w w') : LS w' A n ls := by obtain ⟨m, rfl⟩ := hd; exact h
end
/-- The cells of n lists. -/
def heads (n : Nat) (E : Nat → Sv) : List Value := (List.range n).map fun k => sv (E k)
theorem heads_len (n : Nat) (E : Nat → Sv) : (heads n E).length = n := by simp [heads]
theorem heads_get {n : Nat} (E : Nat → Sv) {k : Nat} (h : k < n) : (heads n E)[k]? = some (sv (E k)) := by simp [heads, h]
theorem heads_congr {n : Nat} {E F : Nat → Sv} (h : ∀ k, k < n → E k = F k) : heads n E = heads n F := by
  unfold heads
  apply List.map_congr_left
  intro k hk
  rw [h k (List.mem_range.1 hk)]
theorem heads_app (n : Nat) (E : Nat → Sv) (a : Sv) : heads n E ++ [sv a] = heads (n + 1) (fun j => if j = n then a else E j) := by
  unfold heads
  rw [List.range_succ, List.map_append]
  congr 1
  · apply List.map_congr_left
    intro k hk
    have := List.mem_range.1 hk
    show sv (E k) = sv (if k = n then a else E k)
    rw [if_neg (by omega)]
  · simp
theorem heads_set {n : Nat} (E : Nat → Sv) {k : Nat} (_h : k < n) (a : Sv) : (heads n E).set k (sv a) = heads n (fun j => if j = k then a else E j) := by
  apply List.ext_getElem?
  intro j
  rw [List.getElem?_set]
  by_cases hj : j < n
  · by_cases e : k = j
    · subst e; rw [if_pos rfl, heads_len, if_pos hj, heads_get _ hj, if_pos rfl]
    · rw [if_neg e, heads_get _ hj, heads_get _ hj, if_neg (fun h => e h.symm)]
  · have h1 : (heads n E)[j]? = none := List.getElem?_eq_none (by rw [heads_len]; omega)
    have h2 : (heads n (fun j => if j = k then a else E j))[j]? = none := List.getElem?_eq_none (by rw [heads_len]; omega)
    rw [h1, h2]
    by_cases e : k = j
    · subst e; rw [if_pos rfl, heads_len, if_neg hj]
    · rw [if_neg e]
/-- The blocks of the lists named. -/
def OwnLE (E : Nat → Sv) (w : World) (lo hi : Nat) (A : Option Addr) (n c : Nat) (ls : List (List Int)) : Prop :=
  ls.length = n ∧ w.ownsRow lo 22 1 (.slice A n c) n (heads n E) ∧ (∀ k, (Value.slice A n c).ownBlock = some k → k < hi) ∧
    (∀ j, j < n → Own w lo hi (E j).1 (E j).2.1 (E j).2.2 (li ls j)) ∧ (∀ j g, j < n → (sv (E j)).ownBlock = some g → (Value.slice A n c).ownBlock ≠ some g) ∧
    (∀ i j g, i < j → j < n → (sv (E i)).ownBlock = some g → (sv (E j)).ownBlock ≠ some g)
/-- The slice (A, n, c) holds these lists: its block, and a block a list, all the call's own between lo and hi, no two of them one. -/
def OwnL (w : World) (lo hi : Nat) (A : Option Addr) (n c : Nat) (ls : List (List Int)) : Prop := ∃ E, OwnLE E w lo hi A n c ls
section
variable {w w' : World} {lo hi n c : Nat} {A : Option Addr} {ls : List (List Int)} {E : Nat → Sv}
theorem OwnL.len (h : OwnL w lo hi A n c ls) : ls.length = n := by obtain ⟨_, h1, _⟩ := h; exact h1
theorem OwnL.nil (w : World) (lo hi : Nat) : OwnL w lo hi none 0 0 [] :=
  ⟨fun _ => (none, 0, 0), rfl, by simpa [heads] using World.ownsRow_nil _ _ _ _, fun k hk => by simp [Value.ownBlock] at hk, fun j hj => absurd hj (by omega), fun j g hj => absurd hj (by omega), fun i j g _ hj => absurd hj (by omega)⟩
theorem OwnL.empty (w : World) : OwnL (w.alloc (.cells #[] 22)) w.heap.size (w.heap.size + 1) (some ⟨w.heap.size, 0, none⟩) 0 0 [] :=
  ⟨fun _ => (none, 0, 0), rfl, World.ownsRow_lit w #[] 0 (Nat.le_refl _) (Nat.zero_le _) rfl, fun k hk => by simp [Value.ownBlock] at hk; omega, fun j hj => absurd hj (by omega), fun j g hj => absurd hj (by omega), fun i j g _ hj => absurd hj (by omega)⟩
theorem OwnL.place (h : OwnL w lo hi A n c ls) (hn : 0 < n) : ∃ g, A = some ⟨g, 0, none⟩ ∧ lo ≤ g ∧ g < hi := by
  obtain ⟨E, _, ho, hh, _⟩ := h
  obtain ⟨g, cap, e, h1, _⟩ := ho.form hn
  have hA : A = some ⟨g, 0, none⟩ := by injection e
  subst hA
  exact ⟨g, rfl, h1, hh g rfl⟩
theorem Own.nilcapL {xs : List Int} (h : Own w lo hi none n c xs) : n = 0 ∧ c = 0 := by
  rcases h.1.2 with ⟨e, h0⟩ | ⟨g, cap, cur, e, _⟩
  · injection e with _ _ e3; exact ⟨h0, e3⟩
  · injection e with e1; cases e1
theorem OwnL.si (h : OwnL w lo hi A n c ls) : LS w A n ls := by
  refine ⟨h.len, fun hn => ?_⟩
  obtain ⟨g, rfl, _, _⟩ := h.place hn
  obtain ⟨E, hl, ho, hh, he, _⟩ := h
  refine ⟨g, 0, rfl, ?_, fun k hk => ?_⟩
  · obtain ⟨g', cap, e, _, h2⟩ := ho.form hn
    injection e with e1; injection e1 with e1; injection e1 with e1
    subst e1; exact h2
  · refine ⟨(E k).1, (E k).2.1, (E k).2.2, ?_, (he k hk).si, (he k hk).cap, ?_⟩
    · rw [Nat.zero_add, ho.cellAt k (by omega), heads_get _ hk]; rfl
    · intro e
      have := he k hk
      rw [e] at this
      exact this.nilcapL
theorem OwnLE.below {B : Nat} (h : OwnLE E w lo hi A n c ls) (hb : Below B w w') (hB : hi ≤ B) : OwnLE E w' lo hi A n c ls := by
  obtain ⟨h1, h2, h3, h4, h5, h6⟩ := h
  refine ⟨h1, ⟨h2.1, ?_⟩, h3, fun j hj => (h4 j hj).below hb hB, h5, h6⟩
  rcases h2.2 with hn | ⟨g, cap, cur, e, hl, hg, rest⟩
  · exact .inl hn
  · have hlt := h3 g (by rw [e]; rfl)
    exact .inr ⟨g, cap, cur, e, hl, (hb.block g (by omega)).trans hg, rest⟩
theorem OwnL.below {B : Nat} (h : OwnL w lo hi A n c ls) (hb : Below B w w') (hB : hi ≤ B) : OwnL w' lo hi A n c ls := by
  obtain ⟨E, h⟩ := h
  exact ⟨E, h.below hb hB⟩
theorem OwnL.drawn (h : OwnL w lo hi A n c ls) (hd : Drawn w w') : OwnL w' lo hi A n c ls := h.below (hd.below hi) (Nat.le_refl _)
theorem OwnL.cap (h : OwnL w lo hi A n c ls) : n ≤ c := by
  obtain ⟨E, _, h2, _⟩ := h
  rcases h2.2 with ⟨e, h0⟩ | ⟨g, cap, cur, e, _, _, hc, _⟩
  · omega
  · injection e with _ _ e3; omega
theorem OwnL.wide {lo' hi' : Nat} (h : OwnL w lo hi A n c ls) (h1 : lo' ≤ lo) (h2 : hi ≤ hi') : OwnL w lo' hi' A n c ls := by
  obtain ⟨E, e1, e2, e3, e4, e5, e6⟩ := h
  refine ⟨E, e1, ⟨e2.1, ?_⟩, fun k hk => Nat.lt_of_lt_of_le (e3 k hk) h2, fun j hj => (e4 j hj).wide h1 h2, e5, e6⟩
  rcases e2.2 with hn | ⟨g, cap, cur, e, hl, rest⟩
  · exact .inl hn
  · exact .inr ⟨g, cap, cur, e, Nat.le_trans h1 hl, rest⟩
theorem OwnL.within {lo' hi' : Nat} (h : OwnL w lo hi A n c ls) (hw : Within lo' hi' w w') (hd : hi ≤ lo' ∨ hi' ≤ lo) : OwnL w' lo hi A n c ls := by
  obtain ⟨E, h1, h2, h3, h4, h5, h6⟩ := h
  refine ⟨E, h1, ⟨h2.1, ?_⟩, h3, fun j hj => (h4 j hj).within hw hd, h5, h6⟩
  rcases h2.2 with hn | ⟨g, cap, cur, e, hl, hg, rest⟩
  · exact .inl hn
  · have hlt := h3 g (by rw [e]; rfl)
    have hsz := (h2.lt g (by rw [e]; rfl)).2
    exact .inr ⟨g, cap, cur, e, hl, (hw.2.2.2.2 g hsz (by omega)).trans hg, rest⟩
/-- A list more behind them. -/
theorem OwnLE.app (h : OwnLE E w lo hi A n c ls) {lo2 hi2 n2 c2 : Nat} {A2 : Option Addr} {xs : List Int} (hx : Own w lo2 hi2 A2 n2 c2 xs)
    (hlo : lo ≤ lo2) (hd : hi ≤ lo2) {H g cap : Nat} (hH : hi2 ≤ H) (hHh : hi ≤ H) (hHw : H ≤ w.heap.size)
    (ho : w'.ownsRow lo 22 1 (.slice (some ⟨g, 0, none⟩) (n + 1) cap) (n + 1) (heads n E ++ [.slice A2 n2 c2]))
    (hg : w.grownBy w' (Value.slice A n c).ownBlock) (hat : (Value.slice A n c).ownBlock = some g ∨ H ≤ g) (hlt : g < w'.heap.size) : OwnL w' lo w'.heap.size (some ⟨g, 0, none⟩) (n + 1) cap (ls ++ [xs]) := by
  obtain ⟨h1, h2, h3, h4, h5, h6⟩ := h
  have hsz := hg.size
  have eh : heads n E ++ [Value.slice A2 n2 c2] = heads (n + 1) (fun j => if j = n then (A2, n2, c2) else E j) := heads_app n E (A2, n2, c2)
  rw [eh] at ho
  have eE : ∀ j, j < n → (if j = n then ((A2, n2, c2) : Sv) else E j) = E j := fun j hj => by rw [if_neg (by omega)]
  have eN : (if n = n then ((A2, n2, c2) : Sv) else E n) = (A2, n2, c2) := if_pos rfl
  refine ⟨fun j => if j = n then (A2, n2, c2) else E j, by simp [h1], ho, ?_, ?_, ?_, ?_⟩
  · intro k hk
    simp [Value.ownBlock] at hk
    omega
  · intro j hj
    by_cases e : j = n
    · subst e
      have := @li_app_at ls xs
      rw [h1] at this
      rw [this]
      show Own w' lo w'.heap.size (if j = j then ((A2, n2, c2) : Sv) else E j).1 (if j = j then ((A2, n2, c2) : Sv) else E j).2.1 (if j = j then ((A2, n2, c2) : Sv) else E j).2.2 xs
      rw [eN]
      exact (hx.kept hg (fun b hb e => by have h7 := hx.lt b hb; have h8 := h3 b e; omega)).wide hlo (by omega)
    · rw [li_app_lt (by rw [h1]; omega)]
      show Own w' lo w'.heap.size (if j = n then ((A2, n2, c2) : Sv) else E j).1 (if j = n then ((A2, n2, c2) : Sv) else E j).2.1 (if j = n then ((A2, n2, c2) : Sv) else E j).2.2 _
      rw [eE j (by omega)]
      exact ((h4 j (by omega)).kept hg (fun b hb e => h5 j b (by omega) hb e)).wide (Nat.le_refl _) (by omega)
  · intro j b hj hb e2
    have hbg : b = g := by simp [Value.ownBlock] at e2; omega
    subst hbg
    have hb' : (sv (if j = n then ((A2, n2, c2) : Sv) else E j)).ownBlock = some b := hb
    by_cases e : j = n
    · subst e
      rw [eN] at hb'
      have h7 := hx.lt b hb'
      rcases hat with ha | ha
      · have := h3 b ha; omega
      · omega
    · rw [eE j (by omega)] at hb'
      rcases hat with ha | ha
      · exact h5 j b (by omega) hb' ha
      · have := (h4 j (by omega)).lt b hb'; omega
  · intro i j b hij hj hb hb2
    have hb' : (sv (if i = n then ((A2, n2, c2) : Sv) else E i)).ownBlock = some b := hb
    have hb2' : (sv (if j = n then ((A2, n2, c2) : Sv) else E j)).ownBlock = some b := hb2
    rw [eE i (by omega)] at hb'
    by_cases e : j = n
    · subst e
      rw [eN] at hb2'
      have h7 := hx.lt b hb2'
      have h8 := (h4 i (by omega)).lt b hb'
      omega
    · rw [eE j (by omega)] at hb2'
      exact h6 i j b hij (by omega) hb' hb2'
/-- One of the lists, at its place: it may be turned. -/
theorem OwnL.item {g : Nat} (h : OwnL w lo hi (some ⟨g, 0, none⟩) n c ls) {k : Nat} (hk : k < n) :
    ∃ A' n' c', w.cell? ⟨g, k, none⟩ = some (.slice A' n' c') ∧ (∀ j, w.frozen? ⟨g, j, none⟩ = false) ∧ Own w lo hi A' n' c' (li ls k) ∧
      ∀ w' ys, Own w' lo hi A' n' c' ys → w.grownBy w' (Value.slice A' n' c').ownBlock → OwnL w' lo hi (some ⟨g, 0, none⟩) n c (ls.set k ys) := by
  obtain ⟨E, hl, ho, hh, he, hne, hdd⟩ := h
  refine ⟨(E k).1, (E k).2.1, (E k).2.2, ?_, fun j => ho.frozenAt j, he k hk, ?_⟩
  · rw [ho.cellAt k (by omega), heads_get _ hk]; rfl
  · intro w' ys hy hg
    refine ⟨E, by simpa using hl, ho.kept hg ?_, hh, fun j hj => ?_, hne, hdd⟩
    · cases hb : (Value.slice (E k).1 (E k).2.1 (E k).2.2).ownBlock with
      | none => right; intro e; cases e
      | some b => right; intro e; exact hne k b hk hb e
    · rw [li_set (by omega)]
      by_cases e : j = k
      · subst e; rw [if_pos rfl]; exact hy
      · rw [if_neg e]
        refine (he j hj).kept hg (fun b hb e2 => ?_)
        rcases Nat.lt_or_gt_of_ne e with h | h
        · exact hdd j k b h hk hb e2
        · exact hdd k j b h hj e2 hb
end
/-- What a call that makes a slice of lists hands back. -/
def FreshL (w w' : World) (e : Ending) (ls : List (List Int)) : Prop :=
  ∃ A n c, e = .returned (.slice A n c) ∧ OwnL w' w.heap.size w'.heap.size A n c ls ∧ Below w.heap.size w w'
theorem FreshL.nil_ret {w w' : World} (h : Below w.heap.size w w') : FreshL w w' (.returned (.slice none 0 0)) [] := ⟨none, 0, 0, rfl, OwnL.nil _ _ _, h⟩
end Go.Proofs.Ytfaegfhbbkicgaa
