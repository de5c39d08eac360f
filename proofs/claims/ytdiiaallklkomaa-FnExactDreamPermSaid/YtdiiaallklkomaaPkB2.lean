/-
  Texts Lists to DrmP, merged. Conditions: as each says.
-/
import Derived.Deep.AppendLies
import Derived.ProofKit
import Derived.OpenShut
import Derived.ChangeOld
import Derived.Deep.RegionHeld3
import Derived.ChangeMaps5
import Derived.Deep.Cut
import Derived.Shelf.SlSortCmp.WholeK
import Derived.Test.YtdiiaallklkomaaLayD
import Derived.Lib.SliceRun
import Derived.Shelf.SlSortCmp.NoneTotal
import Derived.Deep.SlicePairs
import Derived.Test.YtdiiaallklkomaaPkB1
/-
  Slices of slices of numbers: as they read, and as a call's own; a list more behind them; marks. Conditions: as each lemma says.
-/


namespace Go.Proofs.Ytdiiaallklkomaa
open Go.RowKit

def li (ls : List (List Int)) (k : Nat) : List Int := ls.getD k []
theorem li_get {ls : List (List Int)} {k : Nat} (h : k < ls.length) : li ls k = ls[k] := by simp [li, List.getD, h]
theorem li_app_lt {ls us : List (List Int)} {k : Nat} (h : k < ls.length) : li (ls ++ us) k = li ls k := by simp [li, List.getD, List.getElem?_append, h]
theorem li_app_at {ls : List (List Int)} {t : List Int} : li (ls ++ [t]) ls.length = t := by simp [li, List.getD]
theorem li_set {ls : List (List Int)} {k j : Nat} (hk : k < ls.length) (t : List Int) : li (ls.set k t) j = if j = k then t else li ls j := by
  unfold li
  rw [List.getD_eq_getElem?_getD, List.getD_eq_getElem?_getD, List.getElem?_set]
  by_cases e : k = j
  · subst e; simp [hk]
  · rw [if_neg e, if_neg (fun h => e h.symm)]
theorem li_ext {ls us : List (List Int)} (hl : ls.length = us.length) (h : ∀ j, j < ls.length → li ls j = li us j) : ls = us := by
  apply List.ext_getElem hl
  intro j h1 h2
  have := h j h1
  rwa [li_get h1, li_get h2] at this
/-- The slice (A, n, ..) reads as these lists. -/
def LS (w : World) (A : Option Addr) (n : Nat) (ls : List (List Int)) : Prop :=
  ls.length = n ∧ (0 < n → ∃ b o, A = some ⟨b, o, none⟩ ∧ b < w.heap.size ∧ ∀ k, k < n → ∃ A' n' c', w.cell? ⟨b, o + k, none⟩ = some (.slice A' n' c') ∧
    SI w A' n' (li ls k) ∧ n' ≤ c' ∧ (A' = none → n' = 0 ∧ c' = 0))
section
variable {w w' : World} {A : Option Addr} {n : Nat} {ls : List (List Int)}
theorem LS.nil (w : World) (A : Option Addr) : LS w A 0 [] := ⟨rfl, fun h => absurd h (by omega)⟩
theorem LS.at_ (h : LS w A n ls) {k : Nat} (hk : k < n) : ∃ b o A' n' c', A = some ⟨b, o, none⟩ ∧ b < w.heap.size ∧ w.cell? ⟨b, o + k, none⟩ = some (.slice A' n' c') ∧
    SI w A' n' (li ls k) ∧ n' ≤ c' ∧ (A' = none → n' = 0 ∧ c' = 0) := by
  obtain ⟨b, o, e, hb, hc⟩ := h.2 (by omega)
  obtain ⟨A', n', c', h1⟩ := hc k hk
  exact ⟨b, o, A', n', c', e, hb, h1⟩
theorem LS.below {B : Nat} (h : LS w A n ls) (hb : Below B w w') (hB : w.heap.size ≤ B) : LS w' A n ls := by
  refine ⟨h.1, fun hn => ?_⟩
  obtain ⟨b, o, e, hlt, hc⟩ := h.2 hn
  have hsz := hb.size
  refine ⟨b, o, e, by omega, fun k hk => ?_⟩
  obtain ⟨A', n', c', h1, h2, h3⟩ := hc k hk
  exact ⟨A', n', c', by rw [Below.cell hb (p := ⟨b, o + k, none⟩) (by show b < B; omega)]; exact h1, h2.below hb hB, h3⟩
theorem LS.drawn (h : LS w A n ls) (hd : Drawn w w') : LS w' A n ls := by obtain ⟨m, rfl⟩ := hd; exact h
end
/-- The cells of n lists. -/
def heads (n : Nat) (E : Nat → Sv) : List Value := (List.range n).map fun k => sv (E k)
theorem heads_len (n : Nat) (E : Nat → Sv) : (heads n E).length = n := by simp [heads]
theorem heads_get {n : Nat} (E : Nat → Sv) {k : Nat} (h : k < n) : (heads n E)[k]? = some (sv (E k)) := by simp [heads, h]
theorem heads_congr {n : Nat} {E F : Nat → Sv} (h : ∀ k, k < n → E k = F k) : heads n E = heads n F := by
  unfold heads
  apply List.map_congr_left
  intro k hk
  rw [h k (List.mem_range.1 hk)]
theorem heads_app (n : Nat) (E : Nat → Sv) (a : Sv) : heads n E ++ [sv a] = heads (n + 1) (fun j => if j = n then a else E j) := by
  unfold heads
  rw [List.range_succ, List.map_append]
  congr 1
  · apply List.map_congr_left
    intro k hk
    have := List.mem_range.1 hk
    show sv (E k) = sv (if k = n then a else E k)
    rw [if_neg (by omega)]
  · simp
theorem heads_set {n : Nat} (E : Nat → Sv) {k : Nat} (_h : k < n) (a : Sv) : (heads n E).set k (sv a) = heads n (fun j => if j = k then a else E j) := by
  apply List.ext_getElem?
  intro j
  rw [List.getElem?_set]
  by_cases hj : j < n
  · by_cases e : k = j
    · subst e; rw [if_pos rfl, heads_len, if_pos hj, heads_get _ hj, if_pos rfl]
    · rw [if_neg e, heads_get _ hj, heads_get _ hj, if_neg (fun h => e h.symm)]
  · have h1 : (heads n E)[j]? = none := List.getElem?_eq_none (by rw [heads_len]; omega)
    have h2 : (heads n (fun j => if j = k then a else E j))[j]? = none := List.getElem?_eq_none (by rw [heads_len]; omega)
    rw [h1, h2]
    by_cases e : k = j
    · subst e; rw [if_pos rfl, heads_len, if_neg hj]
    · rw [if_neg e]
/-- The blocks of the lists named. -/
def OwnLE (E : Nat → Sv) (w : World) (lo hi : Nat) (A : Option Addr) (n c : Nat) (ls : List (List Int)) : Prop :=
  ls.length = n ∧ w.ownsRow lo 22 1 (.slice A n c) n (heads n E) ∧ (∀ k, (Value.slice A n c).ownBlock = some k → k < hi) ∧
    (∀ j, j < n → Own w lo hi (E j).1 (E j).2.1 (E j).2.2 (li ls j)) ∧ (∀ j g, j < n → (sv (E j)).ownBlock = some g → (Value.slice A n c).ownBlock ≠ some g) ∧
    (∀ i j g, i < j → j < n → (sv (E i)).ownBlock = some g → (sv (E j)).ownBlock ≠ some g)
/-- The slice (A, n, c) holds these lists: its block, and a block a list, all the call's own between lo and hi, no two of them one. -/
def OwnL (w : World) (lo hi : Nat) (A : Option Addr) (n c : Nat) (ls : List (List Int)) : Prop := ∃ E, OwnLE E w lo hi A n c ls
section
variable {w w' : World} {lo hi n c : Nat} {A : Option Addr} {ls : List (List Int)} {E : Nat → Sv}
theorem OwnL.len (h : OwnL w lo hi A n c ls) : ls.length = n := by obtain ⟨_, h1, _⟩ := h; exact h1
theorem OwnL.nil (w : World) (lo hi : Nat) : OwnL w lo hi none 0 0 [] :=
  ⟨fun _ => (none, 0, 0), rfl, by simpa [heads] using World.ownsRow_nil _ _ _ _, fun k hk => by simp [Value.ownBlock] at hk, fun j hj => absurd hj (by omega), fun j g hj => absurd hj (by omega), fun i j g _ hj => absurd hj (by omega)⟩
theorem OwnL.empty (w : World) : OwnL (w.alloc (.cells #[] 22)) w.heap.size (w.heap.size + 1) (some ⟨w.heap.size, 0, none⟩) 0 0 [] :=
  ⟨fun _ => (none, 0, 0), rfl, World.ownsRow_lit w #[] 0 (Nat.le_refl _) (Nat.zero_le _) rfl, fun k hk => by simp [Value.ownBlock] at hk; omega, fun j hj => absurd hj (by omega), fun j g hj => absurd hj (by omega), fun i j g _ hj => absurd hj (by omega)⟩
theorem OwnL.place (h : OwnL w lo hi A n c ls) (hn : 0 < n) : ∃ g, A = some ⟨g, 0, none⟩ ∧ lo ≤ g ∧ g < hi := by
  obtain ⟨E, _, ho, hh, _⟩ := h
  obtain ⟨g, cap, e, h1, _⟩ := ho.form hn
  have hA : A = some ⟨g, 0, none⟩ := by injection e
  subst hA
  exact ⟨g, rfl, h1, hh g rfl⟩
theorem Own.nilcapL {xs : List Int} (h : Own w lo hi none n c xs) : n = 0 ∧ c = 0 := by
  rcases h.1.2 with ⟨e, h0⟩ | ⟨g, cap, cur, e, _⟩
  · injection e with _ _ e3; exact ⟨h0, e3⟩
  · injection e with e1; cases e1
theorem OwnL.si (h : OwnL w lo hi A n c ls) : LS w A n ls := by
  refine ⟨h.len, fun hn => ?_⟩
  obtain ⟨g, rfl, _, _⟩ := h.place hn
  obtain ⟨E, hl, ho, hh, he, _⟩ := h
  refine ⟨g, 0, rfl, ?_, fun k hk => ?_⟩
  · obtain ⟨g', cap, e, _, h2⟩ := ho.form hn
    injection e with e1; injection e1 with e1; injection e1 with e1
    subst e1; exact h2
  · refine ⟨(E k).1, (E k).2.1, (E k).2.2, ?_, (he k hk).si, (he k hk).cap, ?_⟩
    · rw [Nat.zero_add, ho.cellAt k (by omega), heads_get _ hk]; rfl
    · intro e
      have := he k hk
      rw [e] at this
      exact this.nilcapL
theorem OwnLE.below {B : Nat} (h : OwnLE E w lo hi A n c ls) (hb : Below B w w') (hB : hi ≤ B) : OwnLE E w' lo hi A n c ls := by
  obtain ⟨h1, h2, h3, h4, h5, h6⟩ := h
  refine ⟨h1, ⟨h2.1, ?_⟩, h3, fun j hj => (h4 j hj).below hb hB, h5, h6⟩
  rcases h2.2 with hn | ⟨g, cap, cur, e, hl, hg, rest⟩
  · exact .inl hn
  · have hlt := h3 g (by rw [e]; rfl)
    exact .inr ⟨g, cap, cur, e, hl, (hb.block g (by omega)).trans hg, rest⟩
theorem OwnL.below {B : Nat} (h : OwnL w lo hi A n c ls) (hb : Below B w w') (hB : hi ≤ B) : OwnL w' lo hi A n c ls := by
  obtain ⟨E, h⟩ := h
  exact ⟨E, h.below hb hB⟩
theorem OwnL.drawn (h : OwnL w lo hi A n c ls) (hd : Drawn w w') : OwnL w' lo hi A n c ls := h.below (hd.below hi) (Nat.le_refl _)
theorem OwnL.cap (h : OwnL w lo hi A n c ls) : n ≤ c := by
  obtain ⟨E, _, h2, _⟩ := h
  rcases h2.2 with ⟨e, h0⟩ | ⟨g, cap, cur, e, _, _, hc, _⟩
  · omega
  · injection e with _ _ e3; omega
theorem OwnL.wide {lo' hi' : Nat} (h : OwnL w lo hi A n c ls) (h1 : lo' ≤ lo) (h2 : hi ≤ hi') : OwnL w lo' hi' A n c ls := by
  obtain ⟨E, e1, e2, e3, e4, e5, e6⟩ := h
  refine ⟨E, e1, ⟨e2.1, ?_⟩, fun k hk => Nat.lt_of_lt_of_le (e3 k hk) h2, fun j hj => (e4 j hj).wide h1 h2, e5, e6⟩
  rcases e2.2 with hn | ⟨g, cap, cur, e, hl, rest⟩
  · exact .inl hn
  · exact .inr ⟨g, cap, cur, e, Nat.le_trans h1 hl, rest⟩
theorem OwnL.within {lo' hi' : Nat} (h : OwnL w lo hi A n c ls) (hw : Within lo' hi' w w') (hd : hi ≤ lo' ∨ hi' ≤ lo) : OwnL w' lo hi A n c ls := by
  obtain ⟨E, h1, h2, h3, h4, h5, h6⟩ := h
  refine ⟨E, h1, ⟨h2.1, ?_⟩, h3, fun j hj => (h4 j hj).within hw hd, h5, h6⟩
  rcases h2.2 with hn | ⟨g, cap, cur, e, hl, hg, rest⟩
  · exact .inl hn
  · have hlt := h3 g (by rw [e]; rfl)
    have hsz := (h2.lt g (by rw [e]; rfl)).2
    exact .inr ⟨g, cap, cur, e, hl, (hw.2.2.2.2 g hsz (by omega)).trans hg, rest⟩
/-- A list more behind them. -/
theorem OwnLE.app (h : OwnLE E w lo hi A n c ls) {lo2 hi2 n2 c2 : Nat} {A2 : Option Addr} {xs : List Int} (hx : Own w lo2 hi2 A2 n2 c2 xs)
    (hlo : lo ≤ lo2) (hd : hi ≤ lo2) {H g cap : Nat} (hH : hi2 ≤ H) (hHh : hi ≤ H) (hHw : H ≤ w.heap.size)
    (ho : w'.ownsRow lo 22 1 (.slice (some ⟨g, 0, none⟩) (n + 1) cap) (n + 1) (heads n E ++ [.slice A2 n2 c2]))
    (hg : w.grownBy w' (Value.slice A n c).ownBlock) (hat : (Value.slice A n c).ownBlock = some g ∨ H ≤ g) (hlt : g < w'.heap.size) : OwnL w' lo w'.heap.size (some ⟨g, 0, none⟩) (n + 1) cap (ls ++ [xs]) := by
  obtain ⟨h1, h2, h3, h4, h5, h6⟩ := h
  have hsz := hg.size
  have eh : heads n E ++ [Value.slice A2 n2 c2] = heads (n + 1) (fun j => if j = n then (A2, n2, c2) else E j) := heads_app n E (A2, n2, c2)
  rw [eh] at ho
  have eE : ∀ j, j < n → (if j = n then ((A2, n2, c2) : Sv) else E j) = E j := fun j hj => by rw [if_neg (by omega)]
  have eN : (if n = n then ((A2, n2, c2) : Sv) else E n) = (A2, n2, c2) := if_pos rfl
  refine ⟨fun j => if j = n then (A2, n2, c2) else E j, by simp [h1], ho, ?_, ?_, ?_, ?_⟩
  · intro k hk
    simp [Value.ownBlock] at hk
    omega
  · intro j hj
    by_cases e : j = n
    · subst e
      have := @li_app_at ls xs
      rw [h1] at this
      rw [this]
      show Own w' lo w'.heap.size (if j = j then ((A2, n2, c2) : Sv) else E j).1 (if j = j then ((A2, n2, c2) : Sv) else E j).2.1 (if j = j then ((A2, n2, c2) : Sv) else E j).2.2 xs
      rw [eN]
      exact (hx.kept hg (fun b hb e => by have h7 := hx.lt b hb; have h8 := h3 b e; omega)).wide hlo (by omega)
    · rw [li_app_lt (by rw [h1]; omega)]
      show Own w' lo w'.heap.size (if j = n then ((A2, n2, c2) : Sv) else E j).1 (if j = n then ((A2, n2, c2) : Sv) else E j).2.1 (if j = n then ((A2, n2, c2) : Sv) else E j).2.2 _
      rw [eE j (by omega)]
      exact ((h4 j (by omega)).kept hg (fun b hb e => h5 j b (by omega) hb e)).wide (Nat.le_refl _) (by omega)
  · intro j b hj hb e2
    have hbg : b = g := by simp [Value.ownBlock] at e2; omega
    subst hbg
    have hb' : (sv (if j = n then ((A2, n2, c2) : Sv) else E j)).ownBlock = some b := hb
    by_cases e : j = n
    · subst e
      rw [eN] at hb'
      have h7 := hx.lt b hb'
      rcases hat with ha | ha
      · have := h3 b ha; omega
      · omega
    · rw [eE j (by omega)] at hb'
      rcases hat with ha | ha
      · exact h5 j b (by omega) hb' ha
      · have := (h4 j (by omega)).lt b hb'; omega
  · intro i j b hij hj hb hb2
    have hb' : (sv (if i = n then ((A2, n2, c2) : Sv) else E i)).ownBlock = some b := hb
    have hb2' : (sv (if j = n then ((A2, n2, c2) : Sv) else E j)).ownBlock = some b := hb2
    rw [eE i (by omega)] at hb'
    by_cases e : j = n
    · subst e
      rw [eN] at hb2'
      have h7 := hx.lt b hb2'
      have h8 := (h4 i (by omega)).lt b hb'
      omega
    · rw [eE j (by omega)] at hb2'
      exact h6 i j b hij (by omega) hb' hb2'
/-- One of the lists, at its place: it may be turned. -/
theorem OwnL.item {g : Nat} (h : OwnL w lo hi (some ⟨g, 0, none⟩) n c ls) {k : Nat} (hk : k < n) :
    ∃ A' n' c', w.cell? ⟨g, k, none⟩ = some (.slice A' n' c') ∧ (∀ j, w.frozen? ⟨g, j, none⟩ = false) ∧ Own w lo hi A' n' c' (li ls k) ∧
      ∀ w' ys, Own w' lo hi A' n' c' ys → w.grownBy w' (Value.slice A' n' c').ownBlock → OwnL w' lo hi (some ⟨g, 0, none⟩) n c (ls.set k ys) := by
  obtain ⟨E, hl, ho, hh, he, hne, hdd⟩ := h
  refine ⟨(E k).1, (E k).2.1, (E k).2.2, ?_, fun j => ho.frozenAt j, he k hk, ?_⟩
  · rw [ho.cellAt k (by omega), heads_get _ hk]; rfl
  · intro w' ys hy hg
    refine ⟨E, by simpa using hl, ho.kept hg ?_, hh, fun j hj => ?_, hne, hdd⟩
    · cases hb : (Value.slice (E k).1 (E k).2.1 (E k).2.2).ownBlock with
      | none => right; intro e; cases e
      | some b => right; intro e; exact hne k b hk hb e
    · rw [li_set (by omega)]
      by_cases e : j = k
      · subst e; rw [if_pos rfl]; exact hy
      · rw [if_neg e]
        refine (he j hj).kept hg (fun b hb e2 => ?_)
        rcases Nat.lt_or_gt_of_ne e with h | h
        · exact hdd j k b h hk hb e2
        · exact hdd k j b h hj e2 hb
end
/-- What a call that makes a slice of lists hands back. -/
def FreshL (w w' : World) (e : Ending) (ls : List (List Int)) : Prop :=
  ∃ A n c, e = .returned (.slice A n c) ∧ OwnL w' w.heap.size w'.heap.size A n c ls ∧ Below w.heap.size w w'
theorem FreshL.nil_ret {w w' : World} (h : Below w.heap.size w w') : FreshL w w' (.returned (.slice none 0 0)) [] := ⟨none, 0, 0, rfl, OwnL.nil _ _ _, h⟩
end Go.Proofs.Ytdiiaallklkomaa

/-
  Lists of lists in ascending order without a list twice: two with the same members are one; a list put in. No conditions.
-/


namespace Go.Proofs.Ytdiiaallklkomaa
open Go.RowKit

theorem cmpL_self : ∀ xs : List Int, cmpL xs xs = 0
  | [] => rfl
  | x :: xs => by show (if x < x then -1 else if x < x then 1 else cmpL xs xs) = 0; rw [if_neg (by omega), if_neg (by omega)]; exact cmpL_self xs
theorem cmpL_swap : ∀ xs ys : List Int, cmpL ys xs = - cmpL xs ys
  | [], [] => rfl
  | [], _ :: _ => rfl
  | _ :: _, [] => rfl
  | x :: xs, y :: ys => by
    show (if y < x then -1 else if x < y then 1 else cmpL ys xs) = - (if x < y then -1 else if y < x then 1 else cmpL xs ys)
    by_cases h1 : x < y
    · rw [if_neg (by omega), if_pos h1, if_pos h1]; rfl
    · by_cases h2 : y < x
      · rw [if_pos h2, if_neg h1, if_pos h2]
      · rw [if_neg h2, if_neg h1, if_neg h1, if_neg h2]; exact cmpL_swap xs ys
theorem cmpL_eq : ∀ {xs ys : List Int}, cmpL xs ys = 0 → xs = ys
  | [], [], _ => rfl
  | [], _ :: _, h => by simp [cmpL] at h
  | _ :: _, [], h => by simp [cmpL] at h
  | x :: xs, y :: ys, h => by
    unfold cmpL at h
    by_cases h1 : x < y
    · rw [if_pos h1] at h; omega
    · by_cases h2 : y < x
      · rw [if_neg h1, if_pos h2] at h; omega
      · rw [if_neg h1, if_neg h2] at h
        rw [cmpL_eq h, show x = y by omega]
theorem cmpL_tr : ∀ {xs ys zs : List Int}, cmpL xs ys < 0 → cmpL ys zs < 0 → cmpL xs zs < 0
  | [], [], _, h, _ => by simp [cmpL] at h
  | [], _ :: _, [], _, h => by simp [cmpL] at h
  | [], _ :: _, _ :: _, _, _ => by simp [cmpL]
  | _ :: _, [], _, h, _ => by simp [cmpL] at h
  | _ :: _, _ :: _, [], _, h => by simp [cmpL] at h
  | x :: xs, y :: ys, z :: zs, h1, h2 => by
    unfold cmpL at h1 h2 ⊢
    by_cases a1 : x < y
    · by_cases b1 : y < z
      · rw [if_pos (by omega)]; omega
      · by_cases b2 : z < y
        · rw [if_neg b1, if_pos b2] at h2; omega
        · rw [if_pos (by omega)]; omega
    · by_cases a2 : y < x
      · rw [if_neg a1, if_pos a2] at h1; omega
      · rw [if_neg a1, if_neg a2] at h1
        by_cases b1 : y < z
        · rw [if_pos (by omega)]; omega
        · by_cases b2 : z < y
          · rw [if_neg b1, if_pos b2] at h2; omega
          · rw [if_neg b1, if_neg b2] at h2
            rw [if_neg (by omega), if_neg (by omega)]
            exact cmpL_tr h1 h2
theorem lessL_iff {xs ys : List Int} : lessL xs ys = true ↔ cmpL xs ys < 0 := by simp [lessL]
theorem lessL_nf {xs ys : List Int} : lessL xs ys = false ↔ 0 ≤ cmpL xs ys := by simp [lessL]
theorem lessL_irr (xs : List Int) : lessL xs xs = false := by rw [lessL_nf, cmpL_self]; exact Int.le_refl _
theorem lessL_tr {xs ys zs : List Int} (h1 : lessL xs ys = true) (h2 : lessL ys zs = true) : lessL xs zs = true := lessL_iff.2 (cmpL_tr (lessL_iff.1 h1) (lessL_iff.1 h2))
theorem lessL_tot {xs ys : List Int} (h1 : lessL xs ys = false) (hne : xs ≠ ys) : lessL ys xs = true := by
  rw [lessL_nf] at h1
  rw [lessL_iff, cmpL_swap xs ys]
  have : cmpL xs ys ≠ 0 := fun h => hne (cmpL_eq h)
  omega
/-- Strictly ascending. -/
def AscL (l : List (List Int)) : Prop := l.Pairwise fun a b => lessL a b = true
theorem AscL.nil : AscL [] := List.Pairwise.nil
theorem AscL.uniq : ∀ {l m : List (List Int)}, AscL l → AscL m → (∀ z, z ∈ l ↔ z ∈ m) → l = m
  | [], [], _, _, _ => rfl
  | [], y :: m, _, _, h => by have := (h y).2 (List.mem_cons_self ..); simp at this
  | x :: l, [], _, _, h => by have := (h x).1 (List.mem_cons_self ..); simp at this
  | x :: l, y :: m, hl, hm, h => by
    have h1 := List.pairwise_cons.1 hl
    have h2 := List.pairwise_cons.1 hm
    have e : x = y := by
      rcases List.mem_cons.1 ((h x).1 (List.mem_cons_self ..)) with e | e
      · exact e
      · rcases List.mem_cons.1 ((h y).2 (List.mem_cons_self ..)) with e' | e'
        · exact e'.symm
        · have a := h2.1 x e
          have b := h1.1 y e'
          have := lessL_tr a b
          rw [lessL_irr] at this; cases this
    subst e
    congr 1
    refine AscL.uniq h1.2 h2.2 fun z => ⟨fun hz => ?_, fun hz => ?_⟩
    · rcases List.mem_cons.1 ((h z).1 (List.mem_cons_of_mem _ hz)) with e | e
      · subst e; have := h1.1 _ hz; rw [lessL_irr] at this; cases this
      · exact e
    · rcases List.mem_cons.1 ((h z).2 (List.mem_cons_of_mem _ hz)) with e | e
      · subst e; have := h2.1 _ hz; rw [lessL_irr] at this; cases this
      · exact e
/-- What the library's sort leaves, where no list comes twice. -/
theorem AscL.sorted {us ts : List (List Int)} (hp : us.Perm ts) (hs : us.Pairwise fun a b => 0 ≤ cmpL b a) (hn : ts.Nodup) : AscL us := by
  have hnu : us.Nodup := hp.nodup_iff.2 hn
  refine (hs.and (List.nodup_iff_pairwise_ne.1 hnu)).imp fun {a b} h => ?_
  exact lessL_tot (lessL_nf.2 h.1) (fun e => h.2 e.symm)
/-- The place before which a list is put in. -/
def plcU (l : List (List Int)) (x : List Int) : Nat := (l.takeWhile fun y => lessL y x).length
theorem plcU_le (l : List (List Int)) (x : List Int) : plcU l x ≤ l.length := (List.takeWhile_sublist _).length_le
theorem plcU_is {x : List Int} : ∀ (l : List (List Int)) (k : Nat), k ≤ l.length → (∀ j, j < k → lessL (li l j) x = true) → (k = l.length ∨ lessL (li l k) x = false) → plcU l x = k
  | [], k, hk, _, _ => by
    have : k = 0 := by simpa using hk
    subst this; rfl
  | y :: r, 0, _, _, h2 => by
    rcases h2 with h | h
    · simp at h
    · have h' : lessL y x = false := h
      simp [plcU, h']
  | y :: r, k + 1, hk, h1, h2 => by
    have h0 : lessL y x = true := h1 0 (by omega)
    have ih := plcU_is r k (by simpa using hk) (fun j hj => h1 (j + 1) (by omega)) (by
      rcases h2 with h | h
      · exact .inl (by simpa using h)
      · exact .inr h)
    have e : plcU (y :: r) x = plcU r x + 1 := by simp [plcU, h0]
    rw [e, ih]
/-- A list put into an ascending list of lists, unless it is there. -/
def insU (l : List (List Int)) (x : List Int) : List (List Int) :=
  if plcU l x < l.length ∧ li l (plcU l x) = x then l else l.take (plcU l x) ++ x :: l.drop (plcU l x)
theorem insU_cons_lt {y x : List Int} {r : List (List Int)} (h : lessL y x = true) : insU (y :: r) x = y :: insU r x := by
  have e : plcU (y :: r) x = plcU r x + 1 := by simp [plcU, h]
  unfold insU
  rw [e]
  have e2 : li (y :: r) (plcU r x + 1) = li r (plcU r x) := rfl
  rw [e2]
  by_cases hc : plcU r x < r.length ∧ li r (plcU r x) = x
  · rw [if_pos hc, if_pos ⟨by simp; omega, hc.2⟩]
  · rw [if_neg hc, if_neg (fun h => hc ⟨by have := h.1; simp at this; omega, h.2⟩)]; rfl
theorem insU_cons_eq {x : List Int} {r : List (List Int)} : insU (x :: r) x = x :: r := by
  have e : plcU (x :: r) x = 0 := by simp [plcU, lessL_irr]
  unfold insU
  rw [e, if_pos ⟨by simp, rfl⟩]
theorem insU_cons_gt {y x : List Int} {r : List (List Int)} (h : lessL y x = false) (hne : y ≠ x) : insU (y :: r) x = x :: y :: r := by
  have e : plcU (y :: r) x = 0 := by simp [plcU, h]
  unfold insU
  rw [e, if_neg (fun hc => hne hc.2)]; rfl
theorem insU_mem {x z : List Int} : ∀ l : List (List Int), z ∈ insU l x ↔ z = x ∨ z ∈ l
  | [] => by simp [insU, plcU]
  | y :: r => by
    by_cases h : lessL y x = true
    · rw [insU_cons_lt h, List.mem_cons, insU_mem r, List.mem_cons]
      exact ⟨fun h => by rcases h with h | h | h <;> simp [h], fun h => by rcases h with h | h | h <;> simp [h]⟩
    · have hf : lessL y x = false := by simpa using h
      by_cases e : y = x
      · subst e; rw [insU_cons_eq]; simp
      · rw [insU_cons_gt hf e]; simp
theorem AscL.ins {x : List Int} : ∀ {l : List (List Int)}, AscL l → AscL (insU l x)
  | [], _ => by simp [insU, plcU, AscL]
  | y :: r, hl => by
    have h1 := List.pairwise_cons.1 hl
    by_cases h : lessL y x = true
    · rw [insU_cons_lt h]
      refine List.pairwise_cons.2 ⟨fun z hz => ?_, AscL.ins h1.2⟩
      rcases (insU_mem r).1 hz with e | e
      · subst e; exact h
      · exact h1.1 z e
    · have hf : lessL y x = false := by simpa using h
      by_cases e : y = x
      · subst e; rw [insU_cons_eq]; exact hl
      · rw [insU_cons_gt hf e]
        have hxy := lessL_tot hf e
        refine List.pairwise_cons.2 ⟨fun z hz => ?_, hl⟩
        rcases List.mem_cons.1 hz with e | e
        · subst e; exact hxy
        · exact lessL_tr hxy (h1.1 z e)
theorem insU_len (l : List (List Int)) (x : List Int) : (insU l x).length ≤ l.length + 1 := by
  have := plcU_le l x
  unfold insU
  split
  · omega
  · simp; omega
end Go.Proofs.Ytdiiaallklkomaa

/-
  The document's l6Reduce (rows wrapped around). Conditions: a shape, 1 <= k <= n <= 7.
-/





namespace Go.Proofs.Ytdiiaallklkomaa
open Go.RowKit

theorem Try.infoQP : (Try.prog.info? 24).map (·.size) = some 3 := by kernel_rfl
def FreshQ3 (w w' : World) (e : Ending) (p : Int) (ys : List Int) (s : Int) : Prop :=
  ∃ A n c, e = .returned (.agg #[.int .i64 p, .slice A n c, .int .i64 s]) ∧ Own w' w.heap.size w'.heap.size A n c ys ∧ Below w.heap.size w w'
theorem drewN_belowW {w wr : World} (h : Below w.heap.size w wr) (m : Nat) : Below w.heap.size w (wr.drewN m) := h.trans (((Drawn.refl wr).drewN m).below _)
theorem dupW_get {R : List Int} {k : Nat} (h : ¬ dupW R k) {a b : Nat} (hab : a < b) (hb : b < k) : nth R a ≠ nth R b := fun e => h ⟨a, b, hab, hb, e⟩

set_option maxRecDepth 100000 in
set_option maxHeartbeats 4000000 in
theorem l6Reduce_any (A : Option Addr) (m c k n : Nat) (xs : List Int) (w : World) (hs : SI w A m xs) (hp : isShapeP xs) (hk : 1 ≤ k) (hkn : k ≤ n) (hn : n ≤ 7) :
    Calls Try.prog 40 #[.slice A m c, .int .i64 k, .int .i64 n] w fun e w' =>
      (dupW (rW xs k n k) k ∧ FreshQ3 w w' e 0 [] 0) ∨ (¬ dupW (rW xs k n k) k ∧ FreshQ3 w w' e (qW xs k n k) ((shW (rW xs k n k) k n n).take (bareN (shW (rW xs k n k) k n n) (shW (rW xs k n k) k n n).length)) (sgW xs k n)) := by
  obtain ⟨d, hd⟩ : ∃ d : Int, d = n := ⟨_, rfl⟩
  rw [← hd]
  have HD := Lib.hid hd
  have hd0 : ¬ d = 0 := by omega
  have hd7 : 1 ≤ d ∧ d ≤ 7 := by omega
  have HP := Lib.hid hp
  have HK1 := Lib.hid hk
  have HKN := Lib.hid hkn
  have HN7 := Lib.hid hn
  have HM : Hid (m ≤ 16) := Lib.hid (by have := hp.1; have := hs.1; omega)
  obtain ⟨w1, hw1⟩ : ∃ w1, w1 = w.alloc (.cells #[.int .i64 0, .slice none 0 0, .int .i64 0] 24) := ⟨_, rfl⟩
  obtain ⟨g, hg⟩ : ∃ g, g = w.heap.size := ⟨_, rfl⟩
  have hkb : Blk w1 g 24 #[.int .i64 0, .slice none 0 0, .int .i64 0] := by rw [hw1, hg]; exact Blk.new _ _ _
  have hb : Below w.heap.size w w1 := by rw [hw1]; exact Below.alloc_self _ _
  have HB := Lib.hid hb
  have HSZ : Hid (w1.heap.size = g + 1) := Lib.hid (by rw [hw1, hg]; simp)
  have HW := Lib.hid hw1
  have HG := Lib.hid hg
  have HK := Lib.hid hkb
  have HS := Lib.hid hs
  have hk7 : k ≤ 7 := by omega
  clear hw1 hg hkb hb hs hp hd hkn hn
  go_enter Try.func40, Try.ntmps40
  go_upto_region 1 with fail
  rw [← HW.out, ← HG.out]
  obtain ⟨s1, hs1⟩ : ∃ s1, s1 = w1.heap.size := ⟨_, rfl⟩
  have HS1 := Lib.hid hs1
  clear hs1 HW
  go_upto_region 2 with fail
  obtain ⟨wz, hwz⟩ : ∃ wz, wz = w1.alloc (.cells #[] 3) := ⟨_, rfl⟩
  have HBz : Hid (Below s1 w1 wz) := Lib.hid (by rw [hwz]; exact (Below.refl _ _).alloc (Nat.le_of_eq HS1.out) _)
  have HOz : Hid (Own wz s1 wz.heap.size (some ⟨s1, 0, none⟩) 0 0 (rW xs k n 0)) := Lib.hid (by rw [hwz, HS1.out]; exact (Own.empty w1).wide (Nat.le_refl _) (by simp))
  rw [← hwz, ← HS1.out]
  clear hwz
  go_wp2_with fail
  go_loopw [7, 8, 9] (fun rv pv iv wr => ∃ (i : Nat) (A1 : Option Addr) (c1 : Nat), i ≤ k ∧ iv = .int .i64 i ∧ pv = .int .i64 (qW xs k n i) ∧ rv = .slice A1 i c1 ∧ Own wr s1 wr.heap.size A1 i c1 (rW xs k n i) ∧ Below s1 w1 wr)
    (fun _ _ iv _ => k - (intOf iv).toNat)
  case atStart => exact ⟨0, _, 0, Nat.zero_le _, rfl, rfl, rfl, HOz.out, HBz.out⟩
  case round =>
    obtain ⟨i, A1, c1, hi, rfl, rfl, rfl, ho, hb⟩ := hrel
    clear HOz HBz
    have HO := Lib.hid ho
    have HBR := Lib.hid hb
    clear ho hb
    by_cases hlt : i < k
    · have hlI : (i : Int) < (k : Int) := by omega
      have HLT := Lib.hid hlt
      have HAT := Lib.hid (l4At_any A m c xs i wr (HS.out.below (HB.out.trans (HBR.out.mono (by have := HS1.out; have := HB.out.size; omega))) (Nat.le_refl _)) (by have := HM.out; omega) (by omega))
      obtain ⟨x, hx⟩ : ∃ x, x = nth xs i := ⟨_, rfl⟩
      have hxr := shape_range HP.out i
      rw [← hx] at hxr HAT
      obtain ⟨E, hE⟩ : ∃ E, E = eW xs k i := ⟨_, rfl⟩
      have hEx : E = x + (k : Int) - 1 - (i : Int) := by rw [hE, hx]; rfl
      have hEr := eW_range HP.out hlt hk7
      rw [← hE] at hEr
      have hw1 : IntKind.i64.wrap (x + (k : Int)) = x + (k : Int) := IntWalk.i64_in _ (by omega)
      have hw2 : IntKind.i64.wrap (x + (k : Int) - 1) = x + (k : Int) - 1 := IntWalk.i64_in _ (by omega)
      have hw3 : IntKind.i64.wrap (x + (k : Int) - 1 - (i : Int)) = E := by rw [← hEx]; exact IntWalk.i64_in _ (by omega)
      obtain ⟨P, hP⟩ : ∃ P, P = qW xs k n i := ⟨_, rfl⟩
      have hPr := qW_range (n := n) HP.out hk7 (by have := HK1.out; have := HKN.out; omega) i (by omega)
      rw [← hP] at hPr ⊢
      obtain ⟨q, hq⟩ : ∃ q, q = E / d := ⟨_, rfl⟩
      obtain ⟨r, hr⟩ : ∃ r, r = E % d := ⟨_, rfl⟩
      have hq1 : E.tdiv d = q := by rw [hq]; exact Int.tdiv_eq_ediv_of_nonneg hEr.1
      have hr1 : E.tmod d = r := by rw [hr]; exact Int.tmod_eq_emod_of_nonneg hEr.1
      have hqr : 0 ≤ q ∧ q ≤ 22 := by
        have h1 : 0 ≤ E / d := Int.ediv_nonneg hEr.1 (by omega)
        have h2 : E / d ≤ E := Int.ediv_le_self _ hEr.1
        omega
      have hrr : 0 ≤ r ∧ r < d := by rw [hr]; exact ⟨Int.emod_nonneg _ hd0, Int.emod_lt_of_pos _ (by omega)⟩
      have hw4 : IntKind.i64.wrap (P + q) = P + q := IntWalk.i64_in _ (by omega)
      have hw5 : IntKind.i64.wrap q = q := IntWalk.i64_in _ (by omega)
      have hw6 : IntKind.i64.wrap r = r := IntWalk.i64_in _ (by omega)
      have HQN : Hid (P + q = qW xs k n (i + 1)) := Lib.hid (by rw [hP, hq, hE, HD.out]; rfl)
      have HRN : Hid (rW xs k n i ++ [r] = rW xs k n (i + 1)) := Lib.hid (by rw [hr, hE, HD.out]; rfl)
      clear hx hE hEx hEr hP hq hr hlt
      go_wp2_with (first
        | (go_at_call 77; (with_reducible refine HAT.out.mono ?_); rintro e w2 ⟨rfl, rfl⟩)
        | (at_builtin; refine wpList_append1 rfl (.tmp 36) (.tmp 40) rfl s1 A1 i c1 (rW xs k n i) r rfl rfl HO.out (Nat.le_trans (Nat.le_of_eq HS1.out) HBR.out.size) (by omega) ?_; intro A2 c2 w3 ho3 _ hb3; have HO3 := Lib.hid ho3; have HB3 := Lib.hid (HBR.out.trans hb3); clear ho3 hb3))
      go_roundw
      case rel => exact ⟨i + 1, A2, c2, HLT.out, by go_num, by rw [HQN.out], rfl, by rw [← HRN.out]; exact HO3.out, HB3.out⟩
      case measure => have := HLT.out; simp [intOf]; omega
    · have hlI : ¬ (i : Int) < (k : Int) := by omega
      obtain rfl : i = k := by omega
      obtain ⟨k, rfl⟩ : ∃ k, k = i := ⟨i, rfl⟩
      have hRr : ∀ a, a < k → 0 ≤ nth (rW xs k n k) a ∧ nth (rW xs k n k) a < (n : Int) := fun a ha => rW_range HP.out hk7 (by have := HK1.out; have := HKN.out; omega) (Nat.le_refl _) ha
      have HRR := Lib.hid hRr
      have hPr := qW_range (n := n) HP.out hk7 (by have := HK1.out; have := HKN.out; omega) k (Nat.le_refl _)
      have HPR := Lib.hid hPr
      have HSG : Hid (sgW xs k n = if (((k : Int) - 1) * qW xs k n k + (prO (rW xs k n k) k k : Int)) % 2 = 1 then -1 else 1) := Lib.hid rfl
      obtain ⟨P, hP⟩ : ∃ P, P = qW xs k n k := ⟨_, rfl⟩
      obtain ⟨R, hR⟩ : ∃ R, R = rW xs k n k := ⟨_, rfl⟩
      rw [← hP] at HPR HSG ⊢
      rw [← hR] at HO HRR HSG
      have HPE := Lib.hid hP
      have HRE := Lib.hid hR
      clear hRr hPr hP hR
      have HZS : Hid (s1 ≤ wr.heap.size) := Lib.hid (Nat.le_trans (Nat.le_of_eq HS1.out) HBR.out.size)
      obtain ⟨w2, hw2⟩ : ∃ w2, w2 = wr := ⟨_, rfl⟩
      rw [← hw2] at HO HBR HZS ⊢
      clear hw2 wr
      have hk0 := HK1.out
      obtain ⟨bA, oA, rfl, _⟩ := HO.out.si.at_ (show 0 < k by omega)
      have HCX : Hid (∀ u, Below w2.heap.size w2 u → ∀ a, a < k → u.cell? ⟨bA, oA + a, none⟩ = some (.int .i64 (nth R a))) := Lib.hid (fun u hu a ha => by
        obtain ⟨b', o', e, _, hc⟩ := (HO.out.si.below hu (Nat.le_refl _)).at_ (show 0 < k by omega)
        injection e with e; injection e with e1 e2
        subst e1; subst e2
        exact hc a ha)
      go_wp2_with fail
      go_loopw [11, 12] (fun pv iv wr => ∃ i : Nat, i ≤ k ∧ iv = .int .i64 i ∧ pv = .int .i64 (prO R k i : Int) ∧ (∀ a b, a < i → a < b → b < k → nth R a ≠ nth R b) ∧ Below w2.heap.size w2 wr)
        (fun _ iv _ => k - (intOf iv).toNat)
      case atStart => exact ⟨0, Nat.zero_le _, rfl, rfl, fun a b ha => absurd ha (by omega), Below.refl _ _⟩
      case round =>
        obtain ⟨i, hi, rfl, rfl, hne, hb⟩ := hrel
        have HNE := Lib.hid hne
        have HB2 := Lib.hid hb
        clear hne hb
        by_cases hlt : i < k
        · have hlI : (i : Int) < (k : Int) := by omega
          have HLT := Lib.hid hlt
          go_wp2_with fail
          go_loopw [11, 13] (fun pv jv wr => ∃ t j : Nat, j = i + 1 + t ∧ j ≤ k ∧ jv = .int .i64 j ∧ pv = .int .i64 ((prO R k i + prI R i t : Nat) : Int) ∧ (∀ b, i < b → b < j → nth R i ≠ nth R b) ∧ Below w2.heap.size w2 wr)
            (fun _ jv _ => k - (intOf jv).toNat)
          case atStart => exact ⟨0, i + 1, rfl, by have := HLT.out; omega, by go_num, rfl, fun b h1 h2 => absurd h1 (by omega), HB2.out⟩
          case round =>
            obtain ⟨t, j, hj, hjk, rfl, rfl, hni, hb⟩ := hrel
            clear HB2
            have HJ := Lib.hid hj
            have HNI := Lib.hid hni
            have HB2 := Lib.hid hb
            have HPL : Hid (prO R k i + prI R i t ≤ 100) := Lib.hid (by
              have h1 := prO_le R k i
              have h2 := prI_le R i t
              have h3 : i * k ≤ 7 * 7 := Nat.mul_le_mul (by have := HLT.out; omega) hk7
              omega)
            clear hni hb hj
            by_cases hjl : j < k
            · have hjI : (j : Int) < (k : Int) := by omega
              have HJL := Lib.hid hjl
              have hci := HCX.out _ HB2.out i HLT.out
              have hcj := HCX.out _ HB2.out j hjl
              have HCX2 := Lib.hid (fun (m : Nat) => And.intro (HCX.out _ (drewN_belowW HB2.out m) i HLT.out) (HCX.out _ (drewN_belowW HB2.out m) j HJL.out))
              obtain ⟨x, hx⟩ : ∃ x, x = nth R i := ⟨_, rfl⟩
              obtain ⟨y, hy⟩ : ∃ y, y = nth R j := ⟨_, rfl⟩
              rw [← hx] at hci HNI HCX2
              rw [← hy] at hcj HCX2
              have HX := Lib.hid hx
              have HY := Lib.hid hy
              obtain ⟨q, hq⟩ : ∃ q, q = prO R k i + prI R i t := ⟨_, rfl⟩
              rw [← hq] at HPL ⊢
              have HQ := Lib.hid hq
              have hq100 := HPL.out
              clear hx hy hq
              have hbi : oA + i = oA + i := rfl
              clear hbi
              have HBD : Hid (∀ m, Below s1 w1 (wr.drewN m)) := Lib.hid (fun m => HBR.out.trans ((drewN_belowW HB2.out m).mono HZS.out))
              by_cases hxy : x = y
              · have HXY := Lib.hid hxy
                subst hxy
                have HDUP : Hid (dupW R k) := Lib.hid ⟨i, j, by have := HJ.out; omega, HJL.out, by rw [← HX.out, ← HY.out]⟩
                go_wp2_with fail
                go_quiet (fail)
                have HKQ := Lib.hid (HK.out.below (HBD.out nq) (by have := HSZ.out; have := HS1.out; omega))
                go_wp2_with (refine wpList_store_rowP rfl 24 (.tmp 6) (.tmp 63) rfl g #[.int .i64 0, .slice none 0 0, .int .i64 0] rfl rfl 24 #[.int .i64 0, .slice none 0 0, .int .i64 0] HKQ.out Try.infoQP rfl (by simp [Value.oneCell']) ?_; intro w5 hb5 hg5)
                refine bodyPost_ret (results_rowP Try.results40 _ _ _ 24 #[.int .i64 0, .slice none 0 0, .int .i64 0] _ rfl hb5 Try.underlying24 rfl Try.infoQP) rfl ?_
                left
                have l2 := HG.out
                have l3 := hg5.size
                have l4 := HKQ.out.lt
                refine ⟨by rw [← HRE.out]; exact HDUP.out, none, 0, 0, rfl, Own.nil _ _ _, ?_⟩
                exact (HB.out.trans ((HBD.out nq).mono (by have := HSZ.out; have := HS1.out; omega))).grown hg5 (by omega) (by rintro z ⟨⟩; omega)
              · have hxb : (x == y) = false := by simpa using hxy
                have HXY := Lib.hid hxy
                clear hxy
                by_cases hlt2 : x < y
                · have HLX := Lib.hid hlt2
                  have HNX : Hid (q + 1 = prO R k i + prI R i (t + 1)) := Lib.hid (by
                    show q + 1 = prO R k i + (prI R i t + if nth R i < nth R (i + 1 + t) then 1 else 0)
                    rw [HQ.out]
                    rw [if_pos (by rw [← HJ.out, ← HX.out, ← HY.out]; exact HLX.out)]
                    omega)
                  go_wp2_with fail
                  go_quiet (fail)
                  go_wp2_with fail
                  have hci2 := (HCX2.out nq).1
                  have hcj2 := (HCX2.out nq).2
                  go_quiet (fail)
                  go_wp2_with fail
                  go_roundw
                  case rel => exact ⟨t + 1, j + 1, by have := HJ.out; omega, HJL.out, by go_num, by rw [← HNX.out]; go_num, fun b h1 h2 => by
                    by_cases e : b = j
                    · subst e; rw [← HX.out, ← HY.out]; exact HXY.out
                    · rw [← HX.out]; exact HNI.out b h1 (by omega), drewN_belowW HB2.out _⟩
                  case measure => have := HJL.out; simp [intOf]; omega
                · have HLX := Lib.hid hlt2
                  have HNX : Hid (q = prO R k i + prI R i (t + 1)) := Lib.hid (by
                    show q = prO R k i + (prI R i t + if nth R i < nth R (i + 1 + t) then 1 else 0)
                    rw [HQ.out]
                    rw [if_neg (by rw [← HJ.out, ← HX.out, ← HY.out]; exact HLX.out)]
                    rfl)
                  go_wp2_with fail
                  go_quiet (fail)
                  go_wp2_with fail
                  have hci2 := (HCX2.out nq).1
                  have hcj2 := (HCX2.out nq).2
                  go_quiet (fail)
                  go_wp2_with fail
                  go_roundw
                  case rel => exact ⟨t + 1, j + 1, by have := HJ.out; omega, HJL.out, by go_num, by rw [← HNX.out], fun b h1 h2 => by
                    by_cases e : b = j
                    · subst e; rw [← HX.out, ← HY.out]; exact HXY.out
                    · rw [← HX.out]; exact HNI.out b h1 (by omega), drewN_belowW HB2.out _⟩
                  case measure => have := HJL.out; simp [intOf]; omega
            · have hjI : ¬ (j : Int) < (k : Int) := by omega
              have HNX : Hid (prO R k i + prI R i t = prO R k (i + 1)) := Lib.hid (by
                show _ = prO R k i + prI R i (k - (i + 1))
                rw [show k - (i + 1) = t by have := HJ.out; have := HLT.out; omega])
              go_wp2
              go_roundw
              case rel => exact ⟨i + 1, HLT.out, by go_num, by rw [HNX.out], fun a b ha hab hb => by
                by_cases e : a = i
                · subst e; exact HNI.out b hab (by have := HJ.out; omega)
                · exact HNE.out a b (by omega) hab hb, HB2.out⟩
              case measure => have := HLT.out; simp [intOf]; omega
        · have hlI : ¬ (i : Int) < (k : Int) := by omega
          obtain rfl : i = k := by omega
          have HND : Hid (¬ dupW R i) := Lib.hid (fun ⟨a, b, h1, h2, h3⟩ => HNE.out a b (by omega) h1 h2 h3)
          have HO2 : Hid (Own wr s1 w2.heap.size (some ⟨bA, oA, none⟩) i c1 R) := Lib.hid (HO.out.below HB2.out (Nat.le_refl _))
          have HBQ : Hid (Below s1 w1 wr) := Lib.hid (HBR.out.trans (HB2.out.mono HZS.out))
          have HZ2 : Hid (w2.heap.size ≤ wr.heap.size) := Lib.hid HB2.out.size
          have hpo : prO R i i ≤ 49 := by have h1 := prO_le R i i; have h3 : i * i ≤ 7 * 7 := Nat.mul_le_mul hk7 hk7; omega
          have HPO := Lib.hid hpo
          obtain ⟨k, rfl⟩ : ∃ k, k = i := ⟨i, rfl⟩
          clear hpo HNE
          obtain ⟨w4, rfl⟩ : ∃ w4, w4 = wr := ⟨wr, rfl⟩
          have hwd : IntKind.i64.wrap (d - 1) = d - 1 := IntWalk.i64_in _ (by omega)
          go_upto_region 21 with fail
          obtain ⟨w3, hw3⟩ : ∃ w3, w3 = w4.alloc (.cells #[] 3) := ⟨_, rfl⟩
          have HB3 : Hid (Below w4.heap.size w4 w3) := Lib.hid (by rw [hw3]; exact Below.alloc_self _ _)
          have HO3 : Hid (Own w3 w4.heap.size w3.heap.size (some ⟨w4.heap.size, 0, none⟩) 0 0 []) := Lib.hid (by rw [hw3]; exact (Own.empty w4).wide (Nat.le_refl _) (by simp))
          rw [← hw3]
          clear hw3
          go_wp2_with fail
          go_loopw [14, 15] (fun ov xv wq => ∃ (t : Nat) (A2 : Option Addr) (n2 c2 : Nat), t ≤ n ∧ xv = .int .i64 (d - 1 - (t : Int)) ∧ ov = .slice A2 n2 c2 ∧ A2 ≠ none ∧ Own wq w4.heap.size wq.heap.size A2 n2 c2 (shW R k n t) ∧ Below w4.heap.size w4 wq)
            (fun _ xv _ => (intOf xv + 1).toNat)
          case atStart => exact ⟨0, _, 0, 0, Nat.zero_le _, by go_num, rfl, by simp, HO3.out, HB3.out⟩
          case round =>
            obtain ⟨t, A2, n2, c2, ht, rfl, rfl, hA2, ho, hb⟩ := hrel
            clear HO3 HB3
            have HO3 := Lib.hid ho
            have HB3 := Lib.hid hb
            have HA2 := Lib.hid hA2
            have HTN := Lib.hid ht
            have HN2 : Hid ((shW R k n t).length = n2) := Lib.hid ho.len
            have HN27 : Hid (n2 ≤ 7) := Lib.hid (by have h1 := shW_len R k n t; have h2 := ho.len; have := HN7.out; omega)
            clear ho hb hA2
            have hn27 := HN27.out
            obtain ⟨X, hX⟩ : ∃ X, X = d - 1 - (t : Int) := ⟨_, rfl⟩
            have HX := Lib.hid hX
            have hXr : -1 ≤ X ∧ X ≤ 6 := by have := HD.out; omega
            rw [← hX]
            by_cases hge : 0 ≤ X
            · have htn : t < n := by have := HD.out; omega
              have HTL := Lib.hid htn
              have HH := Lib.hid (l1Has_any (some ⟨bA, oA, none⟩) k c1 R X _ ((HO2.out.below HB3.out HZ2.out).si) (by omega))
              have hwx : IntKind.i64.wrap (X - 1) = X - 1 := IntWalk.i64_in _ (by omega)
              have HXN : Hid (X - 1 = d - 1 - ((t + 1 : Nat) : Int)) := Lib.hid (by omega)
              have hw7 : IntKind.i64.wrap ((k : Int) - 1) = (k : Int) - 1 := IntWalk.i64_in _ (by omega)
              have hw8 : IntKind.i64.wrap ((k : Int) - 1 - (n2 : Int)) = (k : Int) - 1 - (n2 : Int) := IntWalk.i64_in _ (by omega)
              obtain ⟨Y, hY⟩ : ∃ Y, Y = X - ((k : Int) - 1 - (n2 : Int)) := ⟨_, rfl⟩
              have hw9 : IntKind.i64.wrap (X - ((k : Int) - 1 - (n2 : Int))) = Y := by rw [hY]; exact IntWalk.i64_in _ (by omega)
              have HXD : Hid ((n : Int) - 1 - (t : Int) = X) := Lib.hid (by have := HD.out; omega)
              have HYE := Lib.hid hY
              clear hX hY htn
              cases hhb : hasB R X with
              | true =>
                rw [hhb] at HH
                have HNX : Hid (shW R k n (t + 1) = shW R k n t ++ [Y]) := Lib.hid (by
                  show (if hasB R ((n : Int) - 1 - t) = true then _ else _) = _
                  rw [HXD.out, if_pos hhb, HN2.out, HYE.out])
                clear hhb
                go_wp2_with (first
                  | (go_at_call 78; (with_reducible refine HH.out.mono ?_); rintro e w5 ⟨rfl, hd5⟩; have HB5 := Lib.hid (HB3.out.trans ((hd5.below w4.heap.size))); have HO5 := Lib.hid ((HO3.out.below (hd5.below _) (Nat.le_refl _)).wide (Nat.le_refl _) (hd5.below w4.heap.size).size); clear hd5)
                  | (at_builtin; refine wpList_append1 rfl (.tmp 85) (.tmp 93) rfl w4.heap.size A2 n2 c2 (shW R k n t) Y rfl rfl HO5.out HB5.out.size (by omega) ?_; intro A6 c6 w6 ho6 _ hb6; have HO6 := Lib.hid ho6; have HB6 := Lib.hid (HB5.out.trans hb6); clear ho6 hb6))
                go_roundw
                case rel => exact ⟨t + 1, A6, n2 + 1, c6, HTL.out, by rw [HXN.out], rfl, (by obtain ⟨q, rfl, _⟩ := HO6.out.place (by omega); simp), by rw [HNX.out]; exact HO6.out, HB6.out⟩
                case measure => simp [intOf]; omega
              | false =>
                rw [hhb] at HH
                have HNX : Hid (shW R k n (t + 1) = shW R k n t) := Lib.hid (by
                  show (if hasB R ((n : Int) - 1 - t) = true then _ else _) = _
                  rw [HXD.out, if_neg (by rw [hhb]; decide)])
                clear hhb
                go_wp2_with (first
                  | (go_at_call 78; (with_reducible refine HH.out.mono ?_); rintro e w5 ⟨rfl, hd5⟩; have HB5 := Lib.hid (HB3.out.trans ((hd5.below w4.heap.size))); have HO5 := Lib.hid ((HO3.out.below (hd5.below _) (Nat.le_refl _)).wide (Nat.le_refl _) (hd5.below w4.heap.size).size); clear hd5))
                go_roundw
                case rel => exact ⟨t + 1, A2, n2, c2, HTL.out, by rw [HXN.out], rfl, HA2.out, by rw [HNX.out]; exact HO5.out, HB5.out⟩
                case measure => simp [intOf]; omega
            · have hgI : ¬ (0 : Int) ≤ X := hge
              obtain rfl : t = n := by have := HD.out; have := HX.out; omega
              obtain ⟨n, rfl⟩ : ∃ n, n = t := ⟨t, rfl⟩
              have HBARE := Lib.hid (l4Bare_any A2 n2 c2 (shW R k n n) _ HO3.out.si HO3.out.cap HA2.out (by omega))
              have HBW := Lib.hid (HBQ.out.trans (HB3.out.mono (by have := HZ2.out; have := HZS.out; omega)))
              obtain ⟨M, hM⟩ : ∃ M, M = ((k : Int) - 1) * P := ⟨_, rfl⟩
              have hpr := HPR.out
              have hMr : 0 ≤ M ∧ M ≤ 924 := by
                rw [hM]
                refine ⟨Int.mul_nonneg (by omega) hpr.1, ?_⟩
                have h1 : ((k : Int) - 1) * P ≤ 6 * 154 := Int.mul_le_mul (by omega) (by omega) hpr.1 (by omega)
                omega
              obtain ⟨o, ho⟩ : ∃ o, o = prO R k k := ⟨_, rfl⟩
              have hpo := HPO.out
              rw [← ho] at hpo HSG ⊢
              rw [← hM] at HSG
              obtain ⟨S, hS⟩ : ∃ S, S = M + (o : Int) := ⟨_, rfl⟩
              rw [← hS] at HSG
              have hwk1 : IntKind.i64.wrap ((k : Int) - 1) = (k : Int) - 1 := IntWalk.i64_in _ (by omega)
              have hwM : IntKind.i64.wrap (((k : Int) - 1) * P) = M := by rw [← hM]; exact IntWalk.i64_in _ (by omega)
              have hwS : IntKind.i64.wrap (M + (o : Int)) = S := by rw [← hS]; exact IntWalk.i64_in _ (by omega)
              obtain ⟨r, hr⟩ : ∃ r, r = S % 2 := ⟨_, rfl⟩
              have hrr : 0 ≤ r ∧ r < 2 := by omega
              have hr1 : S.tmod 2 = r := by rw [hr]; exact Int.tmod_eq_emod_of_nonneg (by omega)
              have hwr : IntKind.i64.wrap r = r := IntWalk.i64_in _ (by omega)
              rw [← hr] at HSG
              clear hM hS hr ho hX hXr
              by_cases hr2 : r = 1
              · have HR2 := Lib.hid hr2
                have hrb : (r == 1) = true := by simpa using hr2
                clear hr2
                go_wp2_with (first
                  | (go_at_call 79; (with_reducible refine HBARE.out.mono ?_); rintro e w6 ⟨A5, n5, c5, rfl, ho6, hb6⟩
                     have HO6 := Lib.hid ho6
                     have HB6 := Lib.hid hb6
                     have HBS6 : Hid (Below s1 w1 w6) := Lib.hid (HBW.out.trans (hb6.mono (by have := HBW.out.size; have := HS1.out; omega)))
                     have HK6 := Lib.hid (HK.out.below HBS6.out (by have := HSZ.out; have := HS1.out; omega))
                     clear ho6 hb6)
                  | (refine wpList_store_rowP rfl 24 (.tmp 6) (.tmp 107) rfl g #[.int .i64 P, .slice A5 n5 c5, .int .i64 (-1)] rfl rfl 24 #[.int .i64 0, .slice none 0 0, .int .i64 0] HK6.out Try.infoQP rfl (by simp [Value.oneCell']) ?_; intro w7 hb7 hg7))
                refine bodyPost_ret (results_rowP Try.results40 _ _ _ 24 #[.int .i64 P, .slice A5 n5 c5, .int .i64 (-1)] _ rfl hb7 Try.underlying24 rfl Try.infoQP) rfl ?_
                right
                have l1 := HSZ.out
                have l2 := HG.out
                have l3 := hg7.size
                have l4 := HBW.out.size
                have l5 := HS1.out
                have l6 := HB6.out.size
                rw [← HRE.out, ← HPE.out, HSG.out, if_pos HR2.out, HN2.out]
                refine ⟨HND.out, A5, n5, c5, rfl, ?_, ?_⟩
                · exact (HO6.out.grown hg7 (fun q hq => by injection hq with hq; omega)).wide (by omega) (by omega)
                · exact (HB.out.trans (HBS6.out.mono (by omega))).grown hg7 (by omega) (by rintro z ⟨⟩; omega)
              · have HR2 := Lib.hid hr2
                have hrb : (r == 1) = false := by simpa using hr2
                clear hr2
                go_wp2_with (first
                  | (go_at_call 79; (with_reducible refine HBARE.out.mono ?_); rintro e w6 ⟨A5, n5, c5, rfl, ho6, hb6⟩
                     have HO6 := Lib.hid ho6
                     have HB6 := Lib.hid hb6
                     have HBS6 : Hid (Below s1 w1 w6) := Lib.hid (HBW.out.trans (hb6.mono (by have := HBW.out.size; have := HS1.out; omega)))
                     have HK6 := Lib.hid (HK.out.below HBS6.out (by have := HSZ.out; have := HS1.out; omega))
                     clear ho6 hb6)
                  | (refine wpList_store_rowP rfl 24 (.tmp 6) (.tmp 107) rfl g #[.int .i64 P, .slice A5 n5 c5, .int .i64 1] rfl rfl 24 #[.int .i64 0, .slice none 0 0, .int .i64 0] HK6.out Try.infoQP rfl (by simp [Value.oneCell']) ?_; intro w7 hb7 hg7))
                refine bodyPost_ret (results_rowP Try.results40 _ _ _ 24 #[.int .i64 P, .slice A5 n5 c5, .int .i64 1] _ rfl hb7 Try.underlying24 rfl Try.infoQP) rfl ?_
                right
                have l1 := HSZ.out
                have l2 := HG.out
                have l3 := hg7.size
                have l4 := HBW.out.size
                have l5 := HS1.out
                have l6 := HB6.out.size
                rw [← HRE.out, ← HPE.out, HSG.out, if_neg HR2.out, HN2.out]
                refine ⟨HND.out, A5, n5, c5, rfl, ?_, ?_⟩
                · exact (HO6.out.grown hg7 (fun q hq => by injection hq with hq; omega)).wide (by omega) (by omega)
                · exact (HB.out.trans (HBS6.out.mono (by omega))).grown hg7 (by omega) (by rintro z ⟨⟩; omega)
end Go.Proofs.Ytdiiaallklkomaa

/-
  The document's WrapShape. Conditions: lengths below 2^40.
-/



namespace Go.Proofs.Ytdiiaallklkomaa
open Go.RowKit

theorem results_q3 {P : Program} {fn : Func} {p q : Tmp} {ty : TypeId} (h : fn.results = #[.cell p ty, .tmp q]) (tmps : Array Value) (w : World) (g : Nat) (t : TypeId) (cs : Array Value) (d : TypeDesc)
    (hp : tmps.getD p undef = .pointer (some ⟨g, 0, none⟩)) (hg : Blk w g t cs) (hu : P.underlying ty = some d) (hd : (match d with | .struct _ | .array _ _ => true | _ => false) = true) (hi : (P.info? ty).map (·.size) = some cs.size) :
    (results fn tmps).run P w = .ok (.tuple #[.agg cs, tmps.getD q undef]) w := by
  have hp' : tmps[p]?.getD undef = .pointer (some ⟨g, 0, none⟩) := by simpa using hp
  simp [results, h, hp', asAddr, run_loadVar_row w g t ty cs (0, 0) _ hg hu hd hi]
open Classical in
noncomputable def wrpG (xs : List Int) (a b : Int) : Bool := decide (isShapeB xs = true ∧ (1 ≤ b ∧ b ≤ 7) ∧ (1 ≤ a ∧ a ≤ b) ∧ (xs.length : Int) ≤ a ∧ ¬ dupW (rW xs a.toNat b.toNat a.toNat) a.toNat)
def wrpRow (xs : List Int) (k n : Nat) : List Int := (shW (rW xs k n k) k n n).take (bareN (shW (rW xs k n k) k n n) (shW (rW xs k n k) k n n).length)
noncomputable def wrpP (xs : List Int) (a b : Int) : Int := if wrpG xs a b = true then qW xs a.toNat b.toNat a.toNat else 0
noncomputable def wrpY (xs : List Int) (a b : Int) : List Int := if wrpG xs a b = true then wrpRow xs a.toNat b.toNat else []
noncomputable def wrpC (xs : List Int) (a b : Int) : Int := if wrpG xs a b = true then sgW xs a.toNat b.toNat else 0
theorem wrpG_iff {xs : List Int} {a b : Int} : wrpG xs a b = true ↔ isShapeB xs = true ∧ (1 ≤ b ∧ b ≤ 7) ∧ (1 ≤ a ∧ a ≤ b) ∧ (xs.length : Int) ≤ a ∧ ¬ dupW (rW xs a.toNat b.toNat a.toNat) a.toNat := by simp [wrpG]
theorem wrpG_false {xs : List Int} {a b : Int} (h : ¬ (isShapeB xs = true ∧ (1 ≤ b ∧ b ≤ 7) ∧ (1 ≤ a ∧ a ≤ b) ∧ (xs.length : Int) ≤ a ∧ ¬ dupW (rW xs a.toNat b.toNat a.toNat) a.toNat)) : wrpG xs a b = false := by
  cases e : wrpG xs a b with
  | false => rfl
  | true => exact absurd (wrpG_iff.1 e) h
theorem wrp_no {xs : List Int} {a b : Int} (h : wrpG xs a b = false) : wrpP xs a b = 0 ∧ wrpY xs a b = [] ∧ wrpC xs a b = 0 := by
  have h' : ¬ wrpG xs a b = true := by rw [h]; decide
  exact ⟨if_neg h', if_neg h', if_neg h'⟩
theorem wrp_yes {xs : List Int} {k n : Nat} (h : wrpG xs k n = true) : wrpP xs k n = qW xs k n k ∧ wrpY xs k n = wrpRow xs k n ∧ wrpC xs k n = sgW xs k n := ⟨if_pos h, if_pos h, if_pos h⟩
theorem sgW_ne (xs : List Int) (k n : Nat) : sgW xs k n = 1 ∨ sgW xs k n = -1 := by unfold sgW; split <;> simp
theorem wrp_cases {xs : List Int} {k n : Nat} {w w' : World} {e : Ending} (h1 : isShapeB xs = true) (h2 : 1 ≤ k ∧ k ≤ n ∧ n ≤ 7 ∧ xs.length ≤ k)
    (h : (dupW (rW xs k n k) k ∧ FreshQ3 w w' e 0 [] 0) ∨ (¬ dupW (rW xs k n k) k ∧ FreshQ3 w w' e (qW xs k n k) ((shW (rW xs k n k) k n n).take (bareN (shW (rW xs k n k) k n n) (shW (rW xs k n k) k n n).length)) (sgW xs k n))) :
    ∃ p ys s, FreshQ3 w w' e p ys s ∧ (wrpG xs k n = decide (s ≠ 0) ∧ p = wrpP xs k n ∧ ys = wrpY xs k n ∧ s = wrpC xs k n) := by
  rcases h with ⟨hd, hf⟩ | ⟨hd, hf⟩
  · have hn : wrpG xs k n = false := wrpG_false (fun h => h.2.2.2.2 hd)
    obtain ⟨e1, e2, e3⟩ := wrp_no hn
    exact ⟨0, [], 0, hf, by rw [hn]; rfl, e1.symm, e2.symm, e3.symm⟩
  · have hy : wrpG xs k n = true := wrpG_iff.2 ⟨h1, by omega, by omega, by omega, hd⟩
    obtain ⟨e1, e2, e3⟩ := wrp_yes hy
    refine ⟨_, _, _, hf, ?_, e1.symm, e2.symm, e3.symm⟩
    rw [hy]
    rcases sgW_ne xs k n with e | e <;> rw [e] <;> rfl
theorem Blk.put3 {w : World} {g : Nat} {t : TypeId} {a b c : Value} (h : Blk w g t #[a, b, c]) (a' b' c' : Value) : Blk (((w.setCell ⟨g, 0, none⟩ a').setCell ⟨g, 1, none⟩ b').setCell ⟨g, 2, none⟩ c') g t #[a', b', c'] := ((h.set_ 0 a').set_ 1 b').set_ 2 c'
theorem grown_put3 (w : World) (g : Nat) (a b c : Value) : w.grownBy (((w.setCell ⟨g, 0, none⟩ a).setCell ⟨g, 1, none⟩ b).setCell ⟨g, 2, none⟩ c) (some g) :=
  ((grown_setP w ⟨g, 0, none⟩ a).trans (grown_setP _ ⟨g, 1, none⟩ b)).trans (grown_setP _ ⟨g, 2, none⟩ c)
/-- What a call that makes a part with a power and a yes or no hands back. -/
def FreshQB (w w' : World) (e : Ending) (p : Int) (ys : List Int) (s : Int) (b : Bool) : Prop :=
  ∃ A n c, e = .returned (.tuple #[.agg #[.int .i64 p, .slice A n c, .int .i64 s], .bool b]) ∧ Own w' w.heap.size w'.heap.size A n c ys ∧ Below w.heap.size w w'

set_option maxRecDepth 100000 in
set_option maxHeartbeats 4000000 in
theorem specWrap_any (A : Option Addr) (m c : Nat) (xs : List Int) (a b : Int) (w : World) (hs : SI w A m xs) (_ : m ≤ c) (HM0 : m ≤ 1099511627776) :
    Calls Try.prog 9 #[.slice A m c, .int .i64 a, .int .i64 b] w fun e w' => FreshQB w w' e (wrpP xs a b) (wrpY xs a b) (wrpC xs a b) (wrpG xs a b) := by
  obtain ⟨w1, hw1⟩ : ∃ w1, w1 = w.alloc (.cells #[.int .i64 0, .slice none 0 0, .int .i64 0] 24) := ⟨_, rfl⟩
  obtain ⟨g, hg⟩ : ∃ g, g = w.heap.size := ⟨_, rfl⟩
  have hkb : Blk w1 g 24 #[.int .i64 0, .slice none 0 0, .int .i64 0] := by rw [hw1, hg]; exact Blk.new _ _ _
  have hb : Below w.heap.size w w1 := by rw [hw1]; exact Below.alloc_self _ _
  have HB := Lib.hid hb
  have HSZ : Hid (w1.heap.size = g + 1) := Lib.hid (by rw [hw1, hg]; simp)
  have HW := Lib.hid hw1
  have HG := Lib.hid hg
  have HK := Lib.hid hkb
  have HLX := Lib.hid hs.1
  have HS := Lib.hid (hs.below hb (Nat.le_refl _))
  have HSH := Lib.hid (specIsShape_any A m c xs w1 (hs.below hb (Nat.le_refl _)) HM0)
  clear hw1 hg hkb hb hs
  by_cases hsh : isShapeB xs = true
  · rw [hsh] at HSH
    have HPP := Lib.hid (isShapeB_P hsh)
    have HSHB := Lib.hid hsh
    clear hsh
    by_cases hb7 : 1 ≤ b ∧ b ≤ 7
    · have HI1 := Lib.hid (fun w => l1In_yes' hb7.1 hb7.2 w)
      have HB7 := Lib.hid hb7
      by_cases hak : 1 ≤ a ∧ a ≤ b
      · have HI2 := Lib.hid (fun w => l1In_yes' hak.1 hak.2 w)
        have HAK := Lib.hid hak
        by_cases hla : a < (m : Int)
        · have HNO : Hid (wrpG xs a b = false) := Lib.hid (wrpG_false (fun h => by have := h.2.2.2.1; have := HLX.out; omega))
          clear hb7 hak
          go_enter Try.func9, Try.ntmps9
          go_upto_region 1 with fail
          rw [← HW.out, ← HG.out]
          go_wp2_with (first
            | (go_at_call 38; (with_reducible refine HSH.out.mono ?_); rintro e w2 ⟨rfl, hd2⟩; have HB2 := Lib.hid (hd2.below w1.heap.size); clear hd2)
            | (go_at_call 39; (with_reducible refine (HI1.out _).mono ?_); rintro e w3 ⟨rfl, rfl⟩)
            | (go_at_call 39; (with_reducible refine (HI2.out _).mono ?_); rintro e w3 ⟨rfl, rfl⟩)
            | (have HKZ := Lib.hid (HK.out.below HB2.out (by have := HSZ.out; omega)); refine wpList_store_rowP rfl 24 (.tmp 6) (.tmp 29) rfl g #[.int .i64 0, .slice none 0 0, .int .i64 0] rfl rfl 24 #[.int .i64 0, .slice none 0 0, .int .i64 0] HKZ.out Try.infoQP rfl (by simp [Value.oneCell']) ?_; intro w9 hb9 hg9))
          refine bodyPost_ret (results_q3 Try.results9 _ _ _ 24 #[.int .i64 0, .slice none 0 0, .int .i64 0] _ rfl hb9 Try.underlying24 rfl Try.infoQP) rfl ?_
          obtain ⟨e1, e2, e3⟩ := wrp_no HNO.out
          rw [e1, e2, e3, HNO.out]
          refine ⟨none, 0, 0, rfl, Own.nil _ _ _, ?_⟩
          have l1 := HSZ.out; have l2 := HG.out; have l3 := HB2.out.size
          exact (HB.out.trans (HB2.out.mono (by omega))).grown hg9 (by omega) (by rintro z ⟨⟩; omega)
        · obtain ⟨k, rfl⟩ : ∃ k : Nat, a = k := ⟨a.toNat, by omega⟩
          obtain ⟨n, rfl⟩ : ∃ n : Nat, b = n := ⟨b.toNat, by omega⟩
          have HKN : Hid (1 ≤ k ∧ k ≤ n ∧ n ≤ 7 ∧ m ≤ k) := Lib.hid (by omega)
          have HRD := Lib.hid (fun w' (hb : Below w1.heap.size w1 w') => l6Reduce_any A m c k n xs w' (HS.out.below (hb.mono (by have := HB.out.size; omega)) (Nat.le_refl _)) HPP.out HKN.out.1 HKN.out.2.1 HKN.out.2.2.1)
          clear hb7 hak
          go_enter Try.func9, Try.ntmps9
          go_upto_region 1 with fail
          rw [← HW.out, ← HG.out]
          go_upto_region 4 with (first
            | (go_at_call 38; (with_reducible refine HSH.out.mono ?_); rintro e w2 ⟨rfl, hd2⟩; have HB2 := Lib.hid (hd2.below w1.heap.size); clear hd2)
            | (go_at_call 39; (with_reducible refine (HI1.out _).mono ?_); rintro e w3 ⟨rfl, rfl⟩)
            | (go_at_call 39; (with_reducible refine (HI2.out _).mono ?_); rintro e w3 ⟨rfl, rfl⟩)
            | (go_at_call 40; (with_reducible refine (HRD.out _ HB2.out).mono ?_); intro e w5 hre
               obtain ⟨p, ys, s, hfr, hca⟩ : ∃ p ys s, FreshQ3 w2 w5 e p ys s ∧ (wrpG xs k n = decide (s ≠ 0) ∧ p = wrpP xs k n ∧ ys = wrpY xs k n ∧ s = wrpC xs k n) := wrp_cases HSHB.out (by have := HKN.out; have := HLX.out; omega) hre
               obtain ⟨A5, n5, c5, rfl, ho5, hb5⟩ := hfr
               have HO5 := Lib.hid ho5
               have HB5 := Lib.hid (HB2.out.trans (hb5.mono HB2.out.size))
               have HCA := Lib.hid hca
               have HZ5 := Lib.hid hb5.size
               have HZ25 := Lib.hid HB2.out.size
               clear ho5 hb5 hca hre)
            | (refine wpList_store_rowP rfl 24 (.tmp 8) (.tmp 33) rfl w5.heap.size #[.int .i64 p, .slice A5 n5 c5, .int .i64 s] rfl rfl 24 #[.int .i64 0, .slice none 0 0, .int .i64 0] (Blk.new _ _ _) Try.infoQP rfl (by simp [Value.oneCell']) ?_
               intro w6 hb6 hg6
               have HK6 := Lib.hid hb6
               have HG6 := Lib.hid hg6
               clear hb6 hg6))
          obtain ⟨g8, hg8⟩ : ∃ g8, g8 = w5.heap.size := ⟨_, rfl⟩
          rw [← hg8] at HK6 HG6 ⊢
          have HG8 := Lib.hid hg8
          clear hg8
          have HB6 : Hid (Below w5.heap.size w5 w6) := Lib.hid (((Below.refl _ _).alloc (Nat.le_refl _) _).grown HG6.out (by simp) (by rintro z ⟨⟩; rw [HG8.out]; exact Nat.le_refl _))
          have HKG : Hid (Blk w6 g 24 #[.int .i64 0, .slice none 0 0, .int .i64 0]) := Lib.hid ((HK.out.below HB5.out (by have := HSZ.out; omega)).below HB6.out (by have := HSZ.out; have := HZ5.out; have := HZ25.out; omega))
          have r0 := HK6.out.cell 0
          have r1 := HK6.out.cell 1
          have r2 := HK6.out.cell 2
          have q0 := HKG.out.cell 0
          have q1 := HKG.out.cell 1
          have q2 := HKG.out.cell 2
          have f0 := HKG.out.frozen 0
          have f1 := HKG.out.frozen 1
          have f2 := HKG.out.frozen 2
          simp at r0 r1 r2 q0 q1 q2
          have hne : g8 ≠ g := by have := HSZ.out; have := HZ5.out; have := HZ25.out; have := HG8.out; omega
          have hne2 : g ≠ g8 := fun e => hne e.symm
          go_simp
          go_region
          obtain ⟨w8, hw8⟩ : ∃ w8, w8 = (((w6.setCell ⟨g, 0, none⟩ (.int .i64 p)).setCell ⟨g, 1, none⟩ (.slice A5 n5 c5)).setCell ⟨g, 2, none⟩ (.int .i64 s)) := ⟨_, rfl⟩
          have hk8 : Blk w8 g 24 #[.int .i64 p, .slice A5 n5 c5, .int .i64 s] := by rw [hw8]; exact HKG.out.put3 _ _ _
          have hg8 : w6.grownBy w8 (some g) := by rw [hw8]; exact grown_put3 _ _ _ _ _
          rw [← hw8]
          obtain ⟨w9, hw9⟩ : ∃ w9, w9 = w8.drew := ⟨_, rfl⟩
          have hd9 : Drawn w8 w9 := by rw [hw9]; exact ⟨1, rfl⟩
          have hb9 := hk8.below (hd9.below w8.heap.size) hk8.lt
          rw [← hw9]
          clear hw8 hw9 r0 r1 r2 q0 q1 q2 f0 f1 f2
          go_wp2
          refine bodyPost_ret (results_q3 Try.results9 _ _ _ 24 #[.int .i64 p, .slice A5 n5 c5, .int .i64 s] _ rfl hb9 Try.underlying24 rfl Try.infoQP) rfl ?_
          obtain ⟨e0, e1, e2, e3⟩ := HCA.out
          have l1 := HSZ.out
          have l2 := HG.out
          have l3 := HZ5.out
          have l4 := HZ25.out
          have l5 := HB6.out.size
          have l6 := hg8.size
          have l7 := (hd9.below w8.heap.size).size
          refine ⟨A5, n5, c5, ?_, ?_, ?_⟩
          · rw [← e1, ← e3, e0]
            congr 4
            by_cases hs0 : s = 0 <;> simp [hs0]
          · rw [← e2]
            have h1 := ((HO5.out.below HB6.out (Nat.le_refl _)).grown hg8 (fun q hq => by injection hq with hq; omega))
            exact (h1.below (hd9.below w5.heap.size) (Nat.le_refl _)).wide (by omega) (by omega)
          · have h1 := (HB.out.trans ((HB5.out.trans (HB6.out.mono (by omega))).mono (by omega))).grown hg8 (by omega) (by rintro z ⟨⟩; omega)
            exact h1.trans (hd9.below _)
      · have HNO : Hid (wrpG xs a b = false) := Lib.hid (wrpG_false (fun h => hak h.2.2.1))
        have HI2 := Lib.hid (fun w => l1In_no' (a := a) (lo := 1) (hi := b) (by omega) w)
        clear hb7 hak
        go_enter Try.func9, Try.ntmps9
        go_upto_region 1 with fail
        rw [← HW.out, ← HG.out]
        go_wp2_with (first
          | (go_at_call 38; (with_reducible refine HSH.out.mono ?_); rintro e w2 ⟨rfl, hd2⟩; have HB2 := Lib.hid (hd2.below w1.heap.size); clear hd2)
          | (go_at_call 39; (with_reducible refine (HI1.out _).mono ?_); rintro e w3 ⟨rfl, rfl⟩)
          | (go_at_call 39; (with_reducible refine (HI2.out _).mono ?_); rintro e w3 ⟨rfl, rfl⟩)
          | (have HKZ := Lib.hid (HK.out.below HB2.out (by have := HSZ.out; omega)); refine wpList_store_rowP rfl 24 (.tmp 6) (.tmp 29) rfl g #[.int .i64 0, .slice none 0 0, .int .i64 0] rfl rfl 24 #[.int .i64 0, .slice none 0 0, .int .i64 0] HKZ.out Try.infoQP rfl (by simp [Value.oneCell']) ?_; intro w9 hb9 hg9))
        refine bodyPost_ret (results_q3 Try.results9 _ _ _ 24 #[.int .i64 0, .slice none 0 0, .int .i64 0] _ rfl hb9 Try.underlying24 rfl Try.infoQP) rfl ?_
        obtain ⟨e1, e2, e3⟩ := wrp_no HNO.out
        rw [e1, e2, e3, HNO.out]
        refine ⟨none, 0, 0, rfl, Own.nil _ _ _, ?_⟩
        have l1 := HSZ.out; have l2 := HG.out; have l3 := HB2.out.size
        exact (HB.out.trans (HB2.out.mono (by omega))).grown hg9 (by omega) (by rintro z ⟨⟩; omega)
    · have HNO : Hid (wrpG xs a b = false) := Lib.hid (wrpG_false (fun h => hb7 h.2.1))
      have HI1 := Lib.hid (fun w => l1In_no' (a := b) (lo := 1) (hi := 7) (by omega) w)
      clear hb7
      go_enter Try.func9, Try.ntmps9
      go_upto_region 1 with fail
      rw [← HW.out, ← HG.out]
      go_wp2_with (first
        | (go_at_call 38; (with_reducible refine HSH.out.mono ?_); rintro e w2 ⟨rfl, hd2⟩; have HB2 := Lib.hid (hd2.below w1.heap.size); clear hd2)
        | (go_at_call 39; (with_reducible refine (HI1.out _).mono ?_); rintro e w3 ⟨rfl, rfl⟩)
        | (have HKZ := Lib.hid (HK.out.below HB2.out (by have := HSZ.out; omega)); refine wpList_store_rowP rfl 24 (.tmp 6) (.tmp 29) rfl g #[.int .i64 0, .slice none 0 0, .int .i64 0] rfl rfl 24 #[.int .i64 0, .slice none 0 0, .int .i64 0] HKZ.out Try.infoQP rfl (by simp [Value.oneCell']) ?_; intro w9 hb9 hg9))
      refine bodyPost_ret (results_q3 Try.results9 _ _ _ 24 #[.int .i64 0, .slice none 0 0, .int .i64 0] _ rfl hb9 Try.underlying24 rfl Try.infoQP) rfl ?_
      obtain ⟨e1, e2, e3⟩ := wrp_no HNO.out
      rw [e1, e2, e3, HNO.out]
      refine ⟨none, 0, 0, rfl, Own.nil _ _ _, ?_⟩
      have l1 := HSZ.out; have l2 := HG.out; have l3 := HB2.out.size
      exact (HB.out.trans (HB2.out.mono (by omega))).grown hg9 (by omega) (by rintro z ⟨⟩; omega)
  · have HNO : Hid (wrpG xs a b = false) := Lib.hid (wrpG_false (fun h => hsh h.1))
    rw [show isShapeB xs = false by simpa using hsh] at HSH
    clear hsh
    go_enter Try.func9, Try.ntmps9
    go_upto_region 1 with fail
    rw [← HW.out, ← HG.out]
    go_wp2_with (first
      | (go_at_call 38; (with_reducible refine HSH.out.mono ?_); rintro e w2 ⟨rfl, hd2⟩; have HB2 := Lib.hid (hd2.below w1.heap.size); clear hd2)
      | (have HKZ := Lib.hid (HK.out.below HB2.out (by have := HSZ.out; omega)); refine wpList_store_rowP rfl 24 (.tmp 6) (.tmp 29) rfl g #[.int .i64 0, .slice none 0 0, .int .i64 0] rfl rfl 24 #[.int .i64 0, .slice none 0 0, .int .i64 0] HKZ.out Try.infoQP rfl (by simp [Value.oneCell']) ?_; intro w9 hb9 hg9))
    refine bodyPost_ret (results_q3 Try.results9 _ _ _ 24 #[.int .i64 0, .slice none 0 0, .int .i64 0] _ rfl hb9 Try.underlying24 rfl Try.infoQP) rfl ?_
    obtain ⟨e1, e2, e3⟩ := wrp_no HNO.out
    rw [e1, e2, e3, HNO.out]
    refine ⟨none, 0, 0, rfl, Own.nil _ _ _, ?_⟩
    have l1 := HSZ.out; have l2 := HG.out; have l3 := HB2.out.size
    exact (HB.out.trans (HB2.out.mono (by omega))).grown hg9 (by omega) (by rintro z ⟨⟩; omega)
end Go.Proofs.Ytdiiaallklkomaa

/-
  The program's quantumRows.part. No conditions but those named.
-/




namespace Go.Proofs.Ytdiiaallklkomaa
open Go.RowKit

set_option maxRecDepth 100000 in
set_option maxHeartbeats 4000000 in
theorem part_any (P s : Int) (L : List Int) (w : World) (hL : L.length = 16) :
    Calls Try.prog 45 #[.agg (qaC P L), .int .i64 s] w fun e w' => ∃ q, q ≤ 16 ∧ (∀ j, j < q → 0 < nth L j) ∧ (q = 16 ∨ ¬ 0 < nth L q) ∧ FreshQ3 w w' e P (L.take q) s := by
  obtain ⟨w1, hw1⟩ : ∃ w1, w1 = (w.alloc (.cells (qaC P L) 59)).alloc (.cells #[.int .i64 0, .slice none 0 0, .int .i64 0] 24) := ⟨_, rfl⟩
  obtain ⟨g, hg⟩ : ∃ g, g = w.heap.size := ⟨_, rfl⟩
  have HG := Lib.hid hg
  have HB : Hid (Below w.heap.size w w1) := Lib.hid (by rw [hw1]; exact (Below.alloc_self _ _).alloc (by simp) _)
  have HSZ : Hid (w1.heap.size = g + 2) := Lib.hid (by rw [hw1, hg]; simp)
  have HKL : Hid (Blk w1 g 59 (qaC P L)) := Lib.hid (by rw [hw1, hg]; exact (Blk.new _ _ _).below (Below.alloc_self _ _) (by simp))
  have HKR : Hid (Blk w1 (g + 1) 24 #[.int .i64 0, .slice none 0 0, .int .i64 0]) := Lib.hid (by
    rw [hw1, hg, show w.heap.size + 1 = (w.alloc (.cells (qaC P L) 59)).heap.size by simp]
    exact Blk.new _ _ _)
  have HW := Lib.hid hw1
  have HLL := Lib.hid hL
  have HSH := Lib.hid (fun u => rowsShape_any L u hL)
  clear hw1 hg hL
  unfold qaC
  go_enter Try.func45, Try.ntmps45
  go_upto_region 1 with fail
  have hq : (#[Value.int .i64 P, .int .i64 (nth L 0), .int .i64 (nth L 1), .int .i64 (nth L 2), .int .i64 (nth L 3), .int .i64 (nth L 4), .int .i64 (nth L 5), .int .i64 (nth L 6), .int .i64 (nth L 7), .int .i64 (nth L 8), .int .i64 (nth L 9), .int .i64 (nth L 10), .int .i64 (nth L 11), .int .i64 (nth L 12), .int .i64 (nth L 13), .int .i64 (nth L 14), .int .i64 (nth L 15)] : Array Value) = qaC P L := rfl
  rw [hq, ← HW.out, ← HG.out]
  have hgl : g < w1.heap.size := by have := HSZ.out; omega
  obtain ⟨cs, hcs⟩ : ∃ cs : List Value, cs = (arrD L).toList := ⟨_, rfl⟩
  have HRG : Hid (∀ u, Blk u g 59 (qaC P L) → u.rangeAt g 1 cs) := Lib.hid (fun u hk => by
    have h := World.rangeAt_of_block hk 1 16
    have e : ((qaC P L).extract 1 (1 + 16)).toList = (arrD L).toList := by simp [qaC]
    rw [e, ← hcs] at h
    exact h)
  have hun := Try.undRows
  have hin : (Try.prog.info? 57).map (·.size) = some cs.length := by rw [hcs]; exact Try.infoRows
  have HS2 : Hid (∀ u, Calls Try.prog 83 #[.agg cs.toArray] u fun e w' => ∃ q, q ≤ 16 ∧ (∀ j, j < q → 0 < nth L j) ∧ (q = 16 ∨ ¬ 0 < nth L q) ∧ Fresh u w' e (L.take q)) := Lib.hid (fun u => by rw [hcs]; exact HSH.out u)
  have q0 : w1.cell? ⟨g, 0, none⟩ = some (.int .i64 P) := HKL.out.cell 0
  have q1 : w1.rangeAt g 1 cs := HRG.out w1 HKL.out
  clear hcs
  obtain ⟨g2, hg2⟩ : ∃ g2, g2 = g + 1 := ⟨_, rfl⟩
  rw [← hg2] at HKR ⊢
  have HG2 := Lib.hid hg2
  have n1 : ¬ g = g2 := by omega
  have n2 : ¬ g2 = g := by omega
  clear hg2
  go_region_held3 (fun w' => w'.cell? ⟨g, 0, none⟩ = some (.int .i64 P) ∧ w'.rangeAt g 1 cs)
    (first | go_keep | exact K4 | exact K5 _ _ _)
    ((refine (HS2.out w1.drew).mono ?_
      rintro r w4 ⟨q, hz1, hz2, hz3, A4, n4, c4, rfl, ho4, hb4⟩
      have k1 := HKL.out.below ((Below.refl w1.heap.size w1).drew.trans hb4) (by have := HSZ.out; omega)
      have k2 := HKR.out.below ((Below.refl w1.heap.size w1).drew.trans hb4) (by have := HSZ.out; have := HG2.out; omega)
      have K4 : w4.cell? ⟨g, 0, none⟩ = some (.int .i64 P) ∧ w4.rangeAt g 1 cs := ⟨k1.cell 0, HRG.out w4 k1⟩
      have K5 : ∀ a b c, (((w4.setCell ⟨g2, 0, none⟩ a).setCell ⟨g2, 1, none⟩ b).setCell ⟨g2, 2, none⟩ c).cell? ⟨g, 0, none⟩ = some (.int .i64 P) ∧ (((w4.setCell ⟨g2, 0, none⟩ a).setCell ⟨g2, 1, none⟩ b).setCell ⟨g2, 2, none⟩ c).rangeAt g 1 cs := fun a b c => by
        have h := k1.grown (grown_put3 w4 g2 a b c) (fun e => by injection e with e; omega)
        exact ⟨h.cell 0, HRG.out _ h⟩
      have hc5 : w4.cell? ⟨g2, 0, none⟩ = some (.int .i64 0) := k2.cell 0
      have hf5 := k2.frozen 0
      have hc6 : w4.cell? ⟨g2, 1, none⟩ = some (.slice none 0 0) := k2.cell 1
      have hf6 := k2.frozen 1
      have hc7 : w4.cell? ⟨g2, 2, none⟩ = some (.int .i64 0) := k2.cell 2
      have hf7 := k2.frozen 2
      have H2 := Lib.hid k2
      have HO4 := Lib.hid ho4
      have HB4 := Lib.hid (HB.out.trans (((Below.refl w1.heap.size w1).drew.trans hb4).mono HB.out.size))
      have HQ := Lib.hid (And.intro hz1 (And.intro hz2 hz3))
      clear k1 k2 ho4 hb4 hz1 hz2 hz3))
  go_wp2
  have R := H2.out.put3 (.int .i64 P) (.slice A4 n4 c4) (.int .i64 s)
  have G := grown_put3 w4 g2 (.int .i64 P) (.slice A4 n4 c4) (.int .i64 s)
  refine bodyPost_ret (results_rowP Try.results45 _ _ g2 24 #[.int .i64 P, .slice A4 n4 c4, .int .i64 s] _ rfl R Try.underlying24 rfl Try.infoQP) rfl ?_
  have l1 := HSZ.out
  have l2 := HG.out
  have l3 := HG2.out
  have l4 := HB4.out.size
  have l5 := H2.out.lt
  refine ⟨q, HQ.out.1, HQ.out.2.1, HQ.out.2.2, A4, n4, c4, rfl, ?_, HB4.out.grown G (by omega) (by rintro z ⟨⟩; omega)⟩
  have hh := HO4.out.lt
  exact (HO4.out.grown G (fun z hz => by injection hz with hz; have : w1.drew.heap.size = w1.heap.size := rfl; omega)).wide (by have : w1.drew.heap.size = w1.heap.size := rfl; omega) (by have := G.size; omega)
end Go.Proofs.Ytdiiaallklkomaa

/-
  The program's WrapShape. Conditions: lengths below 2^40.
-/



namespace Go.Proofs.Ytdiiaallklkomaa
open Go.RowKit

theorem has_nth {R : List Int} {x : Int} : hasB R x = true ↔ ∃ a, a < R.length ∧ nth R a = x := by
  unfold hasB
  rw [decide_eq_true_eq, List.mem_iff_getElem]
  exact ⟨fun ⟨a, h, e⟩ => ⟨a, h, by rw [nth_get h, e]⟩, fun ⟨a, h, e⟩ => ⟨a, h, by rw [← nth_get h, e]⟩⟩
theorem wrp_row {R : List Int} {k n q : Nat} (hl : R.length = k) (hr : ∀ a, a < R.length → 0 ≤ nth R a ∧ nth R a < (n : Int)) (hd : ¬ dupW R k) (hn : n ≤ 16) (hq : q ≤ 16) (hp : ∀ j, j < q → 0 < nth (rowL (sW R n k) n n) j) (he : q = 16 ∨ ¬ 0 < nth (rowL (sW R n k) n n) q) :
    (rowL (sW R n k) n n).take q = (shW R k n n).take (bareN (shW R k n n) (shW R k n n).length) := by
  have h1 : oneN (sW R n k) n = k := by
    rw [oneN_sW hr (Nat.le_refl _) k (by omega) (fun a b hab hb => dupW_get hd hab hb)]
    exact loW_all k (fun a ha => (hr a (by omega)).2)
  have hs : ∀ x, x < n → (hasB R (x : Int) = true ↔ nth (sW R n k) x ≠ 0) := fun x hx => by
    rw [has_nth]
    rcases sW_nth hr hx k (by omega) with ⟨e, h⟩ | ⟨e, a, h2, h3⟩
    · rw [e]
      exact ⟨fun ⟨a, h2, h3⟩ => absurd h3 (h a (by omega)), fun h => absurd rfl h⟩
    · rw [e]
      exact ⟨fun _ => by decide, fun _ => ⟨a, by omega, h3⟩⟩
  rw [sh_eq (sW_len R n k) h1 hs]
  exact cut_same hn hq hp he
set_option maxRecDepth 100000 in
set_option maxHeartbeats 4000000 in
theorem implWrap_any (A : Option Addr) (m c : Nat) (xs : List Int) (a b : Int) (w : World) (hs : SI w A m xs) (HM0 : m ≤ 1099511627776) :
    Calls Try.prog 11 #[.slice A m c, .int .i64 a, .int .i64 b] w fun e w' => FreshQB w w' e (wrpP xs a b) (wrpY xs a b) (wrpC xs a b) (wrpG xs a b) := by
  obtain ⟨w1, hw1⟩ : ∃ w1, w1 = w.alloc (.cells #[.int .i64 0, .slice none 0 0, .int .i64 0] 24) := ⟨_, rfl⟩
  obtain ⟨g, hg⟩ : ∃ g, g = w.heap.size := ⟨_, rfl⟩
  have hkb : Blk w1 g 24 #[.int .i64 0, .slice none 0 0, .int .i64 0] := by rw [hw1, hg]; exact Blk.new _ _ _
  have hb : Below w.heap.size w w1 := by rw [hw1]; exact Below.alloc_self _ _
  have HB := Lib.hid hb
  have HSZ : Hid (w1.heap.size = g + 1) := Lib.hid (by rw [hw1, hg]; simp)
  have HW := Lib.hid hw1
  have HG := Lib.hid hg
  have HK := Lib.hid hkb
  have HLX := Lib.hid hs.1
  have HS := Lib.hid (hs.below hb (Nat.le_refl _))
  have HSH := Lib.hid (implIsShape_any A m c xs w1 (hs.below hb (Nat.le_refl _)) HM0)
  have HBX := Lib.hid (fun w => isBox_any a b w)
  clear hw1 hg hkb hb hs
  by_cases hsh : isShapeB xs = true
  · rw [hsh] at HSH
    have HPP := Lib.hid (isShapeB_P hsh)
    have HSHB := Lib.hid hsh
    clear hsh
    by_cases hbx : 1 ≤ b ∧ b ≤ 7 ∧ 0 ≤ a ∧ a ≤ b
    · have HBD : Hid (decide (1 ≤ b ∧ b ≤ 7 ∧ 0 ≤ a ∧ a ≤ b) = true) := Lib.hid (decide_eq_true hbx)
      by_cases ha0 : a = 0
      · have HNO : Hid (wrpG xs a b = false) := Lib.hid (wrpG_false (fun h => by have := h.2.2.1; omega))
        clear hbx
        subst ha0
        go_enter Try.func11, Try.ntmps11
        go_upto_region 1 with fail
        rw [← HW.out, ← HG.out]
        go_wp2_with (first
          | (go_at_call 41; (with_reducible refine HSH.out.mono ?_); rintro e w2 ⟨rfl, hd2⟩; have HB2 := Lib.hid (hd2.below w1.heap.size); clear hd2)
          | (go_at_call 42; (with_reducible refine (HBX.out _).mono ?_); rintro e w3 ⟨rfl, rfl⟩; rw [HBD.out])
          | (have HKZ := Lib.hid (HK.out.below HB2.out (by have := HSZ.out; omega)); refine wpList_store_rowP rfl 24 (.tmp 6) (.tmp 30) rfl g #[.int .i64 0, .slice none 0 0, .int .i64 0] rfl rfl 24 #[.int .i64 0, .slice none 0 0, .int .i64 0] HKZ.out Try.infoQP rfl (by simp [Value.oneCell']) ?_; intro w9 hb9 hg9))
        refine bodyPost_ret (results_q3 Try.results11 _ _ _ 24 #[.int .i64 0, .slice none 0 0, .int .i64 0] _ rfl hb9 Try.underlying24 rfl Try.infoQP) rfl ?_
        obtain ⟨e1, e2, e3⟩ := wrp_no HNO.out
        rw [e1, e2, e3, HNO.out]
        refine ⟨none, 0, 0, rfl, Own.nil _ _ _, ?_⟩
        have l1 := HSZ.out; have l2 := HG.out; have l3 := HB2.out.size
        exact (HB.out.trans (HB2.out.mono (by omega))).grown hg9 (by omega) (by rintro z ⟨⟩; omega)
      · have hab : (a == 0) = false := by simpa using ha0
        by_cases hla : a < (m : Int)
        · have HNO : Hid (wrpG xs a b = false) := Lib.hid (wrpG_false (fun h => by have := h.2.2.2.1; have := HLX.out; omega))
          clear hbx
          go_enter Try.func11, Try.ntmps11
          go_upto_region 1 with fail
          rw [← HW.out, ← HG.out]
          go_wp2_with (first
            | (go_at_call 41; (with_reducible refine HSH.out.mono ?_); rintro e w2 ⟨rfl, hd2⟩; have HB2 := Lib.hid (hd2.below w1.heap.size); clear hd2)
            | (go_at_call 42; (with_reducible refine (HBX.out _).mono ?_); rintro e w3 ⟨rfl, rfl⟩; rw [HBD.out])
            | (have HKZ := Lib.hid (HK.out.below HB2.out (by have := HSZ.out; omega)); refine wpList_store_rowP rfl 24 (.tmp 6) (.tmp 30) rfl g #[.int .i64 0, .slice none 0 0, .int .i64 0] rfl rfl 24 #[.int .i64 0, .slice none 0 0, .int .i64 0] HKZ.out Try.infoQP rfl (by simp [Value.oneCell']) ?_; intro w9 hb9 hg9))
          refine bodyPost_ret (results_q3 Try.results11 _ _ _ 24 #[.int .i64 0, .slice none 0 0, .int .i64 0] _ rfl hb9 Try.underlying24 rfl Try.infoQP) rfl ?_
          obtain ⟨e1, e2, e3⟩ := wrp_no HNO.out
          rw [e1, e2, e3, HNO.out]
          refine ⟨none, 0, 0, rfl, Own.nil _ _ _, ?_⟩
          have l1 := HSZ.out; have l2 := HG.out; have l3 := HB2.out.size
          exact (HB.out.trans (HB2.out.mono (by omega))).grown hg9 (by omega) (by rintro z ⟨⟩; omega)
        · obtain ⟨k, rfl⟩ : ∃ k : Nat, a = k := ⟨a.toNat, by omega⟩
          obtain ⟨n, rfl⟩ : ∃ n : Nat, b = n := ⟨b.toNat, by omega⟩
          have HKN : Hid (1 ≤ k ∧ k ≤ n ∧ n ≤ 7 ∧ m ≤ k) := Lib.hid (by omega)
          have HRL := Lib.hid (fun w' (hb : Below w1.heap.size w1 w') => rowLengthsOf_any A m c xs w' (HS.out.below (hb.mono (by have := HB.out.size; omega)) (Nat.le_refl _)) (by have := HKN.out; omega))
          have HWR := Lib.hid (fun w' => wrapped_any k n xs w' HPP.out HKN.out.1 HKN.out.2.1 HKN.out.2.2.1)
          have hki : ¬ (k : Int) < (m : Int) := hla
          have hR : (rW xs k n k).length = k := rW_len _ _ _ _
          have HRR : Hid (∀ a, a < (rW xs k n k).length → 0 ≤ nth (rW xs k n k) a ∧ nth (rW xs k n k) a < (n : Int)) := Lib.hid (fun a ha => by rw [hR] at ha; exact rW_range HPP.out (by have := HKN.out; omega) (by have := HKN.out; omega) (Nat.le_refl _) ha)
          have HRK := Lib.hid hR
          clear hbx hR
          by_cases hdup : dupW (rW xs k n k) k
          · have HNO : Hid (wrpG xs k n = false) := Lib.hid (wrpG_false (fun h => h.2.2.2.2 hdup))
            have HDU := Lib.hid hdup
            clear hdup
            go_enter Try.func11, Try.ntmps11
            go_upto_region 1 with fail
            rw [← HW.out, ← HG.out]
            go_wp2_with (first
              | (go_at_call 41; (with_reducible refine HSH.out.mono ?_); rintro e w2 ⟨rfl, hd2⟩; have HB2 := Lib.hid (hd2.below w1.heap.size); clear hd2)
              | (go_at_call 42; (with_reducible refine (HBX.out _).mono ?_); rintro e w3 ⟨rfl, rfl⟩; rw [HBD.out])
              | (go_at_call 43; (with_reducible refine (HRL.out _ HB2.out).mono ?_); rintro e w4 ⟨rfl, hb4⟩; have HB4 := Lib.hid (HB2.out.trans (hb4.mono HB2.out.size)); clear hb4)
              | (go_at_call 44; (with_reducible refine (HWR.out _).mono ?_); intro e w5 ⟨hb5, hre⟩
                 obtain rfl : e = .returned (.tuple #[.agg Z17, .int .i64 0, .bool false]) := by
                   rcases hre with ⟨_, h⟩ | ⟨h, _⟩
                   · exact h
                   · exact absurd HDU.out h
                 have HB5 := Lib.hid (HB4.out.trans (hb5.mono HB4.out.size))
                 clear hb5 hre)
              | (refine wpList_store_rowP rfl 59 (.tmp 8) (.tmp 37) rfl w5.heap.size Z17 rfl rfl 59 Z17 (Blk.new _ _ _) Try.infoQZ rfl z17_one ?_
                 intro w6 hb6 hg6
                 have HB6 := Lib.hid (((Below.refl w5.heap.size w5).alloc (Nat.le_refl _) (.cells Z17 59)).grown hg6 (by simp) (by rintro z ⟨⟩; exact Nat.le_refl _))
                 have HB7 := Lib.hid (HB5.out.trans (HB6.out.mono HB5.out.size))
                 clear hb6 hg6)
              | (have HKZ := Lib.hid (HK.out.below HB7.out (by have := HSZ.out; omega)); refine wpList_store_rowP rfl 24 (.tmp 6) (.tmp 42) rfl g #[.int .i64 0, .slice none 0 0, .int .i64 0] rfl rfl 24 #[.int .i64 0, .slice none 0 0, .int .i64 0] HKZ.out Try.infoQP rfl (by simp [Value.oneCell']) ?_; intro w9 hb9 hg9))
            refine bodyPost_ret (results_q3 Try.results11 _ _ _ 24 #[.int .i64 0, .slice none 0 0, .int .i64 0] _ rfl hb9 Try.underlying24 rfl Try.infoQP) rfl ?_
            obtain ⟨e1, e2, e3⟩ := wrp_no HNO.out
            rw [e1, e2, e3, HNO.out]
            refine ⟨none, 0, 0, rfl, Own.nil _ _ _, ?_⟩
            have l1 := HSZ.out; have l2 := HG.out; have l3 := HB7.out.size
            exact (HB.out.trans (HB7.out.mono (by omega))).grown hg9 (by omega) (by rintro z ⟨⟩; omega)
          · have HDU := Lib.hid hdup
            have HYES : Hid (wrpG xs k n = true) := Lib.hid (wrpG_iff.2 ⟨HSHB.out, by have := HKN.out; omega, by have := HKN.out; omega, by have := HKN.out; have := HLX.out; omega, hdup⟩)
            clear hdup
            obtain ⟨P, hP⟩ : ∃ P, P = qW xs k n k := ⟨_, rfl⟩
            obtain ⟨s, hse⟩ : ∃ s, s = sgW xs k n := ⟨_, rfl⟩
            obtain ⟨L, hL⟩ : ∃ L, L = rowL (sW (rW xs k n k) n k) n n := ⟨_, rfl⟩
            have HLL : Hid (L.length = 16) := Lib.hid (by rw [hL]; exact rowL_len (Nat.le_refl _) (by have := HKN.out; omega))
            have HWR2 : Hid (∀ w', Calls Try.prog 44 #[arr16 (padN 16 xs), .int .i64 k, .int .i64 n] w' fun e w2 => Below w'.heap.size w' w2 ∧ e = .returned (.tuple #[.agg (qaC P L), .int .i64 s, .bool true])) := Lib.hid (fun w' => (HWR.out w').mono (by
              rintro e w2 ⟨h1, h2⟩
              refine ⟨h1, ?_⟩
              rcases h2 with ⟨h, _⟩ | ⟨_, h⟩
              · exact absurd h HDU.out
              · rw [hP, hse, hL]; exact h))
            have HPT := Lib.hid (fun w' => part_any P s L w' HLL.out)
            have HPE := Lib.hid hP
            have HSE := Lib.hid hse
            have HLE := Lib.hid hL
            clear hP hse hL
            go_enter Try.func11, Try.ntmps11
            go_upto_region 1 with fail
            rw [← HW.out, ← HG.out]
            go_wp2_with (first
              | (go_at_call 41; (with_reducible refine HSH.out.mono ?_); rintro e w2 ⟨rfl, hd2⟩; have HB2 := Lib.hid (hd2.below w1.heap.size); clear hd2)
              | (go_at_call 42; (with_reducible refine (HBX.out _).mono ?_); rintro e w3 ⟨rfl, rfl⟩; rw [HBD.out])
              | (go_at_call 43; (with_reducible refine (HRL.out _ HB2.out).mono ?_); rintro e w4 ⟨rfl, hb4⟩; have HB4 := Lib.hid (HB2.out.trans (hb4.mono HB2.out.size)); clear hb4)
              | (go_at_call 44; (with_reducible refine (HWR2.out _).mono ?_); rintro e w5 ⟨hb5, rfl⟩
                 have HB5 := Lib.hid (HB4.out.trans (hb5.mono HB4.out.size))
                 clear hb5)
              | (refine wpList_store_rowP rfl 59 (.tmp 8) (.tmp 37) rfl w5.heap.size (qaC P L) rfl rfl 59 Z17 (Blk.new _ _ _) (Try.infoQA P L) rfl (qaC_one P L) ?_
                 intro w6 hb6 hg6
                 have HK6 := Lib.hid hb6
                 have HB6 := Lib.hid (((Below.refl w5.heap.size w5).alloc (Nat.le_refl _) (.cells Z17 59)).grown hg6 (by simp) (by rintro z ⟨⟩; exact Nat.le_refl _))
                 have HB7 := Lib.hid (HB5.out.trans (HB6.out.mono HB5.out.size))
                 clear hb6 hg6)
              | (refine wpList_load_rowP rfl 59 (.tmp 8) rfl w5.heap.size rfl 59 (qaC P L) _ HK6.out Try.underlying59 rfl (Try.infoQA P L) ?_)
              | (go_at_call 45; (with_reducible refine (HPT.out _).mono ?_); rintro e w8 ⟨q, hq1, hq2, hq3, A8, n8, c8, rfl, ho8, hb8⟩
                 have HQ := Lib.hid (And.intro hq1 (And.intro hq2 hq3))
                 have HO8 := Lib.hid ho8
                 have HB8 := Lib.hid (HB7.out.trans (hb8.mono HB7.out.size))
                 have HK8 := Lib.hid (HK.out.below HB8.out (by have := HSZ.out; omega))
                 clear hq1 hq2 hq3 ho8 hb8)
              | (refine wpList_store_rowP rfl 24 (.tmp 6) (.tmp 45) rfl g #[.int .i64 P, .slice A8 n8 c8, .int .i64 s] rfl rfl 24 #[.int .i64 0, .slice none 0 0, .int .i64 0] HK8.out Try.infoQP rfl (by simp [Value.oneCell']) ?_; intro w9 hb9 hg9))
            refine bodyPost_ret (results_q3 Try.results11 _ _ _ 24 #[.int .i64 P, .slice A8 n8 c8, .int .i64 s] _ rfl hb9 Try.underlying24 rfl Try.infoQP) rfl ?_
            obtain ⟨e1, e2, e3⟩ := wrp_yes HYES.out
            have hrow : L.take q = wrpRow xs k n := by
              rw [HLE.out]
              have hq := HQ.out
              rw [HLE.out] at hq
              exact wrp_row HRK.out HRR.out HDU.out (by have := HKN.out; omega) hq.1 hq.2.1 (by have := hq.2.2; omega)
            have l1 := HSZ.out; have l2 := HG.out; have l3 := HB7.out.size; have l4 := HB8.out.size; have l5 := hg9.size
            rw [e1, e2, e3, HYES.out, ← HPE.out, ← HSE.out, ← hrow]
            refine ⟨A8, n8, c8, rfl, ?_, (HB.out.trans (HB8.out.mono (by omega))).grown hg9 (by omega) (by rintro z ⟨⟩; omega)⟩
            exact (HO8.out.grown hg9 (fun z hz => by injection hz with hz; omega)).wide (by omega) (by omega)
    · have HNO : Hid (wrpG xs a b = false) := Lib.hid (wrpG_false (fun h => hbx ⟨h.2.1.1, h.2.1.2, by have := h.2.2.1; omega, h.2.2.1.2⟩))
      have HBD : Hid (decide (1 ≤ b ∧ b ≤ 7 ∧ 0 ≤ a ∧ a ≤ b) = false) := Lib.hid (decide_eq_false hbx)
      clear hbx
      go_enter Try.func11, Try.ntmps11
      go_upto_region 1 with fail
      rw [← HW.out, ← HG.out]
      go_wp2_with (first
        | (go_at_call 41; (with_reducible refine HSH.out.mono ?_); rintro e w2 ⟨rfl, hd2⟩; have HB2 := Lib.hid (hd2.below w1.heap.size); clear hd2)
        | (go_at_call 42; (with_reducible refine (HBX.out _).mono ?_); rintro e w3 ⟨rfl, rfl⟩; rw [HBD.out])
        | (have HKZ := Lib.hid (HK.out.below HB2.out (by have := HSZ.out; omega)); refine wpList_store_rowP rfl 24 (.tmp 6) (.tmp 30) rfl g #[.int .i64 0, .slice none 0 0, .int .i64 0] rfl rfl 24 #[.int .i64 0, .slice none 0 0, .int .i64 0] HKZ.out Try.infoQP rfl (by simp [Value.oneCell']) ?_; intro w9 hb9 hg9))
      refine bodyPost_ret (results_q3 Try.results11 _ _ _ 24 #[.int .i64 0, .slice none 0 0, .int .i64 0] _ rfl hb9 Try.underlying24 rfl Try.infoQP) rfl ?_
      obtain ⟨e1, e2, e3⟩ := wrp_no HNO.out
      rw [e1, e2, e3, HNO.out]
      refine ⟨none, 0, 0, rfl, Own.nil _ _ _, ?_⟩
      have l1 := HSZ.out; have l2 := HG.out; have l3 := HB2.out.size
      exact (HB.out.trans (HB2.out.mono (by omega))).grown hg9 (by omega) (by rintro z ⟨⟩; omega)
  · have HNO : Hid (wrpG xs a b = false) := Lib.hid (wrpG_false (fun h => hsh h.1))
    rw [show isShapeB xs = false by simpa using hsh] at HSH
    clear hsh
    go_enter Try.func11, Try.ntmps11
    go_upto_region 1 with fail
    rw [← HW.out, ← HG.out]
    go_wp2_with (first
      | (go_at_call 41; (with_reducible refine HSH.out.mono ?_); rintro e w2 ⟨rfl, hd2⟩; have HB2 := Lib.hid (hd2.below w1.heap.size); clear hd2)
      | (have HKZ := Lib.hid (HK.out.below HB2.out (by have := HSZ.out; omega)); refine wpList_store_rowP rfl 24 (.tmp 6) (.tmp 30) rfl g #[.int .i64 0, .slice none 0 0, .int .i64 0] rfl rfl 24 #[.int .i64 0, .slice none 0 0, .int .i64 0] HKZ.out Try.infoQP rfl (by simp [Value.oneCell']) ?_; intro w9 hb9 hg9))
    refine bodyPost_ret (results_q3 Try.results11 _ _ _ 24 #[.int .i64 0, .slice none 0 0, .int .i64 0] _ rfl hb9 Try.underlying24 rfl Try.infoQP) rfl ?_
    obtain ⟨e1, e2, e3⟩ := wrp_no HNO.out
    rw [e1, e2, e3, HNO.out]
    refine ⟨none, 0, 0, rfl, Own.nil _ _ _, ?_⟩
    have l1 := HSZ.out; have l2 := HG.out; have l3 := HB2.out.size
    exact (HB.out.trans (HB2.out.mono (by omega))).grown hg9 (by omega) (by rintro z ⟨⟩; omega)
end Go.Proofs.Ytdiiaallklkomaa

/-
  A part with a power as a value: compared, marked, held; what WrapShape answers, by name. Conditions: lengths below 2^40.
-/


namespace Go.Proofs.Ytdiiaallklkomaa
open Go.RowKit

theorem cells3 {w : World} {g : Nat} {t : TypeId} {a b c : Value} (h : Blk w g t #[a, b, c]) : w.cell? ⟨g, 0, none⟩ = some a ∧ w.cell? ⟨g, 1, none⟩ = some b ∧ w.cell? ⟨g, 2, none⟩ = some c := ⟨h.cell 0, h.cell 1, h.cell 2⟩
set_option maxRecDepth 100000 in
set_option maxHeartbeats 1000000 in
theorem eqQPart_yes (p s : Int) (A B : Option Addr) (n k m d : Nat) (xs : List Int) (w : World) (h1 : SI w A n xs) (k1 : SI w B m xs) (hn : xs.length ≤ 1099511627776) :
    Calls Try.prog 12 #[.agg #[.int .i64 p, .slice A n k, .int .i64 s], .agg #[.int .i64 p, .slice B m d, .int .i64 s]] w fun e w' => e = .returned (.bool true) ∧ Below w.heap.size w w' := by
  obtain ⟨w1, hw1⟩ : ∃ w1, w1 = (w.alloc (.cells #[.int .i64 p, .slice A n k, .int .i64 s] 24)).alloc (.cells #[.int .i64 p, .slice B m d, .int .i64 s] 24) := ⟨_, rfl⟩
  obtain ⟨g, hg⟩ : ∃ g, g = w.heap.size := ⟨_, rfl⟩
  have hk : Blk w1 g 24 #[.int .i64 p, .slice A n k, .int .i64 s] := by rw [hw1, hg]; exact (Blk.new _ _ _).alloc _
  have hk2 : Blk w1 (g + 1) 24 #[.int .i64 p, .slice B m d, .int .i64 s] := by
    rw [hw1, hg]
    have := Blk.new (w.alloc (.cells #[.int .i64 p, .slice A n k, .int .i64 s] 24)) 24 #[.int .i64 p, .slice B m d, .int .i64 s]
    simpa using this
  have hb : Below w.heap.size w w1 := by rw [hw1]; go_grown
  have HB := Lib.hid hb
  have HW := Lib.hid hw1
  have HG := Lib.hid hg
  have HK0 := Lib.hid hk
  have HK1 := Lib.hid hk2
  have HS := Lib.hid (And.intro (h1.below hb (Nat.le_refl _)) (k1.below hb (Nat.le_refl _)))
  have HN := Lib.hid (show n ≤ 1099511627776 ∧ m ≤ 1099511627776 by have := h1.1; have := k1.1; omega)
  obtain ⟨q0, q1, q2⟩ := cells3 hk
  obtain ⟨r0, r1, r2⟩ := cells3 hk2
  clear hk hk2 hb hw1 hg h1 k1 hn
  go_enter Try.func12, Try.ntmps12
  go_upto_region 1 with fail
  rw [← HW.out, ← HG.out]
  go_wp2_with (first
    | (go_at_call 13
       (with_reducible refine (eqIntS_any _ _ _ _ _ _ xs xs _ HS.out.1 HS.out.2 HN.out.1 HN.out.2).mono ?_)
       rintro e w2 ⟨rfl, hd⟩
       rw [eqL_self]
       have HB2 := Lib.hid (hd.below w1.heap.size)
       clear hd q0 q1 q2 r0 r1 r2
       obtain ⟨q0, q1, q2⟩ := cells3 (HK0.out.below HB2.out HK0.out.lt)
       obtain ⟨r0, r1, r2⟩ := cells3 (HK1.out.below HB2.out HK1.out.lt)))
  go_ret
  exact ⟨rfl, HB.out.trans (HB2.out.mono HB.out.size)⟩
set_option maxHeartbeats 1000000 in
theorem markQPart_any (p s : Int) (A : Option Addr) (n k lo hi : Nat) (xs : List Int) (q : Int) (w : World) (ho : Own w lo hi A n k xs) (hhi : hi ≤ w.heap.size) (hn : n ≤ 1099511627776) (hq : 0 ≤ q) (hq' : q ≤ 1099511627776) :
    Calls Try.prog 15 #[.agg #[.int .i64 p, .slice A n k, .int .i64 s], .int .i64 q] w fun e w' => e = .returned (.int .i64 (q + n)) ∧ Own w' lo hi A n k (marks n q) ∧ Within lo hi w w' := by
  obtain ⟨w1, hw1⟩ : ∃ w1, w1 = w.alloc (.cells #[.int .i64 p, .slice A n k, .int .i64 s] 24) := ⟨_, rfl⟩
  obtain ⟨g, hg⟩ : ∃ g, g = w.heap.size := ⟨_, rfl⟩
  have hk : Blk w1 g 24 #[.int .i64 p, .slice A n k, .int .i64 s] := by rw [hw1, hg]; exact Blk.new _ _ _
  have hb : Below w.heap.size w w1 := by rw [hw1]; exact Below.alloc_self _ _
  have HIN : Hid (Within lo hi w w1) := Lib.hid (Within.of_below_ hb)
  have HW := Lib.hid hw1
  have HG := Lib.hid hg
  have HO := Lib.hid (ho.below hb (by omega))
  obtain ⟨q0, q1, q2⟩ := cells3 hk
  clear hk hb hw1 hg ho q0 q2
  go_enter Try.func15, Try.ntmps15
  go_upto_region 1 with fail
  rw [← HW.out, ← HG.out]
  go_wp2_with (first
    | (go_at_call 14
       (with_reducible refine (markIntS_any _ _ _ lo hi xs q _ HO.out hn hq hq').mono ?_)
       rintro e w2 ⟨rfl, ho, hgr⟩
       have HI2 : Hid (Within lo hi w w2) := Lib.hid (HIN.out.trans (Within.of_grown hgr (fun k e => HO.out.lt k e)))
       have HO2 := Lib.hid ho
       clear ho hgr))
  go_ret
  exact ⟨rfl, HO2.out, HI2.out⟩
set_option maxHeartbeats 1000000 in
theorem heldQPart_yes (p s : Int) (A : Option Addr) (n k : Nat) (q : Int) (w : World) (h : SI w A n (marks n q)) (hn : n ≤ 1099511627776) (hq : 0 ≤ q) (hq' : q ≤ 1099511627776) :
    Calls Try.prog 16 #[.agg #[.int .i64 p, .slice A n k, .int .i64 s], .int .i64 q] w fun e w' => e = .returned (.int .i64 (q + n)) ∧ Below w.heap.size w w' := by
  obtain ⟨w1, hw1⟩ : ∃ w1, w1 = w.alloc (.cells #[.int .i64 p, .slice A n k, .int .i64 s] 24) := ⟨_, rfl⟩
  obtain ⟨g, hg⟩ : ∃ g, g = w.heap.size := ⟨_, rfl⟩
  have hk : Blk w1 g 24 #[.int .i64 p, .slice A n k, .int .i64 s] := by rw [hw1, hg]; exact Blk.new _ _ _
  have hb : Below w.heap.size w w1 := by rw [hw1]; exact Below.alloc_self _ _
  have HB := Lib.hid hb
  have HW := Lib.hid hw1
  have HG := Lib.hid hg
  have HS := Lib.hid (h.below hb (Nat.le_refl _))
  obtain ⟨q0, q1, q2⟩ := cells3 hk
  have e1 : ¬ q + (n : Int) < 0 := by omega
  clear hk hb hw1 hg h q0 q2
  go_enter Try.func16, Try.ntmps16
  go_upto_region 1 with fail
  rw [← HW.out, ← HG.out]
  go_wp2_with (first
    | (go_at_call 23
       (with_reducible refine (heldIntS_yes _ _ _ q _ HS.out hn hq hq').mono ?_)
       rintro e w2 ⟨rfl, hd⟩
       have HD2 := Lib.hid hd
       clear hd))
  go_ret
  exact ⟨rfl, HB.out.trans (HD2.out.below _)⟩
/-- What WrapShape answers, by name. -/
def WrIs (xs : List Int) (a b p s : Int) (z : List Int) (t : Bool) : Prop := wrpP xs a b = p ∧ wrpC xs a b = s ∧ wrpY xs a b = z ∧ wrpG xs a b = t
theorem wrp_ex (xs : List Int) (a b : Int) : ∃ p s z t, WrIs xs a b p s z t := ⟨_, _, _, _, rfl, rfl, rfl, rfl⟩
theorem WrIs.len {xs : List Int} {a b p s : Int} {z : List Int} {t : Bool} (h : WrIs xs a b p s z t) : z.length ≤ 1000 := by
  rw [← h.2.2.1]
  unfold wrpY
  split
  · next hg =>
    have hb := (wrpG_iff.1 hg).2.1
    unfold wrpRow
    have := shW_len (rW xs a.toNat b.toNat a.toNat) a.toNat b.toNat b.toNat
    rw [List.length_take]
    omega
  · simp
theorem specWrap_z (A : Option Addr) (m c : Nat) (xs : List Int) (a b : Int) (w : World) (hs : SI w A m xs) (HMC : m ≤ c) (HM0 : m ≤ 1099511627776) (p s : Int) (z : List Int) (t : Bool) (h : WrIs xs a b p s z t) :
    Calls Try.prog 9 #[.slice A m c, .int .i64 a, .int .i64 b] w fun e w' => FreshQB w w' e p z s t := by
  obtain ⟨rfl, rfl, rfl, rfl⟩ := h
  exact specWrap_any A m c xs a b w hs HMC HM0
theorem implWrap_z (A : Option Addr) (m c : Nat) (xs : List Int) (a b : Int) (w : World) (hs : SI w A m xs) (HM0 : m ≤ 1099511627776) (p s : Int) (z : List Int) (t : Bool) (h : WrIs xs a b p s z t) :
    Calls Try.prog 11 #[.slice A m c, .int .i64 a, .int .i64 b] w fun e w' => FreshQB w w' e p z s t := by
  obtain ⟨rfl, rfl, rfl, rfl⟩ := h
  exact implWrap_any A m c xs a b w hs HM0
end Go.Proofs.Ytdiiaallklkomaa

/-
  Opening a slice of integers that came in; closed facts of this dump. No conditions.
-/




namespace Go.Proofs.Ytdiiaallklkomaa
open Go.ChangeShapes Go.WideShapes Go.ChangeAt Go.RowKit

theorem own : ownKnob Try.prog.godebug = none := by kernel_rfl
theorem laidOut : laidOutB Try.prog = true := by kernel_rfl

/-- What an opened slice of integers gives: it reads as its numbers. -/
theorem SI.of_cells {w : World} {a : Addr} {n : Nat} {zs : List Int} (hl : n ≤ zs.length) (hc : ∀ i, i < zs.length → w.cell? (a.add i) = some (.int .i64 (zs.getD i 0))) : SI w (some a) n (zs.take n) := by
  refine ⟨by simp; omega, fun hn => ?_⟩
  obtain ⟨b, o, s⟩ := a
  have h0 := hc 0 (by omega)
  have hs : s = none := by simpa [Addr.add] using World.cell?_spot h0
  subst hs
  refine ⟨b, o, rfl, block_lt_of_cell (a := ⟨b, o, none⟩) (by simpa [Addr.add] using h0), fun k hk => ?_⟩
  rw [nth_take hk, ← add_pt]
  exact hc k (by omega)

/-- Every number fits an int. -/
def Fits (xs : List Int) : Prop := ∀ x ∈ xs, -9223372036854775808 ≤ x ∧ x ≤ 9223372036854775807
theorem SI.of_trod {H : Type} {enc : TypeId × Value → H} {W : World} {q : Nat} {f : Nat → Bool} {a0 : Option Addr} {len0 cap0 : Nat} {d : DataW H} {p : List MemPlace}
    (h0 : DataW.Trod enc Try.prog W q f true 22 (.slice a0 len0 cap0) d p) : ∃ xs, SI W a0 len0 xs ∧ Fits xs := by
  obtain ⟨fuel, hf⟩ := h0
  rcases open_ints Try.underlying22 Try.underlying3 (by kernel_rfl) hf with ⟨hcs, _⟩ | ⟨x, l, c, zs, hcs, _, hl, hm, hz, _, hcell, hwz⟩
  · simp [Value.cells] at hcs
    obtain ⟨rfl, rfl, rfl⟩ := hcs
    exact ⟨[], SI.nil _ _, fun x hx => by cases hx⟩
  · simp [Value.cells] at hcs
    obtain ⟨rfl, rfl, rfl⟩ := hcs
    exact ⟨_, SI.of_cells (by rw [hz]; split <;> omega) hcell, fun n hn => bounds_i64 (hwz n (List.mem_of_mem_take hn))⟩
end Go.Proofs.Ytdiiaallklkomaa

/-
  Opening a puzzle that came in. No conditions.
-/


namespace Go.Proofs.Ytdiiaallklkomaa
open Go.ChangeShapes Go.WideShapes Go.ChangeAt Go.RowKit

theorem Blk.within_ {w w' : World} {g lo hi : Nat} {t : TypeId} {cs : Array Value} (h : Blk w g t cs) (hw : Within lo hi w w') (hd : g < lo ∨ hi ≤ g) : Blk w' g t cs := (hw.2.2.2.2 g h.lt hd).trans h
/-- Three slices that read as lists. -/
def PS (w : World) (A1 A2 A3 : Option Addr) (n1 n2 n3 : Nat) (x1 x2 x3 : List Int) : Prop := SI w A1 n1 x1 ∧ SI w A2 n2 x2 ∧ SI w A3 n3 x3
theorem PS.below {w w' : World} {A1 A2 A3 : Option Addr} {n1 n2 n3 B : Nat} {x1 x2 x3 : List Int} (h : PS w A1 A2 A3 n1 n2 n3 x1 x2 x3) (hb : Below B w w') (hB : w.heap.size ≤ B) : PS w' A1 A2 A3 n1 n2 n3 x1 x2 x3 := ⟨h.1.below hb hB, h.2.1.below hb hB, h.2.2.below hb hB⟩
theorem PS.lens {w : World} {A1 A2 A3 : Option Addr} {n1 n2 n3 : Nat} {x1 x2 x3 : List Int} (h : PS w A1 A2 A3 n1 n2 n3 x1 x2 x3) : x1.length = n1 ∧ x2.length = n2 ∧ x3.length = n3 := ⟨h.1.1, h.2.1.1, h.2.2.1⟩
theorem OwnP.len {w : World} {lo hi n1 c1 n2 c2 n3 c3 : Nat} {A1 A2 A3 : Option Addr} {x1 x2 x3 : List Int} (h : OwnP w lo hi A1 A2 A3 n1 c1 n2 c2 n3 c3 x1 x2 x3) : x1.length = n1 ∧ x2.length = n2 ∧ x3.length = n3 := h.lens
theorem OwnP.caps {w : World} {lo hi n1 c1 n2 c2 n3 c3 : Nat} {A1 A2 A3 : Option Addr} {x1 x2 x3 : List Int} (h : OwnP w lo hi A1 A2 A3 n1 c1 n2 c2 n3 c3 x1 x2 x3) : n1 ≤ c1 ∧ n2 ≤ c2 ∧ n3 ≤ c3 := by
  obtain ⟨p, q, _, _, _, h1, h2, h3⟩ := h; exact ⟨h1.cap, h2.cap, h3.cap⟩
end Go.Proofs.Ytdiiaallklkomaa

/-
  The helpers of the exact laws at terms: marking, holding. Conditions: lengths below 2^40.
-/

namespace Go.Proofs.Ytdiiaallklkomaa
open Go.RowKit

/-- What marking writes, from q on. -/
def marksT : List Tm → Int → List Tm
  | [], _ => []
  | t :: r, q => (marks t.1.length q, q + (t.1.length : Int)) :: marksT r (q + (t.1.length : Int) + 1)
/-- The number behind the last mark. -/
def endT : List Tm → Int → Int
  | [], q => q
  | t :: r, q => endT r (q + (t.1.length : Int) + 1)
theorem marksT_len : ∀ (ts : List Tm) (q : Int), (marksT ts q).length = ts.length
  | [], _ => rfl
  | t :: r, q => by simp [marksT, marksT_len r]
theorem endT_app : ∀ (ts us : List Tm) (q : Int), endT (ts ++ us) q = endT us (endT ts q)
  | [], _, _ => rfl
  | _ :: r, us, _ => endT_app r us _
theorem marksT_app : ∀ (ts us : List Tm) (q : Int), marksT (ts ++ us) q = marksT ts q ++ marksT us (endT ts q)
  | [], _, _ => rfl
  | t :: r, us, q => by show _ :: marksT (r ++ us) _ = _ :: (_ ++ _); rw [marksT_app r us]; rfl
def mixT (ts : List Tm) (q : Int) (k : Nat) : List Tm := marksT (ts.take k) q ++ ts.drop k
theorem mixT_zero (ts : List Tm) (q : Int) : mixT ts q 0 = ts := by simp [mixT, marksT]
theorem mixT_all (ts : List Tm) (q : Int) : mixT ts q ts.length = marksT ts q := by simp [mixT]
theorem mixT_tm {ts : List Tm} {q : Int} {k : Nat} (h : k < ts.length) : tm (mixT ts q k) k = tm ts k := by
  unfold mixT tm
  rw [List.getD_eq_getElem?_getD, List.getD_eq_getElem?_getD, List.getElem?_append_right (by rw [marksT_len]; simp; omega), marksT_len]
  simp [Nat.min_eq_left (Nat.le_of_lt h)]
theorem endT_succ {ts : List Tm} {q : Int} {k : Nat} (h : k < ts.length) : endT (ts.take (k + 1)) q = endT (ts.take k) q + ((tm ts k).1.length : Int) + 1 := by
  rw [take_tm h, endT_app]; rfl
theorem mixT_succ {ts : List Tm} {q : Int} {k : Nat} (h : k < ts.length) :
    (mixT ts q k).set k (marks (tm ts k).1.length (endT (ts.take k) q), endT (ts.take k) q + ((tm ts k).1.length : Int)) = mixT ts q (k + 1) := by
  unfold mixT
  have hl : (marksT (ts.take k) q).length = k := by rw [marksT_len]; simp; omega
  rw [List.set_append_right _ _ (by omega), hl, Nat.sub_self, List.drop_eq_getElem_cons h, List.set_cons_zero, take_tm h, marksT_app, List.append_assoc]
  rfl
theorem marksT_tm {ts : List Tm} {q : Int} {k : Nat} (h : k < ts.length) : tm (marksT ts q) k = (marks (tm ts k).1.length (endT (ts.take k) q), endT (ts.take k) q + ((tm ts k).1.length : Int)) := by
  have e : marksT ts q = marksT (ts.take k) q ++ marksT (ts.drop k) (endT (ts.take k) q) := by rw [← marksT_app, List.take_append_drop]
  rw [e]
  unfold tm
  rw [List.getD_eq_getElem?_getD, List.getElem?_append_right (by rw [marksT_len]; simp; omega), marksT_len]
  rw [List.drop_eq_getElem_cons h]
  simp [marksT, Nat.min_eq_left (Nat.le_of_lt h), List.getD, h]

end Go.Proofs.Ytdiiaallklkomaa

/-
  Slices of cells (a row and a column): how they read, slices that a call owns, comparing, marking, holding. Conditions: lengths below 2^40.
-/

namespace Go.Proofs.Ytdiiaallklkomaa
open Go.RowKit

abbrev Ce := Int × Int
def ce (cs : List Ce) (k : Nat) : Ce := cs.getD k (0, 0)
theorem ce_get {cs : List Ce} {k : Nat} (h : k < cs.length) : ce cs k = cs[k] := by simp [ce, List.getD, h]
theorem ce_ext {cs ds : List Ce} (hl : cs.length = ds.length) (h : ∀ j, j < cs.length → ce cs j = ce ds j) : cs = ds := by
  apply List.ext_getElem hl
  intro j h1 h2
  have := h j h1
  rwa [ce_get h1, ce_get h2] at this
theorem ce_set {cs : List Ce} {k j : Nat} (hk : k < cs.length) (t : Ce) : ce (cs.set k t) j = if j = k then t else ce cs j := by
  unfold ce
  rw [List.getD_eq_getElem?_getD, List.getD_eq_getElem?_getD, List.getElem?_set]
  by_cases e : k = j
  · subst e; simp [hk]
  · rw [if_neg e, if_neg (fun h => e h.symm)]
theorem ce_app_lt {cs : List Ce} {t : Ce} {k : Nat} (h : k < cs.length) : ce (cs ++ [t]) k = ce cs k := by simp [ce, List.getD, List.getElem?_append, h]
theorem ce_app_at {cs : List Ce} {t : Ce} : ce (cs ++ [t]) cs.length = t := by simp [ce, List.getD]
def cv (cs : List Ce) (k : Nat) : Value × Value := (.int .i64 (ce cs k).1, .int .i64 (ce cs k).2)

/-- The slice (A, n) reads as the cells cs. -/
def CS (w : World) (A : Option Addr) (n : Nat) (cs : List Ce) : Prop :=
  cs.length = n ∧ (0 < n → ∃ b o, A = some ⟨b, o, none⟩ ∧ b < w.heap.size ∧ ∀ k, k < n → w.cell? ⟨b, o + k * 2, none⟩ = some (.int .i64 (ce cs k).1) ∧ w.cell? ⟨b, o + k * 2 + 1, none⟩ = some (.int .i64 (ce cs k).2))
section
variable {w w' : World} {A : Option Addr} {n : Nat} {cs : List Ce}
theorem CS.at_ (h : CS w A n cs) {k : Nat} (hk : k < n) : ∃ b o, A = some ⟨b, o, none⟩ ∧ b < w.heap.size ∧ w.cell? ⟨b, o + k * 2, none⟩ = some (.int .i64 (ce cs k).1) ∧ w.cell? ⟨b, o + k * 2 + 1, none⟩ = some (.int .i64 (ce cs k).2) := by
  obtain ⟨b, o, e, hb, hc⟩ := h.2 (by omega)
  exact ⟨b, o, e, hb, hc k hk⟩
theorem CS.below {B : Nat} (h : CS w A n cs) (hb : Below B w w') (hB : w.heap.size ≤ B) : CS w' A n cs :=
  ⟨h.1, fun hn => by
    obtain ⟨b, o, e, hl, hc⟩ := h.2 hn
    have hs := hb.size
    exact ⟨b, o, e, by omega, fun k hk => ⟨(hb.cell (p := ⟨b, o + k * 2, none⟩) (by show b < B; omega)).trans (hc k hk).1, (hb.cell (p := ⟨b, o + k * 2 + 1, none⟩) (by show b < B; omega)).trans (hc k hk).2⟩⟩⟩
theorem CS.drawn (h : CS w A n cs) (hd : Drawn w w') : CS w' A n cs := by obtain ⟨m, rfl⟩ := hd; exact h
theorem CS.drewN (h : CS w A n cs) (k : Nat) : CS (w.drewN k) A n cs := h
theorem CS.range {b o k : Nat} {x y : Int} (h0 : w.cell? ⟨b, o + k * 2, none⟩ = some (.int .i64 x)) (h1 : w.cell? ⟨b, o + k * 2 + 1, none⟩ = some (.int .i64 y)) : w.rangeAt b (o + k * 2) [.int .i64 x, .int .i64 y] := by
  intro j u hj
  match j, hj with
  | 0, hj => simp at hj; subst hj; exact h0
  | 1, hj => simp at hj; subst hj; exact h1
end
/-- The slice (A, n, c) holds the cells cs in a block of the call's own between lo and hi (or is nil). -/
def OwnC (w : World) (lo hi : Nat) (A : Option Addr) (n c : Nat) (cs : List Ce) : Prop :=
  cs.length = n ∧ w.ownsRow lo 67 2 (.slice A n c) n (cells2 n (cv cs)) ∧ ∀ k, (Value.slice A n c).ownBlock = some k → k < hi
theorem rowc_eq {w : World} {lo : Nat} {v : Value} {n : Nat} {xs ys : List Value} (h : w.ownsRow lo 67 2 v n xs) (e : xs = ys) : w.ownsRow lo 67 2 v n ys := e ▸ h
section
variable {w w' : World} {lo hi n c : Nat} {A : Option Addr} {cs : List Ce}
theorem OwnC.len (h : OwnC w lo hi A n c cs) : cs.length = n := h.1
theorem OwnC.nil (w : World) (lo hi : Nat) : OwnC w lo hi none 0 0 [] := ⟨rfl, by simpa [cells2] using World.ownsRow_nil _ _ _ _, fun k hk => by simp [Value.ownBlock] at hk⟩
theorem OwnC.place (h : OwnC w lo hi A n c cs) (hn : 0 < n) : ∃ g, A = some ⟨g, 0, none⟩ ∧ lo ≤ g ∧ g < hi := by
  obtain ⟨g, cap, e, h1, _⟩ := h.2.1.form hn
  have hA : A = some ⟨g, 0, none⟩ := by injection e
  subst hA
  exact ⟨g, rfl, h1, h.2.2 g rfl⟩
theorem OwnC.si (h : OwnC w lo hi A n c cs) : CS w A n cs := by
  refine ⟨h.len, fun hn => ?_⟩
  obtain ⟨g, rfl, _, _⟩ := h.place hn
  refine ⟨g, 0, rfl, (h.2.1.lt g rfl).2, fun k hk => ⟨?_, ?_⟩⟩
  · rw [Nat.zero_add, h.2.1.cellAt (k * 2) (by omega), cells2_get0 _ hk]; rfl
  · rw [Nat.zero_add, h.2.1.cellAt (k * 2 + 1) (by omega), cells2_get1 _ hk]; rfl
theorem OwnC.below {B : Nat} (h : OwnC w lo hi A n c cs) (hb : Below B w w') (hB : hi ≤ B) : OwnC w' lo hi A n c cs := by
  refine ⟨h.1, ⟨h.2.1.1, ?_⟩, h.2.2⟩
  rcases h.2.1.2 with hn | ⟨g, cap, cur, e, hl, hg, rest⟩
  · exact .inl hn
  · have hlt := h.2.2 g (by rw [e]; rfl)
    exact .inr ⟨g, cap, cur, e, hl, (hb.block g (by omega)).trans hg, rest⟩
theorem OwnC.drawn (h : OwnC w lo hi A n c cs) (hd : Drawn w w') : OwnC w' lo hi A n c cs := h.below (hd.below hi) (Nat.le_refl _)
theorem OwnC.within {lo' hi' : Nat} (h : OwnC w lo hi A n c cs) (hw : Within lo' hi' w w') (hd : hi ≤ lo' ∨ hi' ≤ lo) : OwnC w' lo hi A n c cs := by
  refine ⟨h.1, ⟨h.2.1.1, ?_⟩, h.2.2⟩
  rcases h.2.1.2 with hn | ⟨g, cap, cur, e, hl, hg, rest⟩
  · exact .inl hn
  · have hlt := h.2.2 g (by rw [e]; rfl)
    have hsz := (h.2.1.lt g (by rw [e]; rfl)).2
    exact .inr ⟨g, cap, cur, e, hl, (hw.2.2.2.2 g hsz (by omega)).trans hg, rest⟩
theorem OwnC.wide {lo' hi' : Nat} (h : OwnC w lo hi A n c cs) (h1 : lo' ≤ lo) (h2 : hi ≤ hi') : OwnC w lo' hi' A n c cs := by
  refine ⟨h.1, ⟨h.2.1.1, ?_⟩, fun k hk => Nat.lt_of_lt_of_le (h.2.2 k hk) h2⟩
  rcases h.2.1.2 with hn | ⟨g, cap, cur, e, hl, rest⟩
  · exact .inl hn
  · exact .inr ⟨g, cap, cur, e, Nat.le_trans h1 hl, rest⟩
theorem OwnC.set1 {g k : Nat} (h : OwnC w lo hi (some ⟨g, 0, none⟩) n c cs) (hk : k < n) (x : Int) :
    OwnC (w.setCell ⟨g, k * 2, none⟩ (.int .i64 x)) lo hi (some ⟨g, 0, none⟩) n c (cs.set k (x, (ce cs k).2)) ∧ w.grownBy (w.setCell ⟨g, k * 2, none⟩ (.int .i64 x)) (some g) := by
  obtain ⟨h1, h2⟩ := h.2.1.stored (k * 2) (.int .i64 x)
  refine ⟨⟨by simpa using h.1, ?_, h.2.2⟩, h2⟩
  rw [cells2_set0 _ hk] at h1
  refine rowc_eq h1 (cells2_congr fun j hj => ?_)
  unfold cv
  rw [ce_set (by rw [h.1]; exact hk)]
  by_cases e : j = k
  · subst e; simp
  · simp [e]
theorem OwnC.set2 {g k : Nat} (h : OwnC w lo hi (some ⟨g, 0, none⟩) n c cs) (hk : k < n) (x : Int) :
    OwnC (w.setCell ⟨g, k * 2 + 1, none⟩ (.int .i64 x)) lo hi (some ⟨g, 0, none⟩) n c (cs.set k ((ce cs k).1, x)) ∧ w.grownBy (w.setCell ⟨g, k * 2 + 1, none⟩ (.int .i64 x)) (some g) := by
  obtain ⟨h1, h2⟩ := h.2.1.stored (k * 2 + 1) (.int .i64 x)
  refine ⟨⟨by simpa using h.1, ?_, h.2.2⟩, h2⟩
  rw [cells2_set1 _ hk] at h1
  refine rowc_eq h1 (cells2_congr fun j hj => ?_)
  unfold cv
  rw [ce_set (by rw [h.1]; exact hk)]
  by_cases e : j = k
  · subst e; simp
  · simp [e]
theorem OwnC.cells {g k : Nat} (h : OwnC w lo hi (some ⟨g, 0, none⟩) n c cs) (hk : k < n) :
    w.cell? ⟨g, k * 2, none⟩ = some (.int .i64 (ce cs k).1) ∧ w.cell? ⟨g, k * 2 + 1, none⟩ = some (.int .i64 (ce cs k).2) ∧ ∀ j, w.frozen? ⟨g, j, none⟩ = false := by
  refine ⟨?_, ?_, fun j => h.2.1.frozenAt j⟩
  · rw [h.2.1.cellAt (k * 2) (by omega), cells2_get0 _ hk]; rfl
  · rw [h.2.1.cellAt (k * 2 + 1) (by omega), cells2_get1 _ hk]; rfl
end
theorem OwnC.empty (w : World) : OwnC (w.alloc (.cells #[] 67)) w.heap.size (w.heap.size + 1) (some ⟨w.heap.size, 0, none⟩) 0 0 [] :=
  ⟨rfl, World.ownsRow_lit w #[] 0 (Nat.le_refl _) (Nat.zero_le _) rfl, fun k hk => by simp [Value.ownBlock] at hk; omega⟩
/-- What a call that makes a slice of cells hands back. -/
def FreshC (w w' : World) (e : Ending) (cs : List Ce) : Prop :=
  ∃ A n c, e = .returned (.slice A n c) ∧ OwnC w' w.heap.size w'.heap.size A n c cs ∧ Below w.heap.size w w'
theorem FreshC.nil_ret {w w' : World} (h : Below w.heap.size w w') : FreshC w w' (.returned (.slice none 0 0)) [] := ⟨none, 0, 0, rfl, OwnC.nil _ _ _, h⟩

theorem Try.infoCellZ : (Try.prog.info? 67).map (fun i => (i.zero, i.size, i.bytes)) = some (some (.agg #[.int .i64 0, .int .i64 0]), 2, 16) := by kernel_rfl
theorem Try.infoCell : (Try.prog.info? 67).map (·.size) = some 2 := by kernel_rfl
/-- 'out = append(out, Cell{..})' on a slice of the call's own. -/
theorem wpList_appendC {ops : Array Oper} {rest : List Oper} {o : Oper} {a : Act} {w : World} {Q : Exit → Act → World → Prop} (hgd : o.guard = none) (s x : Operand)
    (ho : o.op = .call { callee := .builtin .append, args := #[s, x], argTypes := #[37, 37] })
    (lo : Nat) (A : Option Addr) (n c : Nat) (cs : List Ce) (p q : Int) (hs : a.eval s = .slice A n c) (hx : a.eval x = .slice (some ⟨w.heap.size, 0, none⟩) 1 1)
    (hown : OwnC w lo w.heap.size A n c cs) (hlo : lo ≤ w.heap.size) (hn : n ≤ 1099511627776)
    (hK : ∀ A' c' w', OwnC w' lo w'.heap.size A' (n + 1) c' (cs ++ [(p, q)]) → Below lo w w' → w.grownBy w' (Value.slice A n c).ownBlock → (∀ g, (Value.slice A' (n + 1) c').ownBlock = some g → (Value.slice A n c).ownBlock = some g ∨ w.heap.size ≤ g) → wpList Try.prog ops Q rest (a.put o.dst (.slice A' (n + 1) c')) w') :
    wpList Try.prog ops Q (o :: rest) a (w.alloc (.cells #[.int .i64 p, .int .i64 q] 67)) := by
  obtain ⟨i0, hi, hz0, hz1, hz2⟩ := info_parts Try.infoCellZ
  refine Go.wpList_append_own_at _ hgd s x 37 ho lo 67 i0 (.agg #[.int .i64 0, .int .i64 0]) 2 16 Try.underlying37 hi hz0 hz1 hz2 rfl (by decide) _ _ _ hs (hown.2.1.alloc _) ⟨w.heap.size, 0, none⟩ 1 1 [.int .i64 p, .int .i64 q] hx rfl ?_ ?_ (by unfold maxLen; omega) (by omega) (by simp; omega) ?_
  · intro j u hj
    rw [add_pt, Nat.zero_add, (Blk.new w 67 #[.int .i64 p, .int .i64 q]).cell j]
    simpa using hj
  · intro u hu
    simp at hu
    rcases hu with rfl | rfl <;> rfl
  · intro v' w1 ho1 hg1 _ hat
    rw [cells2_app] at ho1
    obtain ⟨g, cap, rfl, _, _⟩ := ho1.form (by omega)
    have hg2 : w.grownBy w1 (Value.slice A n c).ownBlock := (World.grownBy_alloc w _ _).trans hg1
    refine hK _ _ w1 ⟨by simp [hown.1], rowc_eq ho1 (cells2_congr fun j hj => ?_), fun k hk => (ho1.lt k hk).2⟩ (grow_below hg2 hlo (fun k hk => (hown.2.1.lt k hk).1)) hg2 (fun b hb => by
      rcases hat with h | h
      · exact .inl (h ▸ hb)
      · right; rw [h] at hb; injection hb with hb; rw [← hb]; simp)
    unfold cv
    by_cases e : j = n
    · subst e
      rw [if_pos rfl]
      have := @ce_app_at cs (p, q)
      rw [hown.1] at this
      rw [this]
    · rw [if_neg e, ce_app_lt (by rw [hown.1]; omega)]

set_option maxHeartbeats 400000 in
theorem eqCell_any (x y x' y' : Int) (w : World) :
    Calls Try.prog 55 #[.agg #[.int .i64 x, .int .i64 y], .agg #[.int .i64 x', .int .i64 y']] w fun e w' => e = .returned (.bool (decide ((x, y) = (x', y')))) ∧ Below w.heap.size w w' := by
  by_cases h1 : x = x'
  · subst h1
    by_cases h2 : y = y'
    · subst h2
      go_enter Try.func55, Try.ntmps55
      go_wp2
      go_ret
      exact ⟨ret_bool (by simp), by go_grown⟩
    · have hb : (y != y') = true := by simpa using h2
      have H2 := Lib.hid h2
      clear h2
      go_enter Try.func55, Try.ntmps55
      go_wp2
      go_ret
      exact ⟨ret_bool (by simp [H2.out]), by go_grown⟩
  · have hb : (x != x') = true := by simpa using h1
    have H1 := Lib.hid h1
    clear h1
    go_enter Try.func55, Try.ntmps55
    go_wp2
    go_ret
    exact ⟨ret_bool (by simp [H1.out]), by go_grown⟩
/-- Equality of two lists of cells as a Bool. -/
def eqCs (ts us : List Ce) : Bool := decide (ts = us)
theorem eqCs_self (ts : List Ce) : eqCs ts ts = true := by simp [eqCs]
theorem eqCs_len {ts us : List Ce} (h : ts.length ≠ us.length) : eqCs ts us = false := by
  simp only [eqCs, decide_eq_false_iff_not]; intro e; exact h (by rw [e])
theorem eqCs_all {ts us : List Ce} (hl : ts.length = us.length) (h : ∀ j, j < ts.length → ce ts j = ce us j) : eqCs ts us = true := by
  simp only [eqCs, decide_eq_true_eq]
  exact ce_ext hl h
theorem eqCs_ne {ts us : List Ce} {k : Nat} (h : ce ts k ≠ ce us k) : eqCs ts us = false := by
  simp only [eqCs, decide_eq_false_iff_not]; intro e; exact h (by rw [e])

set_option maxHeartbeats 1600000 in
theorem eqCellS_any (A A' : Option Addr) (n c n' c' : Nat) (ts us : List Ce) (w : World) (hs : CS w A n ts) (hs' : CS w A' n' us) (hn : n ≤ 1099511627776) (hn' : n' ≤ 1099511627776) :
    Calls Try.prog 21 #[.slice A n c, .slice A' n' c'] w fun e w' => e = .returned (.bool (eqCs ts us)) ∧ Below w.heap.size w w' := by
  have HL := Lib.hid (And.intro hs.1 hs'.1)
  by_cases hnn : n = n'
  · subst hnn
    go_enter Try.func21, Try.ntmps21
    go_wp2
    go_loopw [5] (fun i wr => ∃ k : Nat, k ≤ n ∧ i = .int .i64 k ∧ (∀ j, j < k → ce ts j = ce us j) ∧ Below w.heap.size w wr)
      (fun i _ => n - (intOf i).toNat)
    case atStart => exact ⟨0, Nat.zero_le _, rfl, fun j hj => absurd hj (by omega), Below.refl _ _⟩
    case round =>
      obtain ⟨k, hk, rfl, hall, hbel⟩ := hrel
      have HA := Lib.hid hall
      have HB := Lib.hid hbel
      clear hall
      by_cases hlt : k < n
      · obtain ⟨b, o, rfl, hb, hc0, hc1⟩ := (hs.below hbel (by omega)).at_ hlt
        obtain ⟨b', o', rfl, hb', hc0', hc1'⟩ := (hs'.below hbel (by omega)).at_ hlt
        have hlI : (k : Int) < (n : Int) := by omega
        have R1 := CS.range hc0 hc1
        have R2 := CS.range hc0' hc1'
        have LD1 : ∀ w', AfterT wr w' → w'.rangeAt b (o + k * 2) [.int .i64 (ce ts k).1, .int .i64 (ce ts k).2] := fun w' hw' j v hj => by
          rw [Below.cell hw' (p := ⟨b, o + k * 2 + j, none⟩) hb]; exact R1 j v hj
        have LD2 : ∀ w', AfterT wr w' → w'.rangeAt b' (o' + k * 2) [.int .i64 (ce us k).1, .int .i64 (ce us k).2] := fun w' hw' j v hj => by
          rw [Below.cell hw' (p := ⟨b', o' + k * 2 + j, none⟩) hb']; exact R2 j v hj
        have call : ∀ w', AfterT wr w' → Calls Try.prog 55 #[.agg #[.int .i64 (ce ts k).1, .int .i64 (ce ts k).2], .agg #[.int .i64 (ce us k).1, .int .i64 (ce us k).2]] w' (fun e w'' => e = .returned (.bool (decide (ce ts k = ce us k))) ∧ AfterT wr w'') := fun w' hw' =>
          (eqCell_any _ _ _ _ w').mono fun e w'' ⟨he, hb⟩ => ⟨he, Below.trans hw' (hb.mono hw'.size)⟩
        obtain ⟨x1, hx1⟩ : ∃ x, x = (ce ts k).1 := ⟨_, rfl⟩
        obtain ⟨x2, hx2⟩ : ∃ x, x = (ce ts k).2 := ⟨_, rfl⟩
        obtain ⟨y1, hy1⟩ : ∃ y, y = (ce us k).1 := ⟨_, rfl⟩
        obtain ⟨y2, hy2⟩ : ∃ y, y = (ce us k).2 := ⟨_, rfl⟩
        obtain ⟨q, hq⟩ : ∃ q, q = decide (ce ts k = ce us k) := ⟨_, rfl⟩
        rw [← hx1, ← hx2] at LD1 call
        rw [← hy1, ← hy2] at LD2 call
        rw [← hq] at call
        have HQ := Lib.hid hq
        have CA := Lib.hid call
        have L1 := Lib.hid LD1
        have L2 := Lib.hid LD2
        clear hc0 hc1 hc0' hc1' hs hs' hbel R1 R2 call LD1 LD2 hx1 hx2 hy1 hy2 hq
        go_wp2_with fail
        refine tq_class (AfterT wr) (by kernel_rfl) (by kernel_rfl) (Below.refl _ _).drew ?_
        refine tq_move rfl _ rfl ?_
        refine tq_move rfl _ rfl ?_
        refine wpQuiet_step (fun K hK => ?_)
        go_simp
        refine ⟨.pointer (some ⟨b, o + k * 2, none⟩), fun w' _ => rfl, hK _ ?_⟩
        clear hK K
        refine tq_load rfl 67 (.tmp 19) rfl b (o + k * 2) rfl [.int .i64 x1, .int .i64 x2] _ L1.out Try.underlying67 rfl Try.infoCell ?_
        refine tq_move rfl _ rfl ?_
        refine tq_move rfl _ rfl ?_
        refine wpQuiet_step (fun K hK => ?_)
        go_simp
        refine ⟨.pointer (some ⟨b', o' + k * 2, none⟩), fun w' _ => rfl, hK _ ?_⟩
        clear hK K
        refine tq_load rfl 67 (.tmp 23) rfl b' (o' + k * 2) rfl [.int .i64 y1, .int .i64 y2] _ L2.out Try.underlying67 rfl Try.infoCell ?_
        refine wpQuiet_step (fun K hK => ?_)
        go_simp
        refine ⟨.bool q, fun w' hw' => CA.out w' hw', hK _ ?_⟩
        clear hK K
        refine wpQuiet_step (fun K hK => ?_)
        go_simp
        refine ⟨.bool (!q), fun w' _ => rfl, hK _ ?_⟩
        clear hK K
        refine wpQuiet_nil ?_
        intro w5 hw5
        have HB5 := Lib.hid (HB.out.trans (Below.mono hw5 HB.out.size))
        clear hw5 L1 L2 CA
        cases q with
        | true =>
          go_wp2
          go_roundw
          case rel => exact ⟨k + 1, by omega, by go_num, fun j hj => by
            rcases Nat.lt_or_ge j k with h | h
            · exact HA.out j h
            · obtain rfl : j = k := by omega
              exact of_decide_eq_true HQ.out.symm, HB5.out⟩
          case measure => simp [intOf]; omega
        | false =>
          go_wp2
          go_ret
          exact ⟨ret_bool (eqCs_ne (k := k) (of_decide_eq_false HQ.out.symm)).symm, HB5.out⟩
      · have hkn : k = n := by omega
        subst hkn
        go_wp2
        go_ret
        exact ⟨ret_bool (eqCs_all (by have := HL.out; omega) (by rw [HL.out.1]; exact HA.out)).symm, HB.out⟩
  · have hne' : ¬ (n : Int) = (n' : Int) := by omega
    go_enter Try.func21, Try.ntmps21
    go_wp2
    go_ret
    exact ⟨ret_bool (eqCs_len (by have := HL.out; omega)).symm, Below.refl _ _⟩

/-- What marking has written after k cells. -/
def mixC (cs : List Ce) (q : Int) (k : Nat) : List Ce := (List.range cs.length).map fun j => if j < k then (q + 2 * (j : Int), q + 2 * (j : Int) + 1) else ce cs j
theorem mixC_len (cs : List Ce) (q : Int) (k : Nat) : (mixC cs q k).length = cs.length := by simp [mixC]
theorem mixC_ce {cs : List Ce} {q : Int} {k j : Nat} (h : j < cs.length) : ce (mixC cs q k) j = if j < k then (q + 2 * (j : Int), q + 2 * (j : Int) + 1) else ce cs j := by
  rw [ce_get (by rw [mixC_len]; exact h)]; simp [mixC]
theorem mixC_zero (cs : List Ce) (q : Int) : mixC cs q 0 = cs := ce_ext (mixC_len _ _ _) fun j hj => by rw [mixC_ce (by rwa [mixC_len] at hj), if_neg (by omega)]
theorem mixC_succ {cs : List Ce} {q : Int} {k : Nat} (h : k < cs.length) : (mixC cs q k).set k (q + 2 * (k : Int), q + 2 * (k : Int) + 1) = mixC cs q (k + 1) := by
  refine ce_ext (by simp [mixC_len]) fun j hj => ?_
  simp [mixC_len] at hj
  rw [ce_set (by rw [mixC_len]; exact h), mixC_ce hj, mixC_ce hj]
  by_cases e : j = k
  · subst e; rw [if_pos rfl, if_pos (by omega)]
  · rw [if_neg e]
    by_cases h1 : j < k
    · rw [if_pos h1, if_pos (by omega)]
    · rw [if_neg h1, if_neg (by omega)]

set_option maxHeartbeats 800000 in
theorem markCellS_own (g n c lo hi : Nat) (cs : List Ce) (q : Int) (w : World) (hs : OwnC w lo hi (some ⟨g, 0, none⟩) n c cs) (hn : n ≤ 1099511627776) (hq : 0 ≤ q) (hq' : q ≤ 1099511627776) (hg : lo ≤ g ∧ g < hi) :
    Calls Try.prog 22 #[.slice (some ⟨g, 0, none⟩) n c, .int .i64 q] w fun e w' => e = .returned (.int .i64 (q + 2 * (n : Int))) ∧ OwnC w' lo hi (some ⟨g, 0, none⟩) n c (mixC cs q n) ∧ Within lo hi w w' := by
  have HL := Lib.hid hs.len
  go_enter Try.func22, Try.ntmps22
  go_wp2
  go_loopw [1, 5] (fun p i wr => ∃ k : Nat, k ≤ n ∧ i = .int .i64 k ∧ p = .int .i64 (q + 2 * (k : Int)) ∧ OwnC wr lo hi (some ⟨g, 0, none⟩) n c (mixC cs q k) ∧ Within lo hi w wr)
    (fun _ i _ => n - (intOf i).toNat)
  case atStart => exact ⟨0, Nat.zero_le _, rfl, by simp, by rw [mixC_zero]; exact hs, Within.refl _ _ _⟩
  case round =>
    obtain ⟨k, hk, rfl, rfl, hown, hwi⟩ := hrel
    clear hs
    by_cases hlt : k < n
    · have hlI : (k : Int) < (n : Int) := by omega
      obtain ⟨hc0, hc1, hfz⟩ := hown.cells hlt
      have hf0 := hfz (k * 2)
      obtain ⟨h1, g1⟩ := hown.set1 hlt (q + 2 * (k : Int))
      obtain ⟨h2, g2⟩ := h1.set2 hlt (q + 2 * (k : Int) + 1)
      obtain ⟨_, hd1, hfz1⟩ := h1.cells hlt
      have hf1 := hfz (k * 2 + 1)
      rw [ce_set (by rw [mixC_len, HL.out]; exact hlt), if_pos rfl, List.set_set, mixC_succ (by rw [HL.out]; exact hlt)] at h2
      have HO := Lib.hid h2
      have HW := Lib.hid (hwi.trans ((Within.of_grown g1 (fun b hb => by injection hb with hb; subst hb; exact hg)).trans (Within.of_grown g2 (fun b hb => by injection hb with hb; subst hb; exact hg))))
      clear h1 h2 g1 g2 hown hwi hfz hfz1 hd1
      obtain ⟨z, hz⟩ : ∃ z, z = q + 2 * (k : Int) := ⟨_, rfl⟩
      have hz0 : 0 ≤ z := by omega
      have hz1 : z ≤ 4398046511104 := by omega
      have HZ := Lib.hid hz
      rw [← hz] at HO HW ⊢
      clear hz
      go_wp2
      go_roundw
      case rel => exact ⟨k + 1, by omega, by go_num, by have := HZ.out; congr 1; omega, HO.out, HW.out⟩
      case measure => simp [intOf]; omega
    · have hkn : k = n := by omega
      subst hkn
      go_wp2
      go_ret
      exact ⟨rfl, hown, hwi⟩
set_option maxHeartbeats 400000 in
theorem markCellS_any (A : Option Addr) (n c lo hi : Nat) (cs : List Ce) (q : Int) (w : World) (hs : OwnC w lo hi A n c cs) (hn : n ≤ 1099511627776) (hq : 0 ≤ q) (hq' : q ≤ 1099511627776) :
    Calls Try.prog 22 #[.slice A n c, .int .i64 q] w fun e w' => e = .returned (.int .i64 (q + 2 * (n : Int))) ∧ OwnC w' lo hi A n c (mixC cs q n) ∧ Within lo hi w w' := by
  by_cases h0 : 0 < n
  · obtain ⟨g, rfl, h1, h2⟩ := hs.place h0
    exact markCellS_own g n c lo hi cs q w hs hn hq hq' ⟨h1, h2⟩
  · have hz : n = 0 := by omega
    subst hz
    have hx : cs = [] := List.eq_nil_of_length_eq_zero hs.len
    subst hx
    have HS := Lib.hid hs
    clear hs
    go_enter Try.func22, Try.ntmps22
    go_wp2
    refine wp_loop_rounds 1 ?_
    rw [rounds_succ]
    go_wp2
    go_ret
    exact ⟨by simp, HS.out, Within.refl _ _ _⟩
set_option maxHeartbeats 800000 in
theorem heldCellS_yes (A : Option Addr) (n c : Nat) (cs : List Ce) (q : Int) (w : World) (hl : cs.length = n) (hs : CS w A n (mixC cs q n)) (hn : n ≤ 1099511627776) (hq : 0 ≤ q) (hq' : q ≤ 1099511627776) :
    Calls Try.prog 67 #[.slice A n c, .int .i64 q] w fun e w' => e = .returned (.int .i64 (q + 2 * (n : Int))) ∧ Drawn w w' := by
  have HL := Lib.hid hl
  clear hl
  go_enter Try.func67, Try.ntmps67
  go_wp2
  go_loopw [1, 5] (fun p i wr => ∃ k : Nat, k ≤ n ∧ i = .int .i64 k ∧ p = .int .i64 (q + 2 * (k : Int)) ∧ Drawn w wr)
    (fun _ i _ => n - (intOf i).toNat)
  case atStart => exact ⟨0, Nat.zero_le _, rfl, by simp, Drawn.refl _⟩
  case round =>
    obtain ⟨k, hk, rfl, rfl, hD⟩ := hrel
    have HD := Lib.hid hD
    have hcs := hs.drawn hD
    clear hs hD
    by_cases hlt : k < n
    · have hlI : (k : Int) < (n : Int) := by omega
      obtain ⟨b, o, rfl, hb, hc0, hc1⟩ := hcs.at_ hlt
      rw [mixC_ce (by rw [HL.out]; exact hlt), if_pos hlt] at hc0 hc1
      dsimp only at hc0 hc1
      clear hcs
      obtain ⟨z, hz⟩ : ∃ z, z = q + 2 * (k : Int) := ⟨_, rfl⟩
      have hz0 : 0 ≤ z := by omega
      have hz1 : z ≤ 4398046511104 := by omega
      have HZ := Lib.hid hz
      rw [← hz] at hc0 hc1 ⊢
      clear hz
      go_wp2
      go_roundw
      case rel => exact ⟨k + 1, by omega, by go_num, by have := HZ.out; congr 1; omega, HD.out⟩
      case measure => simp [intOf]; omega
    · have hkn : k = n := by omega
      subst hkn
      go_wp2
      go_ret
      exact ⟨rfl, HD.out⟩
end Go.Proofs.Ytdiiaallklkomaa

/-
  Dreams as lists of cells: what they are, and their words, as mathematics. No conditions.
-/

namespace Go.Proofs.Ytdiiaallklkomaa

/-- Cells by rows. -/
def lessC (a b : Ce) : Prop := a.1 < b.1 ∨ (a.1 = b.1 ∧ a.2 < b.2)
instance (a b : Ce) : Decidable (lessC a b) := by unfold lessC; infer_instance
/-- Cells as words read them: rows down, each from its end. -/
def ltW (a b : Ce) : Prop := a.1 < b.1 ∨ (a.1 = b.1 ∧ b.2 < a.2)
theorem ltW_asymm {a b : Ce} (h : ltW a b) : ¬ ltW b a := by unfold ltW at *; omega
theorem ltW_trans {a b c : Ce} (h : ltW a b) (h2 : ltW b c) : ltW a c := by unfold ltW at *; omega
theorem lessC_trans {a b c : Ce} (h : lessC a b) (h2 : lessC b c) : lessC a c := by unfold lessC at *; omega
def inTri (n : Int) (a : Ce) : Prop := (0 ≤ a.1 ∧ a.1 ≤ n - 2) ∧ (0 ≤ a.2 ∧ a.2 ≤ n - 2 - a.1)
def crossAt (n : Int) (cs : List Ce) (k : Nat) : Prop := inTri n (ce cs k) ∧ (0 < k → lessC (ce cs (k - 1)) (ce cs k))
def crossP (n : Int) (cs : List Ce) : Prop := (1 ≤ n ∧ n ≤ 6) ∧ ∀ k, k < cs.length → crossAt n cs k
open Classical in
noncomputable def crossB (n : Int) (cs : List Ce) : Bool := decide (crossP n cs)
theorem crossB_iff {n : Int} {cs : List Ce} : crossB n cs = true ↔ crossP n cs := by simp [crossB]
theorem crossB_false {n : Int} {cs : List Ce} (h : ¬ crossP n cs) : crossB n cs = false := by
  cases e : crossB n cs with
  | false => rfl
  | true => exact absurd (crossB_iff.1 e) h
/-- Which number a cell has among those of the greatest triangle. -/
def offC (r : Int) : Int := if r ≤ 0 then 0 else if r ≤ 1 then 5 else if r ≤ 2 then 9 else if r ≤ 3 then 12 else 14
def idxC (a : Ce) : Int := offC a.1 + a.2
theorem idxC_lt {n : Int} (hn : n ≤ 6) {a b : Ce} (ha : inTri n a) (hb : inTri n b) (h : lessC a b) : idxC a < idxC b := by
  unfold lessC at h
  unfold inTri at ha hb
  unfold idxC offC
  split <;> split <;> (try split) <;> (try split) <;> (try split) <;> (try split) <;> (try split) <;> (try split) <;> omega
theorem idxC_top {n : Int} (hn : n ≤ 6) {a : Ce} (ha : inTri n a) : idxC a ≤ 14 := by
  unfold inTri at ha
  unfold idxC offC
  split <;> (try split) <;> (try split) <;> (try split) <;> omega
theorem idxC_low {n : Int} {a : Ce} (ha : inTri n a) : 0 ≤ idxC a := by
  unfold inTri at ha
  unfold idxC offC
  split <;> (try split) <;> (try split) <;> (try split) <;> omega
theorem crossAt_idx {n : Int} (hn : n ≤ 6) {cs : List Ce} : ∀ k, (∀ j, j ≤ k → crossAt n cs j) → (k : Int) ≤ idxC (ce cs k)
  | 0, h => idxC_low (h 0 (Nat.le_refl _)).1
  | k + 1, h => by
    have h1 := crossAt_idx hn k (fun j hj => h j (by omega))
    have h2 := h (k + 1) (Nat.le_refl _)
    have h3 := idxC_lt hn (h k (by omega)).1 h2.1 (by have := h2.2 (by omega); simpa using this)
    omega
theorem crossP.len {n : Int} {cs : List Ce} (h : crossP n cs) : cs.length ≤ 15 := by
  rcases Nat.lt_or_ge 15 cs.length with hl | hl
  · have h1 := crossAt_idx h.1.2 15 (fun j hj => h.2 j (by omega))
    have h2 := idxC_top h.1.2 (h.2 15 hl).1
    omega
  · exact hl
theorem crossP.lt {n : Int} {cs : List Ce} (h : crossP n cs) : ∀ j i, i < j → j < cs.length → lessC (ce cs i) (ce cs j)
  | 0, i, hi, _ => absurd hi (Nat.not_lt_zero _)
  | j + 1, i, hi, hj => by
    have h1 := (h.2 (j + 1) hj).2 (by omega)
    simp at h1
    rcases Nat.lt_or_ge i j with h2 | h2
    · exact lessC_trans (h.lt j i h2 (by omega)) h1
    · obtain rfl : i = j := by omega
      exact h1
/-- A list of cells in the order of reading. -/
def IsW (cs L : List Ce) : Prop := L.Perm cs ∧ L.Pairwise ltW
theorem perm_ltW : ∀ (L M : List Ce), L.Pairwise ltW → M.Pairwise ltW → L.Perm M → L = M
  | [], M, _, _, hp => (List.Perm.eq_nil hp.symm).symm
  | a :: L, [], _, _, hp => absurd (List.Perm.eq_nil hp) (by simp)
  | a :: L, b :: M, h1, h2, hp => by
    obtain ⟨h1a, h1b⟩ := List.pairwise_cons.1 h1
    obtain ⟨h2a, h2b⟩ := List.pairwise_cons.1 h2
    have e : a = b := by
      have m1 : a ∈ b :: M := hp.mem_iff.1 (List.mem_cons_self ..)
      have m2 : b ∈ a :: L := hp.mem_iff.2 (List.mem_cons_self ..)
      rcases List.mem_cons.1 m1 with e | m1
      · exact e
      rcases List.mem_cons.1 m2 with e | m2
      · exact e.symm
      exact absurd (h1a b m2) (ltW_asymm (h2a a m1))
    subst e
    rw [perm_ltW L M h1b h2b ((List.perm_cons a).1 hp)]
theorem IsW.uniq {cs L M : List Ce} (h1 : IsW cs L) (h2 : IsW cs M) : L = M := perm_ltW L M h1.2 h2.2 (h1.1.trans h2.1.symm)
def sumC (a : Ce) : Int := a.1 + a.2
open Classical in
/-- The word of a dream; none of what is no dream. -/
noncomputable def wordC (n : Int) (cs : List Ce) : List Int := if h : crossP n cs ∧ ∃ L, IsW cs L then h.2.choose.map sumC else []
theorem wordC_of {n : Int} {cs L : List Ce} (h : crossP n cs) (hL : IsW cs L) : wordC n cs = L.map sumC := by
  unfold wordC
  have hc : crossP n cs ∧ ∃ L, IsW cs L := ⟨h, L, hL⟩
  rw [dif_pos hc, hc.2.choose_spec.uniq hL]
theorem wordC_no {n : Int} {cs : List Ce} (h : ¬ crossP n cs) : wordC n cs = [] := by
  unfold wordC
  exact dif_neg (fun hc => h hc.1)
theorem wordC_len {n : Int} {cs : List Ce} : (wordC n cs).length ≤ 15 := by
  unfold wordC
  split
  · next hc =>
    rw [List.length_map, hc.2.choose_spec.1.length_eq]
    exact hc.1.len
  · simp
/-- What the document's reading has found: all cells before a place, in the order of words, none of them in the row of that place. -/
def HasW (cs : List Ce) (f : Nat) (L : List Ce) : Prop := IsW (cs.take f) L ∧ ∀ a ∈ L, f < cs.length → a.1 < (ce cs f).1
theorem HasW.zero (cs : List Ce) : HasW cs 0 [] := ⟨⟨List.Perm.refl _, List.Pairwise.nil⟩, fun a h => absurd h (by simp)⟩
/-- The cells from j down to f. -/
def downC (cs : List Ce) (f j : Nat) : List Ce := ((cs.take j).drop f).reverse
theorem downC_len {cs : List Ce} {f j : Nat} (h : j ≤ cs.length) : (downC cs f j).length = j - f := by simp [downC]; omega
theorem downC_get {cs : List Ce} {f j t : Nat} (h : j ≤ cs.length) (ht : t < j - f) : ce (downC cs f j) t = ce cs (j - 1 - t) := by
  have hl := downC_len (f := f) h
  rw [ce_get (by omega), ce_get (by omega)]
  simp only [downC, List.getElem_reverse, List.getElem_drop, List.getElem_take]
  congr 1
  simp
  omega
theorem HasW.next {n : Int} {cs L : List Ce} {f i : Nat} (h : HasW cs f L) (hc : crossP n cs) (hfi : f ≤ i) (hi : i ≤ cs.length) (hrow : ∀ j, f ≤ j → j < i → (ce cs j).1 = (ce cs f).1) (hend : i < cs.length → (ce cs i).1 ≠ (ce cs f).1) :
    HasW cs i (L ++ downC cs f i) := by
  have hmem : ∀ b ∈ downC cs f i, ∃ j, f ≤ j ∧ j < i ∧ b = ce cs j := fun b hb => by
    obtain ⟨t, ht, rfl⟩ := List.getElem_of_mem hb
    rw [downC_len hi] at ht
    refine ⟨i - 1 - t, by omega, by omega, ?_⟩
    rw [← downC_get hi ht, ce_get (by rw [downC_len hi]; exact ht)]
  refine ⟨⟨?_, ?_⟩, ?_⟩
  · have e : cs.take i = cs.take f ++ (cs.take i).drop f := by
      have := (List.take_append_drop f (cs.take i)).symm
      rwa [List.take_take, Nat.min_eq_left hfi] at this
    rw [e]
    exact h.1.1.append (List.reverse_perm _)
  · rw [List.pairwise_append]
    refine ⟨h.1.2, ?_, fun a ha b hb => ?_⟩
    · rw [downC, List.pairwise_reverse, List.pairwise_iff_getElem]
      intro x y hx hy hxy
      have hx' : x < i - f := by simp at hx; omega
      have hy' : y < i - f := by simp at hy; omega
      simp only [List.getElem_drop, List.getElem_take]
      have h1 := hc.lt (f + y) (f + x) (by omega) (by omega)
      rw [ce_get (by omega), ce_get (by omega)] at h1
      have r1 := hrow (f + x) (by omega) (by omega)
      have r2 := hrow (f + y) (by omega) (by omega)
      rw [ce_get (by omega)] at r1 r2
      unfold lessC at h1
      unfold ltW
      omega
    · obtain ⟨j, hj1, hj2, rfl⟩ := hmem b hb
      have h1 := h.2 a ha (by omega)
      have r1 := hrow j hj1 hj2
      unfold ltW
      omega
  · intro a ha hlt
    have hlast : (ce cs f).1 < (ce cs i).1 ∨ f = i := by
      rcases Nat.lt_or_ge f i with h1 | h1
      · have h2 := hc.lt i f h1 hlt
        have := hend hlt
        unfold lessC at h2
        omega
      · omega
    rcases List.mem_append.1 ha with ha | ha
    · have h1 := h.2 a ha (by omega)
      rcases hlast with h2 | rfl
      · omega
      · exact h1
    · obtain ⟨j, hj1, hj2, rfl⟩ := hmem a ha
      have r1 := hrow j hj1 hj2
      rcases hlast with h2 | rfl
      · omega
      · omega
theorem HasW.all {n : Int} {cs L : List Ce} (h : HasW cs cs.length L) (hc : crossP n cs) : wordC n cs = L.map sumC := by
  have h1 := h.1
  rw [List.take_length] at h1
  exact wordC_of hc h1
end Go.Proofs.Ytdiiaallklkomaa

/-
  The document's test for dreams. Conditions: lengths below 2^40.
-/




namespace Go.Proofs.Ytdiiaallklkomaa
open Go.RowKit

set_option maxHeartbeats 400000 in
theorem l3Less_any (x y x' y' : Int) (w : World) :
    Calls Try.prog 84 #[.agg #[.int .i64 x, .int .i64 y], .agg #[.int .i64 x', .int .i64 y']] w fun e w' => e = .returned (.bool (decide (lessC (x, y) (x', y')))) ∧ Below w.heap.size w w' := by
  by_cases h1 : x < x'
  · have HF : Hid (decide (lessC (x, y) (x', y')) = true) := Lib.hid (decide_eq_true (Or.inl h1))
    go_enter Try.func84, Try.ntmps84
    go_wp2
    go_ret
    exact ⟨ret_bool HF.out.symm, by go_grown⟩
  · by_cases h2 : x = x'
    · subst h2
      by_cases h3 : y < y'
      · have HF : Hid (decide (lessC (x, y) (x, y')) = true) := Lib.hid (decide_eq_true (Or.inr ⟨rfl, h3⟩))
        go_enter Try.func84, Try.ntmps84
        go_wp2
        go_ret
        exact ⟨ret_bool HF.out.symm, by go_grown⟩
      · have HF : Hid (decide (lessC (x, y) (x, y')) = false) := Lib.hid (decide_eq_false (fun h => by unfold lessC at h; simp at h; omega))
        go_enter Try.func84, Try.ntmps84
        go_wp2
        go_ret
        exact ⟨ret_bool HF.out.symm, by go_grown⟩
    · have HF : Hid (decide (lessC (x, y) (x', y')) = false) := Lib.hid (decide_eq_false (fun h => by unfold lessC at h; simp at h; omega))
      have hb : (x == x') = false := by simpa using h2
      go_enter Try.func84, Try.ntmps84
      go_wp2
      go_ret
      exact ⟨ret_bool HF.out.symm, by go_grown⟩

set_option maxRecDepth 100000 in
set_option maxHeartbeats 4000000 in
theorem l3Crosses_any (K : Int) (A : Option Addr) (n c : Nat) (cs : List Ce) (w : World) (hs : CS w A n cs) (hn : n ≤ 1099511627776) :
    Calls Try.prog 46 #[.int .i64 K, .slice A n c] w fun e w' => e = .returned (.bool (crossB K cs)) ∧ Below w.heap.size w w' := by
  have HL := Lib.hid hs.1
  by_cases hK : 1 ≤ K ∧ K ≤ 6
  · have HI := Lib.hid (fun w => l1In_yes' hK.1 hK.2 w)
    have HKK := Lib.hid hK
    by_cases h15 : (15 : Int) < (n : Int)
    · have HF : Hid (crossB K cs = false) := Lib.hid (crossB_false (fun h => by have := h.len; have := HL.out; omega))
      clear hs hK
      go_enter Try.func46, Try.ntmps46
      go_wp2_with (go_at_call 39; (with_reducible refine (HI.out _).mono ?_); rintro e w2 ⟨rfl, rfl⟩)
      go_ret
      exact ⟨ret_bool HF.out.symm, Below.refl _ _⟩
    · go_enter Try.func46, Try.ntmps46
      go_wp2_with (go_at_call 39; (with_reducible refine (HI.out _).mono ?_); rintro e w2 ⟨rfl, rfl⟩)
      obtain ⟨w0, hw0⟩ : ∃ w0, w0 = w := ⟨_, rfl⟩
      subst hw0
      obtain ⟨e2, he2⟩ : ∃ e2, e2 = K - 2 := ⟨_, rfl⟩
      have hwK : IntKind.i64.wrap (K - 2) = e2 := by rw [he2]; exact IntWalk.i64_in _ (by omega)
      have HE2 := Lib.hid he2
      clear he2
      go_loopw [5] (fun i wr => ∃ k : Nat, k ≤ n ∧ i = .int .i64 k ∧ (∀ j, j < k → crossAt K cs j) ∧ Below w0.heap.size w0 wr)
        (fun i _ => n - (intOf i).toNat)
      case atStart => exact ⟨0, Nat.zero_le _, rfl, fun j hj => absurd hj (by omega), Below.refl _ _⟩
      case round =>
        obtain ⟨k, hk, rfl, hall, hbel⟩ := hrel
        have HA := Lib.hid hall
        have HB := Lib.hid hbel
        have hts := hs.below hbel (Nat.le_refl _)
        clear hall hbel hs hK
        by_cases hlt : k < n
        · have hlI : (k : Int) < (n : Int) := by omega
          obtain ⟨b, o, rfl, hb, hc0, hc1⟩ := hts.at_ hlt
          obtain ⟨x, hx⟩ : ∃ x, x = (ce cs k).1 := ⟨_, rfl⟩
          obtain ⟨y, hy⟩ : ∃ y, y = (ce cs k).2 := ⟨_, rfl⟩
          rw [← hx] at hc0
          rw [← hy] at hc1
          have HXY : Hid (ce cs k = (x, y)) := Lib.hid (by rw [hx, hy])
          have NO : Hid (¬ crossAt K cs k → crossB K cs = false) := Lib.hid (fun h => crossB_false (fun h2 => h (h2.2 k (by rw [HL.out]; exact hlt))))
          clear hx hy
          by_cases hr : 0 ≤ x ∧ x ≤ e2
          · obtain ⟨hr0, hr1⟩ := hr
            obtain ⟨e3, he3⟩ : ∃ e3, e3 = e2 - x := ⟨_, rfl⟩
            have hwE : IntKind.i64.wrap (e2 - x) = e3 := by rw [he3]; exact IntWalk.i64_in _ (by have := HE2.out; have := HKK.out; omega)
            have HE3 := Lib.hid he3
            clear he3
            by_cases hcl : 0 ≤ y ∧ y ≤ e3
            · obtain ⟨hc2, hc3⟩ := hcl
              have HT : Hid (inTri K (ce cs k)) := Lib.hid (by rw [HXY.out]; unfold inTri; have := HE2.out; have := HE3.out; simp; omega)
              rcases Nat.eq_zero_or_pos k with h00 | h00
              · subst h00
                have HG : Hid (crossAt K cs 0) := Lib.hid ⟨HT.out, fun h => absurd h (Nat.lt_irrefl _)⟩
                rw [Nat.zero_mul, Nat.add_zero] at hc0 hc1
                clear hts
                go_wp2_with fail
                go_quiet ((go_at_call 39; first | (with_reducible exact Calls.quiet_of (l1In_yes hr0 hr1 _)) | (with_reducible exact Calls.quiet_of (l1In_yes hc2 hc3 _))))
                go_wp2
                go_roundw
                case rel => exact ⟨1, by omega, by go_num, fun j hj => by rw [show j = 0 from Nat.lt_one_iff.1 hj]; exact HG.out, HB.out.trans ((show Drawn wr _ from ⟨_, rfl⟩).below _)⟩
                case measure => simp [intOf]; omega
              · obtain ⟨q, hq⟩ : ∃ q, k = q + 1 := ⟨k - 1, by omega⟩
                have HQ := Lib.hid hq
                obtain ⟨b', o', e', _, hp0, hp1⟩ := hts.at_ (k := q) (by omega)
                injection e' with e'
                injection e' with eb eo _
                subst eb eo
                obtain ⟨x0, hx0⟩ : ∃ x, x = (ce cs q).1 := ⟨_, rfl⟩
                obtain ⟨y0, hy0⟩ : ∃ y, y = (ce cs q).2 := ⟨_, rfl⟩
                rw [← hx0] at hp0
                rw [← hy0] at hp1
                have HXY0 : Hid (ce cs q = (x0, y0)) := Lib.hid (by rw [hx0, hy0])
                clear hx0 hy0
                have hwk : IntKind.i64.wrap ((k : Int) - 1) = (q : Int) := by rw [show (k : Int) - 1 = (q : Int) by omega]; exact IntWalk.i64_in _ (by omega)
                have hkI : (q : Int) < (n : Int) := by omega
                have hkb : (0 : Int) ≤ (k : Int) := by omega
                have hqb : (0 : Int) ≤ (q : Int) := by omega
                have hk0 : (0 : Int) < (k : Int) := by omega
                clear hq
                obtain ⟨t, ht⟩ : ∃ t, t = decide (lessC (x0, y0) (x, y)) := ⟨_, rfl⟩
                have CL : Hid (∀ u, Calls Try.prog 84 #[.agg #[.int .i64 x0, .int .i64 y0], .agg #[.int .i64 x, .int .i64 y]] u fun e w' => e = .returned (.bool t) ∧ Below u.heap.size u w') := Lib.hid (fun u => by rw [ht]; exact l3Less_any x0 y0 x y u)
                have HTT := Lib.hid ht
                have HI1 := Lib.hid (fun w => l1In_yes' hr0 hr1 w)
                have HI2 := Lib.hid (fun w => l1In_yes' hc2 hc3 w)
                have HBW := Lib.hid hb
                have KP : Hid (∀ u, Below wr.heap.size wr u → u.cell? ⟨b, o + k * 2, none⟩ = some (.int .i64 x) ∧ u.cell? ⟨b, o + k * 2 + 1, none⟩ = some (.int .i64 y) ∧ u.cell? ⟨b, o + q * 2, none⟩ = some (.int .i64 x0) ∧ u.cell? ⟨b, o + q * 2 + 1, none⟩ = some (.int .i64 y0)) := Lib.hid (fun u hu => ⟨(hu.cell (p := ⟨b, o + k * 2, none⟩) hb).trans hc0, (hu.cell (p := ⟨b, o + k * 2 + 1, none⟩) hb).trans hc1, (hu.cell (p := ⟨b, o + q * 2, none⟩) hb).trans hp0, (hu.cell (p := ⟨b, o + q * 2 + 1, none⟩) hb).trans hp1⟩)
                clear hts hp0 hp1 ht
                cases t with
                | false =>
                  have HF := Lib.hid (NO.out (fun h => by have h1 := h.2 (by have := HQ.out; omega); rw [show k - 1 = q by have := HQ.out; omega, HXY.out, HXY0.out] at h1; exact absurd h1 (of_decide_eq_false HTT.out.symm)))
                  go_wp2_with fail
                  go_region_held3 (fun w' => w'.cell? ⟨b, o + k * 2, none⟩ = some (.int .i64 x) ∧ w'.cell? ⟨b, o + k * 2 + 1, none⟩ = some (.int .i64 y) ∧ w'.cell? ⟨b, o + q * 2, none⟩ = some (.int .i64 x0) ∧ w'.cell? ⟨b, o + q * 2 + 1, none⟩ = some (.int .i64 y0))
                    (first | exact KP.out _ (Below.refl _ _).drew | exact KP.out _ HB2.out)
                    (first
                      | (go_at_call 39; (with_reducible refine (HI1.out _).mono ?_); rintro e u1 ⟨rfl, rfl⟩)
                      | (go_at_call 39; (with_reducible refine (HI2.out _).mono ?_); rintro e u2 ⟨rfl, rfl⟩)
                      | (go_at_call 84; (with_reducible refine (CL.out _).mono ?_); rintro e w2 ⟨rfl, hb2⟩; have HB2 : Hid (Below wr.heap.size wr w2) := Lib.hid ((Below.refl _ _).drew.trans hb2); clear hb2))
                  go_wp2
                  go_ret
                  exact ⟨ret_bool HF.out.symm, HB.out.trans (HB2.out.mono HB.out.size)⟩
                | true =>
                  have HG : Hid (crossAt K cs k) := Lib.hid ⟨HT.out, fun _ => by rw [show k - 1 = q by have := HQ.out; omega, HXY.out, HXY0.out]; exact of_decide_eq_true HTT.out.symm⟩
                  go_wp2_with fail
                  go_region_held3 (fun w' => w'.cell? ⟨b, o + k * 2, none⟩ = some (.int .i64 x) ∧ w'.cell? ⟨b, o + k * 2 + 1, none⟩ = some (.int .i64 y) ∧ w'.cell? ⟨b, o + q * 2, none⟩ = some (.int .i64 x0) ∧ w'.cell? ⟨b, o + q * 2 + 1, none⟩ = some (.int .i64 y0))
                    (first | exact KP.out _ (Below.refl _ _).drew | exact KP.out _ HB2.out)
                    (first
                      | (go_at_call 39; (with_reducible refine (HI1.out _).mono ?_); rintro e u1 ⟨rfl, rfl⟩)
                      | (go_at_call 39; (with_reducible refine (HI2.out _).mono ?_); rintro e u2 ⟨rfl, rfl⟩)
                      | (go_at_call 84; (with_reducible refine (CL.out _).mono ?_); rintro e w2 ⟨rfl, hb2⟩; have HB2 : Hid (Below wr.heap.size wr w2) := Lib.hid ((Below.refl _ _).drew.trans hb2); clear hb2))
                  go_wp2
                  go_roundw
                  case rel => exact ⟨k + 1, by omega, by go_num, fun j hj => by
                    rcases Nat.lt_or_ge j k with h | h
                    · exact HA.out j h
                    · obtain rfl : j = k := by omega
                      exact HG.out, HB.out.trans (HB2.out.mono HB.out.size)⟩
                  case measure => simp [intOf]; omega
            · have HF := Lib.hid (NO.out (fun h => by have h1 := h.1; rw [HXY.out] at h1; unfold inTri at h1; simp at h1; have := HE2.out; have := HE3.out; omega))
              have hbad : y < 0 ∨ e3 < y := by omega
              clear hts
              go_wp2_with fail
              go_quiet ((go_at_call 39; first | (with_reducible exact Calls.quiet_of (l1In_yes hr0 hr1 _)) | (with_reducible exact Calls.quiet_of (l1In_no hbad _))))
              go_wp2
              go_ret
              exact ⟨ret_bool HF.out.symm, HB.out.trans ((show Drawn wr _ from ⟨_, rfl⟩).below _)⟩
          · have HF := Lib.hid (NO.out (fun h => by have h1 := h.1; rw [HXY.out] at h1; unfold inTri at h1; simp at h1; have := HE2.out; omega))
            have hbad : x < 0 ∨ e2 < x := by omega
            clear hts
            go_wp2_with fail
            go_quiet ((go_at_call 39; exact Calls.quiet_of (l1In_no hbad _)))
            go_wp2
            go_ret
            exact ⟨ret_bool HF.out.symm, HB.out.trans ((show Drawn wr _ from ⟨_, rfl⟩).below _)⟩
        · have hkn : k = n := by omega
          subst hkn
          clear hts
          go_wp2
          go_ret
          exact ⟨ret_bool (crossB_iff.2 ⟨HKK.out, by rw [HL.out]; exact HA.out⟩).symm, HB.out⟩
  · have HF : Hid (crossB K cs = false) := Lib.hid (crossB_false (fun h => hK h.1))
    have HI := Lib.hid (fun w => l1In_no' (a := K) (lo := 1) (hi := 6) (by omega) w)
    clear hs hK
    go_enter Try.func46, Try.ntmps46
    go_wp2_with (go_at_call 39; (with_reducible refine (HI.out _).mono ?_); rintro e w2 ⟨rfl, rfl⟩)
    go_ret
    exact ⟨ret_bool HF.out.symm, Below.refl _ _⟩
end Go.Proofs.Ytdiiaallklkomaa

/-
  An append of any slice, also an empty one, at a step of a region that draws its order. Conditions: lengths below 2^40.
-/


namespace Go.Proofs.Ytdiiaallklkomaa
open Go.RowKit

set_option maxRecDepth 100000 in
theorem wp_append_any (w : World) {o : Oper} {a : Act} {K : Act → World → Prop} {Q : Exit → Act → World → Prop} (s x : Operand)
    (ho : o.op = .call { callee := .builtin .append, args := #[s, x], argTypes := #[22, 22] })
    (lo : Nat) (A : Option Addr) (n c : Nat) (xs : List Int) (A2 : Option Addr) (m c2 : Nat) (ys : List Int) (hs : a.eval s = .slice A n c) (hx : a.eval x = .slice A2 m c2)
    (hown : Own w lo w.heap.size A n c xs) (hsi : SI w A2 m ys) (hlo : lo ≤ w.heap.size) (hn : n ≤ 1099511627776) (hm : m ≤ 1099511627776)
    (h : ∀ A' c' w', Own w' lo w'.heap.size A' (n + m) c' (xs ++ ys) → w.grownBy w' (Value.slice A n c).ownBlock → Below lo w w' → K (a.put o.dst (.slice A' (n + m) c')) w') :
    o.wp Try.prog a w K Q := by
  obtain ⟨i0, hi, hz0, hz1, hz2⟩ := info_parts Try.infoInt
  by_cases h0 : 0 < m
  · obtain ⟨b, off, rfl, hb, hc⟩ := hsi.2 h0
    refine wp_append_lies w s x 22 ho lo 3 i0 (.int .i64 0) 1 8 Try.underlying22 hi hz0 hz1 hz2 rfl (by decide) (.slice A n c) n _ hs hown.1 ⟨b, off, none⟩ m c2 (ys.map (Value.int .i64)) hx (by simp [hsi.1]) ?_ (ints_oneCell _ _) h0 (by unfold maxLen; omega) (by omega) hlo w.heap.size rfl ?_
    · intro j u hj
      have hjl : j < ys.length := by
        rcases Nat.lt_or_ge j ys.length with h | h
        · exact h
        · rw [List.getElem?_eq_none (by simpa using h)] at hj; cases hj
      rw [List.getElem?_map, nth_get? hjl] at hj
      rw [add_pt, hc j (by have := hsi.1; omega)]
      exact hj
    · intro g cap w1 ho1 hg1 _ _
      rw [← List.map_append] at ho1
      exact h _ _ w1 (Own.of ho1) hg1 (grow_below hg1 hlo (fun k hk => (hown.1.lt k hk).1))
  · have hm0 : m = 0 := by omega
    subst hm0
    have hy : ys = [] := List.eq_nil_of_length_eq_zero hsi.1
    subst hy
    have hk0 := h A c w (by simpa using hown) (World.grownBy.refl _ _) (Below.refl _ _)
    have hrun : (Builtin.append_ #[22, 22] o.type #[.slice A n c, .slice A2 0 c2]).run Try.prog w = .ok (.slice A n c) w := by
      have hg := hown.1
      have hl0 : ∀ v, (loadCells v 0).run Try.prog w = .ok #[] w := fun v => by simp [loadCells, loadCellsFrom]
      rcases hg.2 with ⟨e, h0⟩ | ⟨g, cap, cur, e, _, hgg, hnc, _⟩
      · injection e with e1 e2 e3
        subst e1; subst e3; subst h0
        cases A2 <;> simp [Builtin.append_, run_underlying Try.underlying22, sizeOf, typeInfo, hi, Builtin.lenOf, Builtin.firstCells, hl0]
      · injection e with e1 e2 e3
        subst e1; subst e3
        cases A2 <;> simp [Builtin.append_, run_underlying Try.underlying22, sizeOf, typeInfo, hi, Builtin.lenOf, Builtin.firstCells, hnc, storeCells, hl0]
    unfold Oper.wp execOp
    simp only [ho, resolve, invoke, builtin, Sem.run_bind, Sem.run_pure, Result.andThen_ok, List.map_toArray, List.map_cons, List.map_nil, hs, hx, hrun]
    exact hk0
theorem step_append_any (w : World) {ops : Array Oper} {o : Oper} {a : Act} {K : Act → World → Prop} {Q : Exit → Act → World → Prop} {E0 : Prop} (hw : Region.wanted o (yielded ops a.tmps) = true) (s x : Operand)
    (ho : o.op = .call { callee := .builtin .append, args := #[s, x], argTypes := #[22, 22] })
    (lo : Nat) (A : Option Addr) (n c : Nat) (xs : List Int) (A2 : Option Addr) (m c2 : Nat) (ys : List Int) (hs : a.eval s = .slice A n c) (hx : a.eval x = .slice A2 m c2)
    (hown : Own w lo w.heap.size A n c xs) (hsi : SI w A2 m ys) (hlo : lo ≤ w.heap.size) (hn : n ≤ 1099511627776) (hm : m ≤ 1099511627776)
    (h : ∀ A' c' w', Own w' lo w'.heap.size A' (n + m) c' (xs ++ ys) → w.grownBy w' (Value.slice A n c).ownBlock → Below lo w w' → K (a.put o.dst (.slice A' (n + m) c')) w') :
    if Region.wanted o (yielded ops a.tmps) = true then Oper.wp Try.prog o a w K Q else E0 := by
  rw [if_pos hw]
  exact wp_append_any w s x ho lo A n c xs A2 m c2 ys hs hx hown hsi hlo hn hm h
end Go.Proofs.Ytdiiaallklkomaa

/-
  Permutations read from texts, on both sides. Conditions: the text is shorter than 2^40.
-/



namespace Go.Proofs.Ytdiiaallklkomaa
open Go.RowKit

/-- The numbers that a text's bytes stand for. -/
def digs (s : ByteArray) : List Int := s.data.toList.map fun b => (b.toNat : Int) - 49
theorem digs_len (s : ByteArray) : (digs s).length = s.size := by simp [digs]
theorem nth_digs (s : ByteArray) (k : Nat) (h : k < s.size) : nth (digs s) k = (s[k].toNat : Int) - 49 := by
  have h' : k < (digs s).length := by rw [digs_len]; exact h
  rw [nth_get h']
  simp [digs]
  rfl
theorem byte_lt (s : ByteArray) (k : Nat) (h : k < s.size) : s[k].toNat < 256 := UInt8.toNat_lt _
/-- Is the text that of a permutation, and which. -/
def okP (s : ByteArray) : Bool := decide (s.size ≤ 7) && isPermB (digs s)
def parP (s : ByteArray) : List Int := if okP s = true then digs s else []
theorem parP_small (s : ByteArray) : (parP s).length ≤ 1099511627775 := by
  unfold parP
  split
  · rename_i h
    unfold okP at h
    have h7 := (isPermB_P (Bool.and_eq_true _ _ ▸ h).2).2.1
    omega
  · simp
def FreshB (w w' : World) (e : Ending) (ys : List Int) (b : Bool) : Prop :=
  ∃ A n c, e = .returned (.tuple #[.slice A n c, .bool b]) ∧ Own w' w.heap.size w'.heap.size A n c ys ∧ Below w.heap.size w w'

/-- The first k numbers, then zeros. -/
def fillZ (xs : List Int) (k : Nat) : List Int := xs.take k ++ List.replicate (xs.length - k) 0
theorem fillZ_zero (xs : List Int) : fillZ xs 0 = List.replicate xs.length 0 := by simp [fillZ]
theorem fillZ_all (xs : List Int) : fillZ xs xs.length = xs := by simp [fillZ]
theorem fillZ_succ {xs : List Int} {k : Nat} (h : k < xs.length) : (fillZ xs k).set k (nth xs k) = fillZ xs (k + 1) := by
  unfold fillZ
  have hl : (xs.take k).length = k := by simp; omega
  rw [List.set_append_right _ _ (by omega), hl, Nat.sub_self, show xs.length - k = (xs.length - (k + 1)) + 1 by omega, List.replicate_succ, List.set_cons_zero, take_nth h, List.append_assoc]
  rfl

end Go.Proofs.Ytdiiaallklkomaa

/-
  Cells that come in: measured and copied. Conditions: lengths below 2^40.
-/



namespace Go.Proofs.Ytdiiaallklkomaa
open Go.RowKit

theorem szCellS_big (A : Option Addr) (n c : Nat) (w : World) (hn : n ≤ 9223372036854775807) (h : 1048576 < n) :
    Calls Try.prog 17 #[.slice A n c, .int .i64 1048576] w fun e w' => e = .returned (.int .i64 (-1)) ∧ w' = w := by
  have h1 : (1048576 : Int) - (n : Int) < 0 := by omega
  have h2 : IntKind.i64.wrap (1048576 - (n : Int)) = 1048576 - (n : Int) := IntWalk.i64_in _ (by omega)
  go_enter Try.func17, Try.ntmps17
  go_wp2
  go_ret
  exact ⟨rfl, rfl⟩
theorem szCellS_ok (A : Option Addr) (n c : Nat) (w : World) (h : n ≤ 1048576) :
    Calls Try.prog 17 #[.slice A n c, .int .i64 1048576] w fun e w' => e = .returned (.int .i64 (1048576 - (n : Int))) ∧ w' = w := by
  have h1 : ¬ (1048576 : Int) - (n : Int) < 0 := by omega
  have h2 : IntKind.i64.wrap (1048576 - (n : Int)) = 1048576 - (n : Int) := IntWalk.i64_in _ (by omega)
  go_enter Try.func17, Try.ntmps17
  go_wp2
  go_ret
  exact ⟨rfl, rfl⟩
set_option maxHeartbeats 400000 in
theorem toCell_any (x y : Int) (w : World) :
    Calls Try.prog 48 #[.agg #[.int .i64 x, .int .i64 y]] w fun e w' => e = .returned (.agg #[.int .i64 x, .int .i64 y]) ∧ Below w.heap.size w w' := by
  obtain ⟨w3, hw3⟩ : ∃ w3, w3 = (((w.alloc (.cells #[.int .i64 x, .int .i64 y] 69)).alloc (.cells #[.int .i64 0, .int .i64 0] 67)).alloc (.cells #[.int .i64 0, .int .i64 0] 67)) := ⟨_, rfl⟩
  obtain ⟨g1, hg1⟩ : ∃ g1, g1 = w.heap.size := ⟨_, rfl⟩
  have hK1 : Blk w3 g1 69 #[.int .i64 x, .int .i64 y] := by rw [hw3, hg1]; exact ((Blk.new w _ _).alloc _).alloc _
  have hK2 : Blk w3 (g1 + 1) 67 #[.int .i64 0, .int .i64 0] := by
    rw [hw3, hg1]
    have := (Blk.new (w.alloc (.cells #[.int .i64 x, .int .i64 y] 69)) 67 #[.int .i64 0, .int .i64 0]).alloc (.cells #[.int .i64 0, .int .i64 0] 67)
    simpa using this
  have hK3 : Blk w3 (g1 + 1 + 1) 67 #[.int .i64 0, .int .i64 0] := by
    rw [hw3, hg1]
    have := (Blk.new ((w.alloc (.cells #[.int .i64 x, .int .i64 y] 69)).alloc (.cells #[.int .i64 0, .int .i64 0] 67)) 67 #[.int .i64 0, .int .i64 0])
    simpa using this
  have HB := Lib.hid (show Below w.heap.size w w3 by rw [hw3]; go_grown)
  have HW := Lib.hid hw3
  have HG := Lib.hid hg1
  have HK2 := Lib.hid hK2
  have c0 : w3.cell? ⟨g1, 0, none⟩ = some (.int .i64 x) := hK1.cell 0
  have c1 : w3.cell? ⟨g1, 1, none⟩ = some (.int .i64 y) := hK1.cell 1
  have d0 : w3.cell? ⟨g1 + 1, 0, none⟩ = some (.int .i64 0) := hK2.cell 0
  have d1 : w3.cell? ⟨g1 + 1, 1, none⟩ = some (.int .i64 0) := hK2.cell 1
  have e0 : w3.cell? ⟨g1 + 1 + 1, 0, none⟩ = some (.int .i64 0) := hK3.cell 0
  have e1 : w3.cell? ⟨g1 + 1 + 1, 1, none⟩ = some (.int .i64 0) := hK3.cell 1
  have f0 := hK2.frozen 0
  have f1 := hK2.frozen 1
  have f2 := hK3.frozen 0
  have f3 := hK3.frozen 1
  clear hK1 hK2 hK3 hw3 hg1
  go_enter Try.func48, Try.ntmps48
  go_upto_region 2 with fail
  rw [← HW.out, ← HG.out]
  go_wp2
  have R := ((((HK2.out.far (p := ⟨g1 + 1 + 1, 0, none⟩) (by show g1 + 1 ≠ g1 + 1 + 1; omega) (.int .i64 x)).far (p := ⟨g1 + 1 + 1, 1, none⟩) (by show g1 + 1 ≠ g1 + 1 + 1; omega) (.int .i64 y)).set_ 0 (.int .i64 x)).set_ 1 (.int .i64 y))
  refine bodyPost_ret (results_row Try.results48 _ _ (g1 + 1) 67 #[.int .i64 x, .int .i64 y] _ rfl R Try.underlying67 rfl (by kernel_rfl)) rfl ?_
  have HG := HG.out
  exact ⟨rfl, (((HB.out.setCell (by show w.heap.size ≤ g1 + 1 + 1; omega) _).setCell (by show w.heap.size ≤ g1 + 1 + 1; omega) _).setCell (by show w.heap.size ≤ g1 + 1; omega) _).setCell (by show w.heap.size ≤ g1 + 1; omega) _⟩
def zeroCe (n : Nat) : List Ce := List.replicate n (0, 0)
theorem zeroCe_ce (n k : Nat) : ce (zeroCe n) k = (0, 0) := by
  unfold ce zeroCe
  by_cases h : k < n
  · simp [List.getD, h]
  · simp [List.getD, h]
theorem OwnC.zeros {w : World} {lo g n c : Nat} (h : w.ownsRow lo 67 2 (.slice (some ⟨g, 0, none⟩) n c) n (madeCells #[.int .i64 0, .int .i64 0] (n * 2)).toList) (hg : g < w.heap.size) : OwnC w lo w.heap.size (some ⟨g, 0, none⟩) n c (zeroCe n) := by
  refine ⟨by simp [zeroCe], ?_, fun b hb => by simp [Value.ownBlock] at hb; omega⟩
  refine rowc_eq h ?_
  apply List.ext_getElem?
  intro j
  by_cases hj : j < n * 2
  · rw [cells2_get _ hj]
    unfold cv
    rw [zeroCe_ce]
    rcases Nat.mod_two_eq_zero_or_one j with e | e
    · simp [madeCells, hj, e]
    · simp [madeCells, hj, e]
  · rw [List.getElem?_eq_none (by simp [madeCells]; omega), List.getElem?_eq_none (by rw [cells2_len]; omega)]
/-- 'make([]Cell, n)'. -/
theorem wpList_make_cells {ops : Array Oper} {rest : List Oper} {o : Oper} {a : Act} {w : World} {Q : Exit → Act → World → Prop} (hgd : o.guard = none) (l c : Operand) (ho : o.op = .makeSlice 37 l c)
    (n : Nat) (hl : a.eval l = .int .i64 n) (hc : a.eval c = .int .i64 n) (hn : n ≤ 1099511627776)
    (hK : ∀ w', OwnC w' w.heap.size w'.heap.size (some ⟨w.heap.size, 0, none⟩) n n (zeroCe n) → Below w.heap.size w w' → wpList Try.prog ops Q rest (a.put o.dst (.slice (some ⟨w.heap.size, 0, none⟩) n n)) w') :
    wpList Try.prog ops Q (o :: rest) a w := by
  obtain ⟨i0, hi, hz0, hz1, hz2⟩ := info_parts Try.infoCellZ
  refine wpList_make_full w hgd l c 37 ho w.heap.size 67 i0 (.agg #[.int .i64 0, .int .i64 0]) 2 Try.underlying37 hi hz0 hz1 .i64 .i64 n n n hl hc rfl rfl (by rw [hz2]; omega) (by unfold maxLen; omega) (Nat.le_refl _) ?_
  intro w1 ho1 hg1
  refine hK w1 (OwnC.zeros ho1 ?_) (grow_below hg1 (Nat.le_refl _) (by intro k hk; cases hk))
  exact (ho1.lt w.heap.size rfl).2
/-- The cells copied after k rounds. -/
def copC (cs : List Ce) (k : Nat) : List Ce := cs.take k ++ zeroCe (cs.length - k)
theorem copC_zero (cs : List Ce) : copC cs 0 = zeroCe cs.length := by simp [copC]
theorem copC_all (cs : List Ce) : copC cs cs.length = cs := by simp [copC, zeroCe]
theorem copC_len (cs : List Ce) (k : Nat) (h : k ≤ cs.length) : (copC cs k).length = cs.length := by simp [copC, zeroCe]; omega
theorem take_ce {cs : List Ce} {k : Nat} (h : k < cs.length) : cs.take (k + 1) = cs.take k ++ [ce cs k] := by rw [List.take_succ_eq_append_getElem h, ce_get h]
theorem copC_succ {cs : List Ce} {k : Nat} (h : k < cs.length) : (copC cs k).set k (ce cs k) = copC cs (k + 1) := by
  unfold copC zeroCe
  have hl : (cs.take k).length = k := by simp; omega
  rw [List.set_append_right _ _ (by omega), hl]
  have e : cs.length - k = (cs.length - (k + 1)) + 1 := by omega
  rw [e, List.replicate_succ, Nat.sub_self, List.set_cons_zero, take_ce h, List.append_assoc]
  rfl
theorem OwnC.put {w : World} {lo hi n c : Nat} {cs : List Ce} {g k : Nat} (h : OwnC w lo hi (some ⟨g, 0, none⟩) n c cs) (hk : k < n) (x y : Int) :
    OwnC ((w.setCell ⟨g, k * 2, none⟩ (.int .i64 x)).setCell ⟨g, k * 2 + 1, none⟩ (.int .i64 y)) lo hi (some ⟨g, 0, none⟩) n c (cs.set k (x, y)) ∧ w.grownBy ((w.setCell ⟨g, k * 2, none⟩ (.int .i64 x)).setCell ⟨g, k * 2 + 1, none⟩ (.int .i64 y)) (some g) := by
  obtain ⟨h1, g1⟩ := h.set1 hk x
  obtain ⟨h2, g2⟩ := h1.set2 hk y
  refine ⟨?_, g1.trans g2⟩
  rw [ce_set (by rw [h.1]; exact hk), if_pos rfl, List.set_set] at h2
  exact h2

set_option maxHeartbeats 800000 in
theorem toCellS_any (A : Option Addr) (n c : Nat) (cs : List Ce) (w : World) (hs : CS w A n cs) (hn : n ≤ 1099511627776) :
    Calls Try.prog 19 #[.slice A n c] w fun e w' => FreshC w w' e cs := by
  have hl := hs.1
  have HL := Lib.hid hl
  obtain ⟨B, hB⟩ : ∃ B, B = w.heap.size := ⟨_, rfl⟩
  have HB0 : Hid (B = w.heap.size) := hB
  go_enter Try.func19, Try.ntmps19
  go_wp2_with (at_make; refine wpList_make_cells rfl (.tmp 6) (.tmp 6) rfl n rfl rfl hn ?_; intro w1 hown hbel1)
  rw [← hB] at hown hbel1 ⊢
  go_loopw [4] (fun i wr => ∃ k : Nat, k ≤ n ∧ i = .int .i64 k ∧ OwnC wr B wr.heap.size (some ⟨B, 0, none⟩) n n (copC cs k) ∧ Below B w wr)
    (fun i _ => n - (intOf i).toNat)
  case atStart =>
    refine ⟨0, Nat.zero_le _, rfl, ?_, hbel1⟩
    rw [copC_zero, hl]; exact hown
  case round =>
    obtain ⟨k, hk, rfl, hown2, hbel⟩ := hrel
    clear hown hbel1 w1
    have HO := Lib.hid hown2
    have HB := Lib.hid hbel
    by_cases hlt : k < n
    · obtain ⟨b, o, rfl, hb, hc0, hc1⟩ := (hs.below hbel (by omega)).at_ hlt
      obtain ⟨x, hx⟩ : ∃ x, x = (ce cs k).1 := ⟨_, rfl⟩
      obtain ⟨y, hy⟩ : ∃ y, y = (ce cs k).2 := ⟨_, rfl⟩
      rw [← hx] at hc0
      rw [← hy] at hc1
      have HXY : Hid ((x, y) = ce cs k) := Lib.hid (by rw [hx, hy])
      clear hx hy hown2 hbel hs hl hB
      have hlI : (k : Int) < (n : Int) := by omega
      go_wp2_with fail
      refine (toCell_any x y _).mono ?_
      rintro e w2 ⟨rfl, hb2⟩
      have hO2 := HO.out.below hb2 (Nat.le_refl _)
      obtain ⟨hd0, hd1, hfz⟩ := hO2.cells hlt
      have hf0 := hfz (k * 2)
      have hf1 := hfz (k * 2 + 1)
      have HP := Lib.hid (hO2.put hlt x y)
      have HB2 := Lib.hid (HB.out.trans (hb2.mono (by have := HB.out.size; have := HB0.out; omega)))
      have HS2 := Lib.hid hb2.size
      clear hfz hO2 hb2 hc0 hc1
      go_wp2
      go_roundw
      case rel =>
        refine ⟨k + 1, by omega, by go_num, ?_, ?_⟩
        · have h1 := HP.out.1
          rw [HXY.out, copC_succ (by rw [HL.out]; exact hlt)] at h1
          simpa using h1.wide (Nat.le_refl _) HS2.out
        · exact HB2.out.grown HP.out.2 (by have := HB2.out.size; have := HB0.out; omega) (by rintro q ⟨⟩; exact Nat.le_refl _)
      case measure => simp [intOf]; omega
    · have hkn : k = n := by omega
      subst hkn
      go_wp2
      go_ret
      have e := HB0.out
      subst e
      refine ⟨_, _, _, rfl, ?_, HB.out⟩
      have := HO.out
      rw [← HL.out, copC_all] at this
      rw [← HL.out]
      exact this
end Go.Proofs.Ytdiiaallklkomaa

/-
  The document's word of a dream. Conditions: lengths below 2^40.
-/




namespace Go.Proofs.Ytdiiaallklkomaa
open Go.RowKit

theorem si_litC (w : World) (x : Int) : SI (w.alloc (.cells #[.int .i64 x] 3)) (some ⟨w.heap.size, 0, none⟩) 1 [x] :=
  ⟨rfl, fun _ => ⟨w.heap.size, 0, rfl, by simp, fun k hk => by
    obtain rfl : k = 0 := by omega
    exact (Blk.new w 3 #[.int .i64 x]).cell 0⟩⟩
theorem downC_next {cs : List Ce} {f i t : Nat} (hi : i ≤ cs.length) (ht : t < i - f) : ((downC cs f i).take (t + 1)).map sumC = ((downC cs f i).take t).map sumC ++ [sumC (ce cs (i - 1 - t))] := by
  rw [take_ce (by rw [downC_len hi]; exact ht), List.map_append, downC_get hi ht]
  rfl
theorem downC_none {cs : List Ce} {f i : Nat} (hi : i ≤ cs.length) (h : i ≤ f) : downC cs f i = [] := List.eq_nil_of_length_eq_zero (by rw [downC_len hi]; omega)

set_option maxRecDepth 100000 in
set_option maxHeartbeats 4000000 in
theorem l3Word_any (K : Int) (A : Option Addr) (n c : Nat) (cs : List Ce) (w : World) (hs : CS w A n cs) (hK : crossP K cs) :
    Calls Try.prog 47 #[.slice A n c] w fun e w' => Fresh w w' e (wordC K cs) := by
  have HL := Lib.hid hs.1
  have HK := Lib.hid hK
  have hn : n ≤ 15 := by rw [← hs.1]; exact hK.len
  have HN := Lib.hid hn
  obtain ⟨B, hB⟩ : ∃ B, B = w.heap.size := ⟨_, rfl⟩
  have HB0 := Lib.hid hB
  clear hK
  go_enter Try.func47, Try.ntmps47
  go_upto_region 2 with fail
  obtain ⟨w1, hw1⟩ : ∃ w1, w1 = w.alloc (.cells #[] 3) := ⟨_, rfl⟩
  have hb1 : Below B w w1 := by rw [hw1, hB]; exact Below.alloc_self _ _
  have ho1 : Own w1 B w1.heap.size (some ⟨w.heap.size, 0, none⟩) 0 0 [] := by rw [hw1, hB]; exact (Own.empty w).wide (Nat.le_refl _) (by simp)
  have HB1 := Lib.hid hb1
  have HO1 := Lib.hid ho1
  rw [← hw1]
  have hs1 := hs.below hb1 (by rw [hB]; exact Nat.le_refl _)
  have HSB := Lib.hid (hs)
  clear hb1 ho1 hw1 hs hB
  go_wp2_with fail
  go_loopw [3, 4, 5] (fun ov fv iv wr => ∃ (A5 : Option Addr) (n5 c5 f i : Nat) (L : List Ce), ov = .slice A5 n5 c5 ∧ fv = .int .i64 f ∧ iv = .int .i64 i ∧ f ≤ i ∧ f ≤ n ∧ (i ≤ n ∨ (i = n + 1 ∧ f = n)) ∧ HasW cs f L ∧ (∀ j, f ≤ j → j < i → j < n → (ce cs j).1 = (ce cs f).1) ∧ Own wr B wr.heap.size A5 n5 c5 (L.map sumC) ∧ Below B w wr)
    (fun _ _ iv _ => n + 1 - (intOf iv).toNat)
  case atStart => exact ⟨_, 0, 0, 0, 0, [], rfl, rfl, rfl, Nat.le_refl _, Nat.zero_le _, .inl (Nat.zero_le _), HasW.zero cs, fun j _ h => absurd h (Nat.not_lt_zero _), HO1.out, HB1.out⟩
  case round =>
    obtain ⟨A5, n5, c5, f, i, L, rfl, rfl, rfl, hfi, hfn, hin, hW, hrow, ho5, hb5⟩ := hrel
    have HW := Lib.hid hW
    have HR := Lib.hid hrow
    have HO5 := Lib.hid ho5
    have HB5 := Lib.hid hb5
    have HF := Lib.hid hfi
    have HFN := Lib.hid hfn
    have hL5 : n5 ≤ 15 := by
      have h1 := ho5.len
      rw [List.length_map, hW.1.1.length_eq, List.length_take, HL.out] at h1
      omega
    have HL5 := Lib.hid hL5
    have hsr := hs1.below (w' := wr) (w := w1) (B := w1.heap.size) 
    clear hsr
    have hsw : CS wr A n cs := HSB.out.below hb5 (by rw [HB0.out]; exact Nat.le_refl _)
    have HSW := Lib.hid hsw
    clear hW hrow ho5 hb5 hL5 hs1
    by_cases hle : i ≤ n
    · have hleI : (i : Int) ≤ (n : Int) := by omega
      by_cases hcont : i < n ∧ (ce cs i).1 = (ce cs f).1
      · obtain ⟨hlt, heq⟩ := hcont
        have hltI : (i : Int) < (n : Int) := by omega
        have hfI : (f : Int) < (n : Int) := by omega
        obtain ⟨b, o, rfl, hb, hc0, _⟩ := hsw.at_ hlt
        obtain ⟨b', o', e', _, hp0, _⟩ := hsw.at_ (k := f) (by omega)
        injection e' with e'
        injection e' with eb eo _
        subst eb eo
        obtain ⟨x, hx⟩ : ∃ x, x = (ce cs i).1 := ⟨_, rfl⟩
        rw [← hx] at hc0
        rw [← heq, ← hx] at hp0
        have HEQ := Lib.hid heq
        clear hx heq hsw hin
        go_wp2_with fail
        go_quiet (fail)
        go_wp2
        go_roundw
        case rel => exact ⟨A5, n5, c5, f, i + 1, L, rfl, rfl, by go_num, by have := HF.out; omega, HFN.out, .inl (by omega), HW.out, fun j h1 h2 h3 => by
          rcases Nat.lt_or_ge j i with h4 | h4
          · exact HR.out j h1 h4 h3
          · obtain rfl : j = i := by omega
            exact HEQ.out, HO5.out.drawn ⟨_, rfl⟩, HB5.out.trans ((show Drawn wr _ from ⟨_, rfl⟩).below _)⟩
        case measure => simp [intOf]; omega
      · have HNC := Lib.hid hcont
        have hwi : IntKind.i64.wrap ((i : Int) - 1) = (i : Int) - 1 := IntWalk.i64_in _ (by omega)
        have HNX : Hid (HasW cs i (L ++ downC cs f i)) := Lib.hid (HW.out.next HK.out HF.out (by rw [HL.out]; exact hle) (fun j h1 h2 => HR.out j h1 h2 (by omega)) (fun h1 h2 => HNC.out ⟨by rw [← HL.out]; exact h1, h2⟩))
        have HIN : Hid (i < n ∨ i = n) := Lib.hid (by omega)
        obtain ⟨z0, hz0⟩ : ∃ z0, z0 = (i : Int) - 1 := ⟨_, rfl⟩
        have HZ0 := Lib.hid hz0
        rw [← hz0] at hwi
        clear hcont hin hz0
        have hgo : ∀ (wq : World), Drawn wr wq → Own wq B wq.heap.size A5 n5 c5 (L.map sumC) ∧ Below B w wq ∧ CS wq A n cs := fun wq hd => ⟨by have h1 := (HO5.out.drawn hd).below (Below.refl wq.heap.size wq) (by obtain ⟨m, rfl⟩ := hd; exact Nat.le_refl _); obtain ⟨m, rfl⟩ := hd; exact h1, HB5.out.trans (hd.below _), HSW.out.drawn hd⟩
        have HGO := Lib.hid hgo
        clear hgo hsw
        have key : ∀ (wq : World), Drawn wr wq → True := fun _ _ => trivial
        clear key
        by_cases hlt : i < n
        · have hltI : (i : Int) < (n : Int) := by omega
          have hfI : (f : Int) < (n : Int) := by omega
          obtain ⟨b, o, rfl, hb, hc0, _⟩ := HSW.out.at_ hlt
          obtain ⟨b', o', e', _, hp0, _⟩ := HSW.out.at_ (k := f) (by omega)
          injection e' with e'
          injection e' with eb eo _
          subst eb eo
          obtain ⟨x, hx⟩ : ∃ x, x = (ce cs i).1 := ⟨_, rfl⟩
          obtain ⟨y, hy⟩ : ∃ y, y = (ce cs f).1 := ⟨_, rfl⟩
          rw [← hx] at hc0
          rw [← hy] at hp0
          have hxy : (x == y) = false := by have h1 := HNC.out; rw [hx, hy]; simp; exact fun h => h1 ⟨hlt, h⟩
          have hxy2 : ¬ x = y := by simpa using hxy
          clear hx hy
          obtain ⟨wo, rfl⟩ : ∃ wo, wo = wr := ⟨wr, rfl⟩
          go_wp2_with fail
          go_quiet (fail)
          go_wp2
          go_loopw [3, 6] (fun ov jv wx => ∃ (A6 : Option Addr) (n6 c6 t : Nat), ov = .slice A6 n6 c6 ∧ jv = .int .i64 (z0 - (t : Int)) ∧ t ≤ i - f ∧ Own wx B wx.heap.size A6 n6 c6 (L.map sumC ++ ((downC cs f i).take t).map sumC) ∧ Below B w wx)
            (fun _ jv _ => (intOf jv - (f : Int) + 1).toNat)
          case atStart =>
            exact ⟨_, _, _, 0, rfl, by rw [HZ0.out]; simp, Nat.zero_le _, by rw [List.take_zero, List.map_nil, List.append_nil]; exact (HGO.out _ ⟨_, rfl⟩).1, (HGO.out _ ⟨_, rfl⟩).2.1⟩
          case round =>
            obtain ⟨A6, n6, c6, t, rfl, rfl, htl, ho6, hb6⟩ := hrel
            have HO6 := Lib.hid ho6
            have HB6 := Lib.hid hb6
            have HN6 : Hid (n6 ≤ 100) := Lib.hid (by
              have h1 := ho6.len
              have h2 := downC_len (f := f) (show i ≤ cs.length by rw [HL.out]; exact hle)
              have h3 := HW.out.1.1.length_eq
              rw [List.length_take] at h3
              rw [List.length_append, List.length_map, List.length_map, List.length_take] at h1
              have := HL.out
              omega)
            clear ho6 hb6
            by_cases ht : t < i - f
            · obtain ⟨j, hj⟩ : ∃ j : Nat, j = i - 1 - t := ⟨_, rfl⟩
              have hjz : z0 - (t : Int) = (j : Int) := by have := HZ0.out; omega
              have hjn : j < n := by omega
              have hjI : (j : Int) < (n : Int) := by omega
              have hjf : (f : Int) ≤ (j : Int) := by omega
              have hwj : IntKind.i64.wrap ((j : Int) - 1) = (j : Int) - 1 := IntWalk.i64_in _ (by omega)
              have HJZ : Hid ((j : Int) - 1 = z0 - ((t + 1 : Nat) : Int)) := Lib.hid (by omega)
              have HDN : Hid (((downC cs f i).take (t + 1)).map sumC = ((downC cs f i).take t).map sumC ++ [sumC (ce cs j)]) := Lib.hid (by rw [hj]; exact downC_next (by rw [HL.out]; exact hle) ht)
              have HTR : Hid (inTri K (ce cs j)) := Lib.hid (HK.out.2 j (by rw [HL.out]; exact hjn)).1
              have HT := Lib.hid ht
              rw [hjz]
              obtain ⟨b2, o2, e2, hb2, hd0, hd1⟩ := (HSB.out.below HB6.out (by rw [HB0.out]; exact Nat.le_refl _)).at_ hjn
              (first | (subst e2) | (obtain ⟨rfl, rfl⟩ : b2 = b ∧ o2 = o := by simpa using e2.symm))
              have hbB : b2 < B := by
                obtain ⟨b3, o3, e3, h3, _⟩ := HSB.out.at_ hjn
                injection e3 with e3
                injection e3 with eb eo _
                rw [HB0.out, eb]; exact h3
              obtain ⟨x2, hx2⟩ : ∃ x, x = (ce cs j).1 := ⟨_, rfl⟩
              obtain ⟨y2, hy2⟩ : ∃ y, y = (ce cs j).2 := ⟨_, rfl⟩
              rw [← hx2] at hd0
              rw [← hy2] at hd1
              obtain ⟨s2, hs2⟩ : ∃ s, s = x2 + y2 := ⟨_, rfl⟩
              have HS2 : Hid (sumC (ce cs j) = s2) := Lib.hid (by rw [hs2, hx2, hy2]; rfl)
              have hws : IntKind.i64.wrap (x2 + y2) = s2 := by
                rw [hs2]
                have h1 := HTR.out
                have h2 := HK.out.1
                unfold inTri at h1
                exact IntWalk.i64_in _ (by omega)
              have HBB := Lib.hid hbB
              clear hj hjz ht hx2 hy2 hs2 hc0 hp0 hxy hxy2 hltI hfI hb
              go_wp2_with fail
              go_region_held3 (fun w' => w'.cell? ⟨b2, o2 + j * 2, none⟩ = some (.int .i64 x2) ∧ w'.cell? ⟨b2, o2 + j * 2 + 1, none⟩ = some (.int .i64 y2))
                (first | go_keep | exact K5)
                (first
                  | (refine step_append_any _ (by first | rfl | kernel_rfl | simp [Region.wanted, yielded]) (.tmp 38) (.tmp 50) (by rfl) B A6 n6 c6 (L.map sumC ++ ((downC cs f i).take t).map sumC) (some ⟨wr.drew.heap.size, 0, none⟩) 1 1 [s2] (by rfl) (by rfl) (by have h1 := HO6.out.below (w' := wr.drew.alloc (.cells #[.int .i64 s2] 3)) ((Below.refl wr.heap.size wr).drew.alloc (Nat.le_refl _) _) (Nat.le_refl _); exact h1.wide (Nat.le_refl _) (by simp)) (si_litC wr.drew s2) (by have := HB6.out.size; have := HB0.out; simp; omega) (by have := HN6.out; omega) (by decide) ?_
                     intro A7 c7 w7 ho7 hg7 hb7
                     have g3 : Below B wr w7 := (((Below.refl B wr).drew).alloc (Nat.le_trans (Nat.le_of_eq HB0.out) HB6.out.size) (.cells #[.int .i64 s2] 3)).trans hb7
                     have K5 : w7.cell? ⟨b2, o2 + j * 2, none⟩ = some (.int .i64 x2) ∧ w7.cell? ⟨b2, o2 + j * 2 + 1, none⟩ = some (.int .i64 y2) :=
                       ⟨(Below.cell g3 (p := ⟨b2, o2 + j * 2, none⟩) HBB.out).trans hd0, (Below.cell g3 (p := ⟨b2, o2 + j * 2 + 1, none⟩) HBB.out).trans hd1⟩
                     have HO7 := Lib.hid ho7
                     have HB7 : Hid (Below B w w7) := Lib.hid (HB6.out.trans g3)
                     clear ho7 hg7 hb7 g3))
              go_wp2
              go_roundw
              case rel => exact ⟨A7, n6 + 1, c7, t + 1, rfl, by rw [← HJZ.out], by have := HT.out; omega, by rw [HDN.out, HS2.out, ← List.append_assoc]; exact HO7.out, HB7.out⟩
              case measure => simp [intOf]; omega
            · have hti : t = i - f := by omega
              subst hti
              have hex : ¬ (f : Int) ≤ z0 - ((i - f : Nat) : Int) := by have := HZ0.out; have := HF.out; omega
              have HOF : Hid (Own wr B wr.heap.size A6 n6 c6 ((L ++ downC cs f i).map sumC)) := Lib.hid (by have h1 := HO6.out; rwa [List.take_of_length_le (by rw [downC_len (by rw [HL.out]; exact hle)]; exact Nat.le_refl _), ← List.map_append] at h1)
              obtain ⟨z1, hz1⟩ : ∃ z1, z1 = z0 - ((i - f : Nat) : Int) := ⟨_, rfl⟩
              rw [← hz1] at hex ⊢
              clear hz1 hc0 hp0 hxy hxy2 hltI hfI hb
              go_wp2
              go_roundw
              case rel => exact ⟨A6, n6, c6, i, i + 1, L ++ downC cs f i, rfl, rfl, by go_num, by omega, hle, by have := HIN.out; omega, HNX.out, fun j h1 h2 h3 => by rw [show j = i by omega], HOF.out, HB6.out⟩
              case measure => simp [intOf]; omega
        · have hltI : ¬ (i : Int) < (n : Int) := by omega
          obtain ⟨wo, rfl⟩ : ∃ wo, wo = wr := ⟨wr, rfl⟩
          go_wp2_with fail
          go_quiet (fail)
          go_wp2
          go_loopw [3, 6] (fun ov jv wx => ∃ (A6 : Option Addr) (n6 c6 t : Nat), ov = .slice A6 n6 c6 ∧ jv = .int .i64 (z0 - (t : Int)) ∧ t ≤ i - f ∧ Own wx B wx.heap.size A6 n6 c6 (L.map sumC ++ ((downC cs f i).take t).map sumC) ∧ Below B w wx)
            (fun _ jv _ => (intOf jv - (f : Int) + 1).toNat)
          case atStart =>
            exact ⟨_, _, _, 0, rfl, by rw [HZ0.out]; simp, Nat.zero_le _, by rw [List.take_zero, List.map_nil, List.append_nil]; exact (HGO.out _ ⟨_, rfl⟩).1, (HGO.out _ ⟨_, rfl⟩).2.1⟩
          case round =>
            obtain ⟨A6, n6, c6, t, rfl, rfl, htl, ho6, hb6⟩ := hrel
            have HO6 := Lib.hid ho6
            have HB6 := Lib.hid hb6
            have HN6 : Hid (n6 ≤ 100) := Lib.hid (by
              have h1 := ho6.len
              have h2 := downC_len (f := f) (show i ≤ cs.length by rw [HL.out]; exact hle)
              have h3 := HW.out.1.1.length_eq
              rw [List.length_take] at h3
              rw [List.length_append, List.length_map, List.length_map, List.length_take] at h1
              have := HL.out
              omega)
            clear ho6 hb6
            by_cases ht : t < i - f
            · obtain ⟨j, hj⟩ : ∃ j : Nat, j = i - 1 - t := ⟨_, rfl⟩
              have hjz : z0 - (t : Int) = (j : Int) := by have := HZ0.out; omega
              have hjn : j < n := by omega
              have hjI : (j : Int) < (n : Int) := by omega
              have hjf : (f : Int) ≤ (j : Int) := by omega
              have hwj : IntKind.i64.wrap ((j : Int) - 1) = (j : Int) - 1 := IntWalk.i64_in _ (by omega)
              have HJZ : Hid ((j : Int) - 1 = z0 - ((t + 1 : Nat) : Int)) := Lib.hid (by omega)
              have HDN : Hid (((downC cs f i).take (t + 1)).map sumC = ((downC cs f i).take t).map sumC ++ [sumC (ce cs j)]) := Lib.hid (by rw [hj]; exact downC_next (by rw [HL.out]; exact hle) ht)
              have HTR : Hid (inTri K (ce cs j)) := Lib.hid (HK.out.2 j (by rw [HL.out]; exact hjn)).1
              have HT := Lib.hid ht
              rw [hjz]
              obtain ⟨b2, o2, e2, hb2, hd0, hd1⟩ := (HSB.out.below HB6.out (by rw [HB0.out]; exact Nat.le_refl _)).at_ hjn
              (first | (subst e2) | (obtain ⟨rfl, rfl⟩ : b2 = b ∧ o2 = o := by simpa using e2.symm))
              have hbB : b2 < B := by
                obtain ⟨b3, o3, e3, h3, _⟩ := HSB.out.at_ hjn
                injection e3 with e3
                injection e3 with eb eo _
                rw [HB0.out, eb]; exact h3
              obtain ⟨x2, hx2⟩ : ∃ x, x = (ce cs j).1 := ⟨_, rfl⟩
              obtain ⟨y2, hy2⟩ : ∃ y, y = (ce cs j).2 := ⟨_, rfl⟩
              rw [← hx2] at hd0
              rw [← hy2] at hd1
              obtain ⟨s2, hs2⟩ : ∃ s, s = x2 + y2 := ⟨_, rfl⟩
              have HS2 : Hid (sumC (ce cs j) = s2) := Lib.hid (by rw [hs2, hx2, hy2]; rfl)
              have hws : IntKind.i64.wrap (x2 + y2) = s2 := by
                rw [hs2]
                have h1 := HTR.out
                have h2 := HK.out.1
                unfold inTri at h1
                exact IntWalk.i64_in _ (by omega)
              have HBB := Lib.hid hbB
              clear hj hjz ht hx2 hy2 hs2 hltI
              go_wp2_with fail
              go_region_held3 (fun w' => w'.cell? ⟨b2, o2 + j * 2, none⟩ = some (.int .i64 x2) ∧ w'.cell? ⟨b2, o2 + j * 2 + 1, none⟩ = some (.int .i64 y2))
                (first | go_keep | exact K5)
                (first
                  | (refine step_append_any _ (by first | rfl | kernel_rfl | simp [Region.wanted, yielded]) (.tmp 38) (.tmp 50) (by rfl) B A6 n6 c6 (L.map sumC ++ ((downC cs f i).take t).map sumC) (some ⟨wr.drew.heap.size, 0, none⟩) 1 1 [s2] (by rfl) (by rfl) (by have h1 := HO6.out.below (w' := wr.drew.alloc (.cells #[.int .i64 s2] 3)) ((Below.refl wr.heap.size wr).drew.alloc (Nat.le_refl _) _) (Nat.le_refl _); exact h1.wide (Nat.le_refl _) (by simp)) (si_litC wr.drew s2) (by have := HB6.out.size; have := HB0.out; simp; omega) (by have := HN6.out; omega) (by decide) ?_
                     intro A7 c7 w7 ho7 hg7 hb7
                     have g3 : Below B wr w7 := (((Below.refl B wr).drew).alloc (Nat.le_trans (Nat.le_of_eq HB0.out) HB6.out.size) (.cells #[.int .i64 s2] 3)).trans hb7
                     have K5 : w7.cell? ⟨b2, o2 + j * 2, none⟩ = some (.int .i64 x2) ∧ w7.cell? ⟨b2, o2 + j * 2 + 1, none⟩ = some (.int .i64 y2) :=
                       ⟨(Below.cell g3 (p := ⟨b2, o2 + j * 2, none⟩) HBB.out).trans hd0, (Below.cell g3 (p := ⟨b2, o2 + j * 2 + 1, none⟩) HBB.out).trans hd1⟩
                     have HO7 := Lib.hid ho7
                     have HB7 : Hid (Below B w w7) := Lib.hid (HB6.out.trans g3)
                     clear ho7 hg7 hb7 g3))
              go_wp2
              go_roundw
              case rel => exact ⟨A7, n6 + 1, c7, t + 1, rfl, by rw [← HJZ.out], by have := HT.out; omega, by rw [HDN.out, HS2.out, ← List.append_assoc]; exact HO7.out, HB7.out⟩
              case measure => simp [intOf]; omega
            · have hti : t = i - f := by omega
              subst hti
              have hex : ¬ (f : Int) ≤ z0 - ((i - f : Nat) : Int) := by have := HZ0.out; have := HF.out; omega
              have HOF : Hid (Own wr B wr.heap.size A6 n6 c6 ((L ++ downC cs f i).map sumC)) := Lib.hid (by have h1 := HO6.out; rwa [List.take_of_length_le (by rw [downC_len (by rw [HL.out]; exact hle)]; exact Nat.le_refl _), ← List.map_append] at h1)
              obtain ⟨z1, hz1⟩ : ∃ z1, z1 = z0 - ((i - f : Nat) : Int) := ⟨_, rfl⟩
              rw [← hz1] at hex ⊢
              clear hz1 hltI
              go_wp2
              go_roundw
              case rel => exact ⟨A6, n6, c6, i, i + 1, L ++ downC cs f i, rfl, rfl, by go_num, by omega, hle, by have := HIN.out; omega, HNX.out, fun j h1 h2 h3 => by rw [show j = i by omega], HOF.out, HB6.out⟩
              case measure => simp [intOf]; omega
    · obtain ⟨rfl, rfl⟩ : i = n + 1 ∧ f = n := by omega
      have hleI : ¬ ((f + 1 : Nat) : Int) ≤ (f : Int) := by omega
      clear hsw
      go_wp2
      go_ret
      have e := HB0.out
      subst e
      have hall : HasW cs cs.length L := by rw [HL.out]; exact HW.out
      refine ⟨_, _, _, rfl, ?_, HB5.out⟩
      rw [hall.all HK.out]
      exact HO5.out

set_option maxHeartbeats 400000 in
theorem specDreamWord_any (K : Int) (A : Option Addr) (n c : Nat) (cs : List Ce) (w : World) (hs : CS w A n cs) (hn : n ≤ 1099511627776) :
    Calls Try.prog 18 #[.int .i64 K, .slice A n c] w fun e w' => FreshB w w' e (wordC K cs) (crossB K cs) := by
  have HC := Lib.hid (l3Crosses_any K A n c cs w hs hn)
  cases hb : crossB K cs with
  | false =>
    rw [hb] at HC
    have HE : Hid (wordC K cs = []) := Lib.hid (wordC_no (fun h => by rw [crossB_iff.2 h] at hb; simp at hb))
    clear hs hb
    go_enter Try.func18, Try.ntmps18
    go_wp2_with (go_at_call 46; (with_reducible refine HC.out.mono ?_); rintro e w2 ⟨rfl, hb2⟩; have HB2 := Lib.hid hb2; clear hb2)
    go_ret2
    rw [HE.out]
    exact ⟨none, 0, 0, rfl, Own.nil _ _ _, HB2.out⟩
  | true =>
    rw [hb] at HC
    have HW := Lib.hid (fun u (hu : Below w.heap.size w u) => l3Word_any K A n c cs u (hs.below hu (Nat.le_refl _)) (crossB_iff.1 hb))
    clear hs hb
    go_enter Try.func18, Try.ntmps18
    go_wp2_with (first
      | (go_at_call 46; (with_reducible refine HC.out.mono ?_); rintro e w2 ⟨rfl, hb2⟩; have HB2 := Lib.hid hb2; clear hb2)
      | (go_at_call 47; (with_reducible refine (HW.out _ HB2.out).mono ?_); rintro e w3 ⟨A3, n3, c3, rfl, ho3, hb3⟩; have HO3 := Lib.hid ho3; have HB3 := Lib.hid hb3; clear ho3 hb3))
    go_ret2
    exact ⟨A3, n3, c3, rfl, HO3.out.wide HB2.out.size (Nat.le_refl _), HB2.out.trans (HB3.out.mono HB2.out.size)⟩
end Go.Proofs.Ytdiiaallklkomaa

/-
  The orders of cells in the library's words: cmp.Or and the two comparisons. No conditions.
-/





namespace Go.Proofs.Ytdiiaallklkomaa
open Go.RowKit

/-- The first of two numbers that is not 0. -/
def orI (x y : Int) : Int := if x = 0 then y else x
def cmpC (a b : Ce) : Int := orI (cmpI a.1 b.1) (cmpI a.2 b.2)
def cmpW (a b : Ce) : Int := orI (cmpI a.1 b.1) (cmpI b.2 a.2)
theorem cmpC_lt (a b : Ce) : cmpC a b < 0 ↔ lessC a b := by
  unfold cmpC orI cmpI lessC
  (repeat' split) <;> omega
theorem cmpW_lt (a b : Ce) : cmpW a b < 0 ↔ ltW a b := by
  unfold cmpW orI cmpI ltW
  (repeat' split) <;> omega
theorem si_two (w : World) (x y : Int) : SI (w.alloc (.cells #[.int .i64 x, .int .i64 y] 3)) (some ⟨w.heap.size, 0, none⟩) 2 [x, y] :=
  ⟨rfl, fun _ => ⟨w.heap.size, 0, rfl, by simp, fun k hk => by
    have hb := Blk.new w 3 #[.int .i64 x, .int .i64 y]
    match k, hk with
    | 0, _ => exact hb.cell 0
    | 1, _ => exact hb.cell 1⟩⟩
set_option maxHeartbeats 800000 in
theorem or_any (A : Option Addr) (c : Nat) (x y : Int) (w : World) (hs : SI w A 2 [x, y]) :
    Calls Try.prog 53 #[.slice A 2 c] w fun r w' => r = .returned (.int .i64 (orI x y)) ∧ Drawn w w' := by
  go_enter Try.func53, Try.ntmps53
  go_wp2
  go_loopw [8] (fun i wr => ∃ k : Nat, k ≤ 2 ∧ i = .int .i64 k ∧ Drawn w wr ∧ (0 < k → x = 0) ∧ (1 < k → y = 0)) (fun i _ => 2 - (intOf i).toNat)
  case atStart => exact ⟨0, Nat.zero_le _, rfl, Drawn.refl _, fun h => absurd h (by omega), fun h => absurd h (by omega)⟩
  case round =>
    obtain ⟨k, hk, rfl, hD, h0, h1⟩ := hrel
    have HD := Lib.hid hD
    have hs' := hD.si hs
    by_cases hlt : k < 2
    · have hlI : (k : Int) < 2 := by omega
      obtain ⟨b, o, rfl, hb, hc⟩ := hs'.at_ (by omega)
      have hck := hc k hlt
      obtain ⟨z, hz⟩ : ∃ z, z = nth [x, y] k := ⟨_, rfl⟩
      rw [← hz] at hck
      have HZ := Lib.hid hz
      have H0 := Lib.hid h0
      clear hc hs' hs hz hD h0 h1
      by_cases hz0 : z = 0
      · have HZ0 := Lib.hid hz0
        subst hz0
        go_wp2
        go_roundw
        case rel =>
          have e := HZ.out
          refine ⟨k + 1, by omega, by go_num, HD.out, fun _ => ?_, fun h => ?_⟩
          · rcases Nat.eq_zero_or_pos k with hk0 | hk0
            · subst hk0; exact e.symm
            · exact H0.out hk0
          · obtain rfl : k = 1 := by omega
            exact e.symm
        case measure => simp [intOf]; omega
      · have hne : (z != 0) = true := by simpa using hz0
        have HF : Hid (orI x y = z) := Lib.hid (by
          have e := HZ.out
          unfold orI
          rcases Nat.eq_zero_or_pos k with hk0 | hk0
          · subst hk0
            have e : z = x := e
            rw [if_neg (by rw [← e]; exact hz0), e]
          · obtain rfl : k = 1 := by omega
            have e : z = y := e
            rw [if_pos (H0.out hk0), e])
        go_wp2
        go_ret
        exact ⟨by rw [HF.out]; rfl, HD.out⟩
    · obtain rfl : k = 2 := by omega
      have HF : Hid (orI x y = 0) := Lib.hid (by unfold orI; rw [if_pos (h0 (by omega))]; exact h1 (by omega))
      clear hs' hs hD h0 h1
      go_wp2
      go_ret
      exact ⟨by rw [HF.out]; rfl, HD.out⟩

set_option maxRecDepth 100000 in
set_option maxHeartbeats 1600000 in
theorem dreamLess_any (x y x' y' : Int) (w : World) :
    Calls Try.prog 52 #[.agg #[.int .i64 x, .int .i64 y], .agg #[.int .i64 x', .int .i64 y']] w fun e w' => e = .returned (.int .i64 (cmpW (x, y) (x', y'))) ∧ Grew w w' := by
  obtain ⟨w1, hw1⟩ : ∃ w1, w1 = (w.alloc (.cells #[.int .i64 x, .int .i64 y] 67)).alloc (.cells #[.int .i64 x', .int .i64 y'] 67) := ⟨_, rfl⟩
  obtain ⟨g, hg⟩ : ∃ g, g = w.heap.size := ⟨_, rfl⟩
  have hk : Blk w1 g 67 #[.int .i64 x, .int .i64 y] := by rw [hw1, hg]; exact (Blk.new _ _ _).alloc _
  have hk2 : Blk w1 (g + 1) 67 #[.int .i64 x', .int .i64 y'] := by
    rw [hw1, hg]
    have := Blk.new (w.alloc (.cells #[.int .i64 x, .int .i64 y] 67)) 67 #[.int .i64 x', .int .i64 y']
    simpa using this
  have HB : Hid (Grew w w1) := Lib.hid (by rw [hw1]; exact ((Grew.refl w).alloc _).alloc _)
  have HW := Lib.hid hw1
  have HG := Lib.hid hg
  have q0 : w1.cell? ⟨g, 0, none⟩ = some (.int .i64 x) := hk.cell 0
  have q1 : w1.cell? ⟨g, 1, none⟩ = some (.int .i64 y) := hk.cell 1
  have r0 : w1.cell? ⟨g + 1, 0, none⟩ = some (.int .i64 x') := hk2.cell 0
  have r1 : w1.cell? ⟨g + 1, 1, none⟩ = some (.int .i64 y') := hk2.cell 1
  have HQ : Hid (w1.cell? ⟨g, 0, none⟩ = some (.int .i64 x) ∧ w1.cell? ⟨g, 1, none⟩ = some (.int .i64 y) ∧ w1.cell? ⟨g + 1, 0, none⟩ = some (.int .i64 x') ∧ w1.cell? ⟨g + 1, 1, none⟩ = some (.int .i64 y')) := Lib.hid ⟨q0, q1, r0, r1⟩
  have HQD : Hid (w1.drew.cell? ⟨g, 0, none⟩ = some (.int .i64 x) ∧ w1.drew.cell? ⟨g, 1, none⟩ = some (.int .i64 y) ∧ w1.drew.cell? ⟨g + 1, 0, none⟩ = some (.int .i64 x') ∧ w1.drew.cell? ⟨g + 1, 1, none⟩ = some (.int .i64 y')) := Lib.hid ⟨q0, q1, r0, r1⟩
  have KL : Hid (∀ o, (w1.alloc o).drew.cell? ⟨g, 0, none⟩ = some (.int .i64 x) ∧ (w1.alloc o).drew.cell? ⟨g, 1, none⟩ = some (.int .i64 y) ∧ (w1.alloc o).drew.cell? ⟨g + 1, 0, none⟩ = some (.int .i64 x') ∧ (w1.alloc o).drew.cell? ⟨g + 1, 1, none⟩ = some (.int .i64 y')) := Lib.hid (fun o => by
    have hb : Below w1.heap.size w1 (w1.alloc o).drew := ((Below.refl _ _).alloc (Nat.le_refl _) o).drew
    have h1 := hk.below hb hk.lt
    have h2 := hk2.below hb hk2.lt
    exact ⟨h1.cell 0, h1.cell 1, h2.cell 0, h2.cell 1⟩)
  have KA : Hid (∀ o, (w1.alloc o).cell? ⟨g, 0, none⟩ = some (.int .i64 x) ∧ (w1.alloc o).cell? ⟨g, 1, none⟩ = some (.int .i64 y) ∧ (w1.alloc o).cell? ⟨g + 1, 0, none⟩ = some (.int .i64 x') ∧ (w1.alloc o).cell? ⟨g + 1, 1, none⟩ = some (.int .i64 y')) := Lib.hid KL.out
  obtain ⟨z1, hz1⟩ : ∃ z, z = cmpI x x' := ⟨_, rfl⟩
  obtain ⟨z2, hz2⟩ : ∃ z, z = cmpI y' y := ⟨_, rfl⟩
  have H1 : Hid (∀ u, Calls Try.prog 54 #[.int .i64 x, .int .i64 x'] u fun r w' => r = .returned (.int .i64 z1) ∧ w' = u) := Lib.hid (fun u => by rw [hz1]; exact compare_any _ _ u)
  have H2 : Hid (∀ u, Calls Try.prog 54 #[.int .i64 y', .int .i64 y] u fun r w' => r = .returned (.int .i64 z2) ∧ w' = u) := Lib.hid (fun u => by rw [hz2]; exact compare_any _ _ u)
  have H3 : Hid (Calls Try.prog 53 #[.slice (some ⟨w1.heap.size, 0, none⟩) 2 2] (w1.alloc (.cells #[.int .i64 z1, .int .i64 z2] 3)).drew fun r w' => r = .returned (.int .i64 (orI z1 z2)) ∧ Drawn (w1.alloc (.cells #[.int .i64 z1, .int .i64 z2] 3)).drew w') := Lib.hid (or_any _ 2 z1 z2 _ (show SI (w1.alloc (.cells #[.int .i64 z1, .int .i64 z2] 3)).drew _ _ _ from si_two w1 z1 z2))
  have HE : Hid (cmpW (x, y) (x', y') = orI z1 z2) := Lib.hid (by rw [hz1, hz2]; rfl)
  clear hk hk2 hw1 hg hz1 hz2
  go_enter Try.func52, Try.ntmps52
  go_upto_region 1 with fail
  rw [← HW.out, ← HG.out]
  go_region_held3 (fun w' => w'.cell? ⟨g, 0, none⟩ = some (.int .i64 x) ∧ w'.cell? ⟨g, 1, none⟩ = some (.int .i64 y) ∧ w'.cell? ⟨g + 1, 0, none⟩ = some (.int .i64 x') ∧ w'.cell? ⟨g + 1, 1, none⟩ = some (.int .i64 y'))
    (first | with_reducible exact HQD.out | with_reducible exact HQ.out | with_reducible exact KL.out _ | with_reducible exact KA.out _ | exact K5)
    (first
      | (go_at_call 54; (with_reducible refine (H1.out _).mono ?_); rintro e u1 ⟨rfl, rfl⟩)
      | (go_at_call 54; (with_reducible refine (H2.out _).mono ?_); rintro e u2 ⟨rfl, rfl⟩)
      | (go_at_call 53; (with_reducible refine H3.out.mono ?_); rintro e w5 ⟨rfl, hd⟩; have HD := Lib.hid hd; have K5 : w5.cell? ⟨g, 0, none⟩ = some (.int .i64 x) ∧ w5.cell? ⟨g, 1, none⟩ = some (.int .i64 y) ∧ w5.cell? ⟨g + 1, 0, none⟩ = some (.int .i64 x') ∧ w5.cell? ⟨g + 1, 1, none⟩ = some (.int .i64 y') := (by obtain ⟨m, rfl⟩ := hd; exact KL.out _); clear hd))
  go_wp2
  go_ret
  exact ⟨by rw [HE.out]; rfl, (HB.out.alloc _).drew.trans (Grew.of_drawn HD.out)⟩
set_option maxRecDepth 100000 in
set_option maxHeartbeats 1600000 in
theorem compareCells_any (x y x' y' : Int) (w : World) :
    Calls Try.prog 64 #[.agg #[.int .i64 x, .int .i64 y], .agg #[.int .i64 x', .int .i64 y']] w fun e w' => e = .returned (.int .i64 (cmpC (x, y) (x', y'))) ∧ Grew w w' := by
  obtain ⟨w1, hw1⟩ : ∃ w1, w1 = (w.alloc (.cells #[.int .i64 x, .int .i64 y] 67)).alloc (.cells #[.int .i64 x', .int .i64 y'] 67) := ⟨_, rfl⟩
  obtain ⟨g, hg⟩ : ∃ g, g = w.heap.size := ⟨_, rfl⟩
  have hk : Blk w1 g 67 #[.int .i64 x, .int .i64 y] := by rw [hw1, hg]; exact (Blk.new _ _ _).alloc _
  have hk2 : Blk w1 (g + 1) 67 #[.int .i64 x', .int .i64 y'] := by
    rw [hw1, hg]
    have := Blk.new (w.alloc (.cells #[.int .i64 x, .int .i64 y] 67)) 67 #[.int .i64 x', .int .i64 y']
    simpa using this
  have HB : Hid (Grew w w1) := Lib.hid (by rw [hw1]; exact ((Grew.refl w).alloc _).alloc _)
  have HW := Lib.hid hw1
  have HG := Lib.hid hg
  have q0 : w1.cell? ⟨g, 0, none⟩ = some (.int .i64 x) := hk.cell 0
  have q1 : w1.cell? ⟨g, 1, none⟩ = some (.int .i64 y) := hk.cell 1
  have r0 : w1.cell? ⟨g + 1, 0, none⟩ = some (.int .i64 x') := hk2.cell 0
  have r1 : w1.cell? ⟨g + 1, 1, none⟩ = some (.int .i64 y') := hk2.cell 1
  have HQ : Hid (w1.cell? ⟨g, 0, none⟩ = some (.int .i64 x) ∧ w1.cell? ⟨g, 1, none⟩ = some (.int .i64 y) ∧ w1.cell? ⟨g + 1, 0, none⟩ = some (.int .i64 x') ∧ w1.cell? ⟨g + 1, 1, none⟩ = some (.int .i64 y')) := Lib.hid ⟨q0, q1, r0, r1⟩
  have HQD : Hid (w1.drew.cell? ⟨g, 0, none⟩ = some (.int .i64 x) ∧ w1.drew.cell? ⟨g, 1, none⟩ = some (.int .i64 y) ∧ w1.drew.cell? ⟨g + 1, 0, none⟩ = some (.int .i64 x') ∧ w1.drew.cell? ⟨g + 1, 1, none⟩ = some (.int .i64 y')) := Lib.hid ⟨q0, q1, r0, r1⟩
  have KL : Hid (∀ o, (w1.alloc o).drew.cell? ⟨g, 0, none⟩ = some (.int .i64 x) ∧ (w1.alloc o).drew.cell? ⟨g, 1, none⟩ = some (.int .i64 y) ∧ (w1.alloc o).drew.cell? ⟨g + 1, 0, none⟩ = some (.int .i64 x') ∧ (w1.alloc o).drew.cell? ⟨g + 1, 1, none⟩ = some (.int .i64 y')) := Lib.hid (fun o => by
    have hb : Below w1.heap.size w1 (w1.alloc o).drew := ((Below.refl _ _).alloc (Nat.le_refl _) o).drew
    have h1 := hk.below hb hk.lt
    have h2 := hk2.below hb hk2.lt
    exact ⟨h1.cell 0, h1.cell 1, h2.cell 0, h2.cell 1⟩)
  have KA : Hid (∀ o, (w1.alloc o).cell? ⟨g, 0, none⟩ = some (.int .i64 x) ∧ (w1.alloc o).cell? ⟨g, 1, none⟩ = some (.int .i64 y) ∧ (w1.alloc o).cell? ⟨g + 1, 0, none⟩ = some (.int .i64 x') ∧ (w1.alloc o).cell? ⟨g + 1, 1, none⟩ = some (.int .i64 y')) := Lib.hid KL.out
  obtain ⟨z1, hz1⟩ : ∃ z, z = cmpI x x' := ⟨_, rfl⟩
  obtain ⟨z2, hz2⟩ : ∃ z, z = cmpI y y' := ⟨_, rfl⟩
  have H1 : Hid (∀ u, Calls Try.prog 54 #[.int .i64 x, .int .i64 x'] u fun r w' => r = .returned (.int .i64 z1) ∧ w' = u) := Lib.hid (fun u => by rw [hz1]; exact compare_any _ _ u)
  have H2 : Hid (∀ u, Calls Try.prog 54 #[.int .i64 y, .int .i64 y'] u fun r w' => r = .returned (.int .i64 z2) ∧ w' = u) := Lib.hid (fun u => by rw [hz2]; exact compare_any _ _ u)
  have H3 : Hid (Calls Try.prog 53 #[.slice (some ⟨w1.heap.size, 0, none⟩) 2 2] (w1.alloc (.cells #[.int .i64 z1, .int .i64 z2] 3)).drew fun r w' => r = .returned (.int .i64 (orI z1 z2)) ∧ Drawn (w1.alloc (.cells #[.int .i64 z1, .int .i64 z2] 3)).drew w') := Lib.hid (or_any _ 2 z1 z2 _ (show SI (w1.alloc (.cells #[.int .i64 z1, .int .i64 z2] 3)).drew _ _ _ from si_two w1 z1 z2))
  have HE : Hid (cmpC (x, y) (x', y') = orI z1 z2) := Lib.hid (by rw [hz1, hz2]; rfl)
  clear hk hk2 hw1 hg hz1 hz2
  go_enter Try.func64, Try.ntmps64
  go_upto_region 1 with fail
  rw [← HW.out, ← HG.out]
  go_region_held3 (fun w' => w'.cell? ⟨g, 0, none⟩ = some (.int .i64 x) ∧ w'.cell? ⟨g, 1, none⟩ = some (.int .i64 y) ∧ w'.cell? ⟨g + 1, 0, none⟩ = some (.int .i64 x') ∧ w'.cell? ⟨g + 1, 1, none⟩ = some (.int .i64 y'))
    (first | with_reducible exact HQD.out | with_reducible exact HQ.out | with_reducible exact KL.out _ | with_reducible exact KA.out _ | exact K5)
    (first
      | (go_at_call 54; (with_reducible refine (H1.out _).mono ?_); rintro e u1 ⟨rfl, rfl⟩)
      | (go_at_call 54; (with_reducible refine (H2.out _).mono ?_); rintro e u2 ⟨rfl, rfl⟩)
      | (go_at_call 53; (with_reducible refine H3.out.mono ?_); rintro e w5 ⟨rfl, hd⟩; have HD := Lib.hid hd; have K5 : w5.cell? ⟨g, 0, none⟩ = some (.int .i64 x) ∧ w5.cell? ⟨g, 1, none⟩ = some (.int .i64 y) ∧ w5.cell? ⟨g + 1, 0, none⟩ = some (.int .i64 x') ∧ w5.cell? ⟨g + 1, 1, none⟩ = some (.int .i64 y') := (by obtain ⟨m, rfl⟩ := hd; exact KL.out _); clear hd))
  go_wp2
  go_ret
  exact ⟨by rw [HE.out]; rfl, (HB.out.alloc _).drew.trans (Grew.of_drawn HD.out)⟩
end Go.Proofs.Ytdiiaallklkomaa

/-
  The library's sort: the worlds that it passes through, in the words of slices that a call owns. Plain lemmas. No conditions.
-/



namespace Go.Proofs.Ytdiiaallklkomaa
open Go.RowKit

theorem ix_lt {n : Nat} (h : 0 < n) (i : Nat) : (if i < n then i else 0) < n := by split <;> omega
/-- A number as a place among the first n. -/
def ix (n i : Nat) : Nat := if i < n then i else 0
theorem ix_of {n i : Nat} (h : i < n) : ix n i = i := if_pos h
theorem ix_in {n : Nat} (h : 0 < n) (i : Nat) : ix n i < n := ix_lt h i

theorem sortWorld_block (enc : Nat → List Value) (size : Nat) (w : World) (g m : Nat) (dk : Array Nat) (os : Array Obj) {cur : Array Value} {e : TypeId} {fr : Nat × Nat} (h : w.heap[g]? = some (.cells cur e fr)) :
    (sortWorldK enc size w g 0 m dk os).heap[g]? = some (.cells (Go.Sort.putCells id 0 (Go.Sort.flatK enc size dk) cur) e fr) := by
  have hlt : g < w.heap.size := by
    rcases Nat.lt_or_ge g w.heap.size with h1 | h1
    · exact h1
    · rw [Array.getElem?_eq_none h1] at h; cases h
  unfold sortWorldK
  rw [Go.Sort.heap_grow_old _ _ (by rw [show (Go.Sort.putRowK enc size (Go.Sort.ahead w m) g 0 dk).heap.size = w.heap.size by simp [Go.Sort.putRowK, Go.Sort.ahead]]; exact hlt)]
  simp [Go.Sort.putRowK, Go.Sort.putRow, Go.Sort.mapBlock, Go.Sort.ahead, Array.getElem?_modify, h, Go.Sort.onCells]
theorem sortWorld_grown (enc : Nat → List Value) (size : Nat) (w : World) (g m : Nat) (dk : Array Nat) (os : Array Obj) : w.grownBy (sortWorldK enc size w g 0 m dk os) (some g) := by
  refine ⟨rfl, rfl, rfl, by simp [sortWorldK, Go.Sort.putRowK, Go.Sort.ahead], fun k hk hne => ?_⟩
  unfold sortWorldK
  rw [Go.Sort.heap_grow_old _ _ (by rw [show (Go.Sort.putRowK enc size (Go.Sort.ahead w m) g 0 dk).heap.size = w.heap.size by simp [Go.Sort.putRowK, Go.Sort.ahead]]; exact hk)]
  have hgk : g ≠ k := fun e => hne (by rw [e])
  simp [Go.Sort.putRowK, Go.Sort.putRow, Go.Sort.mapBlock, Go.Sort.ahead, Array.getElem?_modify, hgk]
/-- The row that the sort leaves is owned as the one that came. -/
theorem sortWorld_owns {w : World} {base size n c g : Nat} {e : TypeId} {xs : List Value} {enc : Nat → List Value} (h : w.ownsRow base e size (.slice (some ⟨g, 0, none⟩) n c) n xs) (m : Nat) (dk : Array Nat) (os : Array Obj) (hd : dk.size = n) :
    (sortWorldK enc size w g 0 m dk os).ownsRow base e size (.slice (some ⟨g, 0, none⟩) n c) n (Go.Sort.flatK enc size dk).toList := by
  obtain ⟨_, h2⟩ := h
  rcases h2 with ⟨hx, _⟩ | ⟨g', cap, cur, hv, hlo, hg, hnc, hcm, hcs, htake⟩
  · cases hx
  · simp only [Value.slice.injEq, Option.some.injEq, Addr.mk.injEq, and_true, true_and] at hv
    obtain ⟨rfl, rfl⟩ := hv
    refine ⟨by simp [hd], .inr ⟨g, c, _, rfl, hlo, sortWorld_block enc size w g m dk os hg, hnc, hcm, by simp [Go.Sort.putCells, hcs], ?_⟩⟩
    apply List.ext_getElem?
    intro j
    have hle : n * size ≤ cur.size := by rw [hcs]; exact Nat.mul_le_mul_right _ hnc
    by_cases hj : j < n * size
    · rw [List.getElem?_take_of_lt hj]
      simp only [Array.getElem?_toList, Go.Sort.putCells, Array.getElem?_mapIdx]
      rw [Array.getElem?_eq_getElem (show j < cur.size by omega), Option.map_some, if_pos ⟨Nat.zero_le _, by simp [hd]; omega⟩, Array.getElem?_eq_getElem (show j < (Go.Sort.flatK enc size dk).size by simp [hd]; omega), Nat.sub_zero, getElem!_pos (Go.Sort.flatK enc size dk) j (by simp [hd]; omega)]
      rfl
    · rw [List.getElem?_eq_none (by simp; omega), List.getElem?_eq_none (by simp [hd]; omega)]
/-- What an owned row holds, in the sort's words. -/
theorem holds_of_owns {w : World} {base size n c g : Nat} {e : TypeId} {xs : List Value} {enc : Nat → List Value} (h : w.ownsRow base e size (.slice (some ⟨g, 0, none⟩) n c) n xs) (d : Array Nat) (hx : xs = (Go.Sort.flatK enc size d).toList) : Go.Sort.HoldsK enc size w g 0 d := by
  intro j hj
  subst hx
  refine ⟨?_, h.frozenAt _⟩
  have hl := h.1
  simp at hl
  rw [Nat.zero_add, h.cellAt j (by rw [← hl]; simpa using hj)]
  simp only [Array.getElem?_toList]
  rw [Array.getElem?_eq_getElem hj, getElem!_pos (Go.Sort.flatK enc size d) j hj]
  rfl
/-- What was sorted, as lists: the places of the numbers in their new order. -/
theorem sorted_lists {n : Nat} {lt : Nat → Nat → Bool} {dk : Array Nat} (hp : Go.Sort.PermIn 0 (Array.range n).size (Array.range n) dk) (hs : Go.Sort.SortedIn lt 0 (Array.range n).size dk) :
    dk.size = n ∧ dk.toList.Perm (List.range n) ∧ dk.toList.Pairwise (fun i j => lt j i = false) := by
  obtain ⟨h1, _, h3⟩ := hp
  have hsz : dk.size = n := by simpa using h1
  refine ⟨hsz, ?_, ?_⟩
  · have e1 : dk.extract 0 (Array.range n).size = dk := by
      rw [Array.size_range, ← hsz]; simp
    have e2 : (Array.range n).extract 0 (Array.range n).size = Array.range n := by simp
    rw [e1, e2] at h3
    simpa using h3
  · rw [List.pairwise_iff_getElem]
    intro i j hi hj hij
    simp at hi hj
    have := hs i j (Nat.zero_le _) hij (by rw [Array.size_range]; omega)
    rw [getElem!_pos dk i (by omega), getElem!_pos dk j (by omega)] at this
    simpa using this
end Go.Proofs.Ytdiiaallklkomaa

/-
  slices.SortFunc over cells by a comparison that is an order: a permutation in ascending order, in the slice's own block; slices.Clone of cells. Conditions: lengths below 2^40.
-/






namespace Go.Proofs.Ytdiiaallklkomaa
open Go.RowKit

theorem flat2C (dk : Array Nat) (enc : Nat → List Value) (f : Nat → Value × Value) (henc : ∀ k, k < dk.size → enc dk[k]! = [(f k).1, (f k).2]) : (Go.Sort.flatK enc 2 dk).toList = cells2 dk.size f := by
  apply List.ext_getElem?
  intro j
  by_cases hj : j < dk.size * 2
  · rw [cells2_get f hj, Array.getElem?_toList, Array.getElem?_eq_getElem (by simpa using hj), ← getElem!_pos (Go.Sort.flatK enc 2 dk) j (by simpa using hj), Go.Sort.get_flatK enc 2 dk j hj, henc (j / 2) (by omega)]
    rcases Nat.mod_two_eq_zero_or_one j with e | e <;> rw [e] <;> simp
  · rw [List.getElem?_eq_none (by simp; omega), List.getElem?_eq_none (by simp [cells2_len]; omega)]
theorem Try.isAggCell (w : World) : (isAgg 67).run Try.prog w = .ok true w := by kernel_rfl
theorem Try.sizeCell (w : World) : (sizeOf 67).run Try.prog w = .ok 2 w := by kernel_rfl
/-- What a comparison must be. -/
structure CmpOk (cf : Ce → Ce → Int) : Prop where
  irr : ∀ a, ¬ cf a a < 0
  tr : ∀ a b c, cf a b < 0 → cf b c < 0 → cf a c < 0
  ntr : ∀ a b c, ¬ cf a b < 0 → ¬ cf b c < 0 → ¬ cf a c < 0
theorem cmpOkW : CmpOk cmpW where
  irr a := by rw [cmpW_lt]; unfold ltW; omega
  tr a b c := by rw [cmpW_lt, cmpW_lt, cmpW_lt]; unfold ltW; omega
  ntr a b c := by rw [cmpW_lt, cmpW_lt, cmpW_lt]; unfold ltW; omega
theorem cmpOkC : CmpOk cmpC where
  irr a := by rw [cmpC_lt]; unfold lessC; omega
  tr a b c := by rw [cmpC_lt, cmpC_lt, cmpC_lt]; unfold lessC; omega
  ntr a b c := by rw [cmpC_lt, cmpC_lt, cmpC_lt]; unfold lessC; omega
theorem CmpOk.swo {cf : Ce → Ce → Int} (h : CmpOk cf) (f : Nat → Ce) : Go.Sort.SWO (ltOf fun i j : Nat => cf (f i) (f j)) where
  irrefl i := decide_eq_false (h.irr _)
  trans i j k h1 h2 := by
    have h1 : cf (f i) (f j) < 0 := of_decide_eq_true h1
    have h2 : cf (f j) (f k) < 0 := of_decide_eq_true h2
    exact decide_eq_true (h.tr _ _ _ h1 h2)
  ntrans i j k h1 h2 := by
    have h1 : ¬ cf (f i) (f j) < 0 := of_decide_eq_false h1
    have h2 : ¬ cf (f j) (f k) < 0 := of_decide_eq_false h2
    exact decide_eq_false (h.ntr _ _ _ h1 h2)
set_option maxHeartbeats 1000000 in
/-- At least one cell. -/
theorem sortCells_own (F : FuncId) (cf : Ce → Ce → Int) (hok : CmpOk cf) (eg : ∀ args w, (callFunc F args).run Try.prog w = .ok (.enter F args) w)
    (hF : ∀ x y x' y' u, Calls Try.prog F #[.agg #[.int .i64 x, .int .i64 y], .agg #[.int .i64 x', .int .i64 y']] u fun e w' => e = .returned (.int .i64 (cf (x, y) (x', y'))) ∧ Grew u w')
    (g n c lo hi : Nat) (cs : List Ce) (w : World) (h : OwnC w lo hi (some ⟨g, 0, none⟩) n c cs) (h0 : 0 < n) (hn : n ≤ 1099511627776) :
    Calls Try.prog 51 #[.slice (some ⟨g, 0, none⟩) n c, .func (.func F) #[] #[]] w fun e w' => e = .returned (.tuple #[]) ∧
      ∃ us : List Ce, us.Perm cs ∧ us.Pairwise (fun a b => ¬ cf b a < 0) ∧ OwnC w' lo hi (some ⟨g, 0, none⟩) n c us ∧ w.grownBy w' (some g) := by
  obtain ⟨hl, ho, hh⟩ := h
  have hg : g < w.heap.size := (ho.lt g rfl).2
  obtain ⟨enc, henc⟩ : ∃ enc : Nat → List Value, enc = fun i => [.int .i64 (ce cs (ix n i)).1, .int .i64 (ce cs (ix n i)).2] := ⟨_, rfl⟩
  have hk : ∀ x, (enc x).length = 2 := fun x => by rw [henc]; rfl
  have h1 : ∀ x, ∀ v ∈ enc x, v.oneCell' = true := fun x v hv => by
    rw [henc] at hv
    simp at hv
    rcases hv with rfl | rfl <;> rfl
  have hcells : cells2 n (cv cs) = (Go.Sort.flatK enc 2 (Array.range n)).toList := by
    rw [flat2C (Array.range n) enc (cv cs) (fun k hk => by
      rw [Array.size_range] at hk
      rw [getElem!_pos _ k (by simpa using hk), henc]
      simp [ix_of hk, cv]), Array.size_range]
  have hH := holds_of_owns (enc := enc) ho (Array.range n) hcells
  have hcmp : CmpLays Try.prog F #[] enc 2 (fun i j => cf (ce cs (ix n i)) (ce cs (ix n j))) g 0 (Array.range n).size w := fun m os dk hd x y => by
    have hc := hF (ce cs (ix n x)).1 (ce cs (ix n x)).2 (ce cs (ix n y)).1 (ce cs (ix n y)).2 (sortWorldK enc 2 w g 0 m dk os)
    have e1 : (enc x).toArray = #[.int .i64 (ce cs (ix n x)).1, .int .i64 (ce cs (ix n x)).2] := by rw [henc]
    have e2 : (enc y).toArray = #[.int .i64 (ce cs (ix n y)).1, .int .i64 (ce cs (ix n y)).2] := by rw [henc]
    rw [e1, e2]
    exact hc
  have hcon := AnyQ.slices_SortFunc Try.sortD 2 Try.isAggCell Try.sizeCell enc hk h1 (fun i j => cf (ce cs (ix n i)) (ce cs (ix n j))) (hok.swo fun i => ce cs (ix n i)) F #[] g 0 c (Array.range n) w eg hcmp hH hg (by rw [Array.size_range]; omega)
  change Calls Try.prog 51 _ _ _ at hcon
  rw [Array.size_range] at hcon
  refine hcon.mono ?_
  rintro e w' ⟨rfl, dk, m, os, hp, hs, rfl⟩
  obtain ⟨hsz, hperm, hsort⟩ := sorted_lists (by rw [Array.size_range]; exact hp) (by rw [Array.size_range]; exact hs)
  have gg := sortWorld_grown enc 2 w g m dk os
  have hin : ∀ k, k < n → dk[k]! < n := fun k hk => by
    have : dk[k]! ∈ dk.toList := by
      rw [getElem!_pos dk k (by omega)]
      exact Array.getElem_mem_toList _
    have := hperm.mem_iff.1 this
    simpa using this
  obtain ⟨us, hus⟩ : ∃ us, us = dk.toList.map (ce cs) := ⟨_, rfl⟩
  have hul : us.length = n := by rw [hus]; simp [hsz]
  have htm : ∀ k, k < n → ce us k = ce cs dk[k]! := fun k hk => by
    rw [hus, getElem!_pos dk k (by omega)]
    unfold ce
    simp [List.getD, show k < dk.size by omega]
  refine ⟨rfl, us, ?_, ?_, ⟨hul, ?_, hh⟩, gg⟩
  · have e1 : cs = (List.range n).map (ce cs) := by
      apply List.ext_getElem (by simp [hl])
      intro k hk1 hk2
      simp [ce, List.getD, hk1]
    rw [hus]
    have := hperm.map (ce cs)
    rwa [← e1] at this
  · rw [hus, List.pairwise_map]
    refine hsort.imp_of_mem ?_
    intro i j hi hj hlt
    have hi := hperm.mem_iff.1 hi
    have hj := hperm.mem_iff.1 hj
    simp at hi hj
    have hlt : ¬ cf (ce cs (ix n j)) (ce cs (ix n i)) < 0 := of_decide_eq_false hlt
    rw [ix_of hi, ix_of hj] at hlt
    exact hlt
  · have o2 := sortWorld_owns (enc := enc) ho m dk os hsz
    refine rowc_eq o2 ?_
    rw [flat2C dk enc (cv us) (fun k hk => by
      rw [henc]
      simp only [ix_of (hin k (by omega)), cv]
      rw [htm k (by omega)]), hsz]
/-- At no cell. -/
theorem sortCells_none (A : Option Addr) (c : Nat) (fv : Value) (w : World) :
    Calls Try.prog 51 #[.slice A 0 c, fv] w fun e w' => e = .returned (.tuple #[]) ∧ w' = w :=
  AnyF.slices_SortFunc_none Try.sortD A c fv w
/-- Whatever their number. -/
theorem sortCells_any (F : FuncId) (cf : Ce → Ce → Int) (hok : CmpOk cf) (eg : ∀ args w, (callFunc F args).run Try.prog w = .ok (.enter F args) w)
    (hF : ∀ x y x' y' u, Calls Try.prog F #[.agg #[.int .i64 x, .int .i64 y], .agg #[.int .i64 x', .int .i64 y']] u fun e w' => e = .returned (.int .i64 (cf (x, y) (x', y'))) ∧ Grew u w')
    (A : Option Addr) (n c lo : Nat) (cs : List Ce) (w : World) (h : OwnC w lo w.heap.size A n c cs) (hlo : lo ≤ w.heap.size) (hn : n ≤ 1099511627776) :
    Calls Try.prog 51 #[.slice A n c, .func (.func F) #[] #[]] w fun e w' => e = .returned (.tuple #[]) ∧
      ∃ us : List Ce, us.Perm cs ∧ us.Pairwise (fun a b => ¬ cf b a < 0) ∧ OwnC w' lo w'.heap.size A n c us ∧ Below lo w w' := by
  by_cases h0 : 0 < n
  · obtain ⟨g, rfl, hg1, hg2⟩ := h.place h0
    refine (sortCells_own F cf hok eg hF g n c lo w.heap.size cs w h h0 hn).mono ?_
    rintro e w' ⟨rfl, us, hp, hs, ho, hg⟩
    exact ⟨rfl, us, hp, hs, ho.wide (Nat.le_refl _) hg.size, (Below.refl w.heap.size w |>.mono hlo).grown hg hlo (by rintro q ⟨⟩; exact hg1)⟩
  · obtain rfl : n = 0 := by omega
    refine (sortCells_none A c _ w).mono ?_
    rintro e w' ⟨rfl, rfl⟩
    obtain rfl : cs = [] := List.eq_nil_of_length_eq_zero h.1
    exact ⟨rfl, [], List.Perm.refl _, List.Pairwise.nil, h, Below.refl _ _ |>.mono hlo⟩
/-- Cells in strictly ascending order of reading, out of a sorted list without repetition. -/
theorem pairwise_ltW {us cs : List Ce} (hp : us.Perm cs) (hs : us.Pairwise (fun a b => ¬ cmpW b a < 0)) (hnd : cs.Nodup) : us.Pairwise ltW := by
  have h1 : us.Pairwise (· ≠ ·) := List.nodup_iff_pairwise_ne.1 (hp.nodup_iff.2 hnd)
  refine (hs.and h1).imp ?_
  rintro a b ⟨h2, h3⟩
  rw [cmpW_lt] at h2
  unfold ltW at *
  rcases Decidable.em (a.1 = b.1 ∧ a.2 = b.2) with e | e
  · exact absurd (Prod.ext e.1 e.2) h3
  · omega
theorem crossP.nodup {n : Int} {cs : List Ce} (h : crossP n cs) : cs.Nodup := by
  rw [List.nodup_iff_pairwise_ne, List.pairwise_iff_getElem]
  intro i j hi hj hij e
  have h1 := h.lt j i hij hj
  rw [ce_get hi, ce_get hj, e] at h1
  unfold lessC at h1
  omega
theorem cells2_one' {n : Nat} {cs : List Ce} : ∀ u ∈ cells2 n (cv cs), u.oneCell' = true := by
  intro u hu
  obtain ⟨j, hj, rfl⟩ := List.getElem_of_mem hu
  have hj2 : j < n * 2 := by rw [← cells2_len n (cv cs)]; exact hj
  have h1 := cells2_get (cv cs) hj2
  rw [List.getElem?_eq_getElem hj] at h1
  injection h1 with h1
  rw [h1]
  split <;> rfl
/-- All cells of one slice behind those of another one of the call's own. -/
theorem wpList_append_allC {ops : Array Oper} {rest : List Oper} {o : Oper} {a : Act} {w : World} {Q : Exit → Act → World → Prop} (hgd : o.guard = none) (s x : Operand)
    (ho : o.op = .call { callee := .builtin .append, args := #[s, x], argTypes := #[37, 37] })
    (A2 : Option Addr) (m c2 : Nat) (ys : List Ce) (hs : a.eval s = .slice (some ⟨w.heap.size, 0, none⟩) 0 0) (hx : a.eval x = .slice A2 m c2)
    (hsi : CS w A2 m ys) (hm : m ≤ 1099511627776)
    (hK : ∀ A' c' w', OwnC w' w.heap.size w'.heap.size A' m c' ys → Below w.heap.size w w' → wpList Try.prog ops Q rest (a.put o.dst (.slice A' m c')) w') :
    wpList Try.prog ops Q (o :: rest) a (w.alloc (.cells #[] 67)) := by
  obtain ⟨i0, hi, hz0, hz1, hz2⟩ := info_parts Try.infoCellZ
  have hown := OwnC.empty w
  by_cases h0 : 0 < m
  · obtain ⟨b, off, rfl, hb, hc⟩ := (hsi.below (Below.alloc_self w (.cells #[] 67)) (Nat.le_refl _)).2 h0
    refine wpList_append_own _ hgd s x 37 ho w.heap.size 67 i0 (.agg #[.int .i64 0, .int .i64 0]) 2 16 Try.underlying37 hi hz0 hz1 hz2 rfl (by decide) _ _ _ hs hown.2.1 ⟨b, off, none⟩ m c2 (cells2 m (cv ys)) hx (cells2_len _ _) ?_ cells2_one' (by unfold maxLen; omega) (by omega) (by simp) ?_
    · intro j u hj
      have hjl : j < m * 2 := by
        rcases Nat.lt_or_ge j (m * 2) with h | h
        · exact h
        · rw [List.getElem?_eq_none (by rw [cells2_len]; exact h)] at hj; cases hj
      have hq := cells2_get (cv ys) hjl
      rw [hq] at hj
      have hj := Option.some.inj hj
      obtain ⟨e0, e1⟩ := hc (j / 2) (by omega)
      rw [add_pt]
      rcases Nat.mod_two_eq_zero_or_one j with e | e
      · rw [if_pos e] at hj
        rw [show off + j = off + j / 2 * 2 by omega, e0, ← hj]; rfl
      · rw [if_neg (by omega)] at hj
        rw [show off + j = off + j / 2 * 2 + 1 by omega, e1, ← hj]; rfl
    · intro v' w1 ho1 hg1 _
      simp only [cells2, Nat.zero_add] at ho1
      obtain ⟨g, cap, rfl, _, _⟩ := ho1.form (by omega)
      exact hK _ _ w1 ⟨hsi.1, ho1, fun k hk => (ho1.lt k hk).2⟩ ((Below.alloc_self w _).trans ((grow_below hg1 (by simp) (fun k hk => (hown.2.1.lt k hk).1))))
  · obtain rfl : m = 0 := by omega
    obtain rfl : ys = [] := List.eq_nil_of_length_eq_zero hsi.1
    have hk0 := hK (some ⟨w.heap.size, 0, none⟩) 0 (w.alloc (.cells #[] 67)) (by simpa using hown) (Below.alloc_self _ _)
    refine wpList_plain hgd fun K hK' => ?_
    have hrun : (Builtin.append_ #[37, 37] o.type #[.slice (some ⟨w.heap.size, 0, none⟩) 0 0, .slice A2 0 c2]).run Try.prog (w.alloc (.cells #[] 67)) = .ok (.slice (some ⟨w.heap.size, 0, none⟩) 0 0) (w.alloc (.cells #[] 67)) := by
      have hl0 : ∀ v, (loadCells v 0).run Try.prog (w.alloc (.cells #[] 67)) = .ok #[] (w.alloc (.cells #[] 67)) := fun v => by simp [loadCells, loadCellsFrom]
      cases A2 <;> simp [Builtin.append_, run_underlying Try.underlying37, sizeOf, typeInfo, hi, Builtin.lenOf, Builtin.firstCells, storeCells, hl0]
    unfold Oper.wp
    simp [execOp, ho, resolve, invoke, builtin, hs, hx, hrun, Result.andThen]
    exact hK' _ _ (by simpa using hk0)
theorem OwnC.cap0 {w : World} {lo hi n c : Nat} {A : Option Addr} {cs : List Ce} (h : OwnC w lo hi A n c cs) : A = none → n = 0 ∧ c = 0 := by
  intro e
  subst e
  rcases h.2.1.2 with ⟨e, h0⟩ | ⟨g, cap, cur, e, _⟩
  · injection e with e1 e2 e3
    exact ⟨h0, e3⟩
  · injection e with e1 e2 e3
    cases e1
set_option maxHeartbeats 400000 in
theorem cloneC_any (A : Option Addr) (n c : Nat) (cs : List Ce) (w : World) (hs : CS w A n cs) (hA : A = none → n = 0 ∧ c = 0) (hn : n ≤ 1099511627776) :
    Calls Try.prog 50 #[.slice A n c] w fun e w' => FreshC w w' e cs := by
  have hl := hs.1
  cases A with
  | none =>
    obtain ⟨rfl, rfl⟩ := hA rfl
    have hx : cs = [] := List.eq_nil_of_length_eq_zero hl
    subst hx
    have hnil := fun wx => Lib.run_eql_slice_nil (P := Try.prog) wx 37 67 none 0 0 0 0 Try.underlying37
    go_enter Try.func50, Try.ntmps50
    go_wp2
    go_ret
    exact FreshC.nil_ret (Below.refl _ _)
  | some a =>
    have hnil := fun wx => Lib.run_eql_slice_nil (P := Try.prog) wx 37 67 (some a) n c 0 0 Try.underlying37
    have HL := Lib.hid hl
    clear hl
    go_enter Try.func50, Try.ntmps50
    go_wp2_with (at_builtin; refine wpList_append_allC rfl (.tmp 5) (.tmp 6) rfl (some a) n c cs rfl rfl hs hn ?_; intro A' c' w1 ho1 hb1)
    go_ret
    exact ⟨A', _, c', rfl, ho1, hb1⟩
end Go.Proofs.Ytdiiaallklkomaa

/-
  The program's test for dreams and its words. Conditions: lengths below 2^40; rows that an int holds.
-/




namespace Go.Proofs.Ytdiiaallklkomaa
open Go.RowKit

/-- Rows that an int holds. -/
def FitC (cs : List Ce) : Prop := ∀ k, k < cs.length → (ce cs k).1 ≤ 9223372036854775807
set_option maxRecDepth 100000 in
set_option maxHeartbeats 4000000 in
theorem isDream_any (K : Int) (A : Option Addr) (n c : Nat) (cs : List Ce) (w : World) (hs : CS w A n cs) (hn : n ≤ 1099511627776) (hfit : FitC cs) :
    Calls Try.prog 49 #[.int .i64 K, .slice A n c] w fun e w' => e = .returned (.bool (crossB K cs)) ∧ Below w.heap.size w w' := by
  have HL := Lib.hid hs.1
  have HFT := Lib.hid hfit
  clear hfit
  by_cases hK1 : K < 1
  · have HF : Hid (crossB K cs = false) := Lib.hid (crossB_false (fun h => by have := h.1; omega))
    clear hs
    go_enter Try.func49, Try.ntmps49
    go_wp2
    go_ret
    exact ⟨ret_bool HF.out.symm, Below.refl _ _⟩
  by_cases hK6 : 6 < K
  · have HF : Hid (crossB K cs = false) := Lib.hid (crossB_false (fun h => by have := h.1; omega))
    clear hs
    go_enter Try.func49, Try.ntmps49
    go_wp2
    go_ret
    exact ⟨ret_bool HF.out.symm, Below.refl _ _⟩
  have HKK : Hid (1 ≤ K ∧ K ≤ 6) := Lib.hid (by omega)
  obtain ⟨e2, he2⟩ : ∃ e2, e2 = K - 2 := ⟨_, rfl⟩
  have hwK : IntKind.i64.wrap (K - 2) = e2 := by rw [he2]; exact IntWalk.i64_in _ (by omega)
  have HE2 := Lib.hid he2
  clear he2
  go_enter Try.func49, Try.ntmps49
  go_wp2
  go_loopw [15] (fun i wr => ∃ k : Nat, k ≤ n ∧ i = .int .i64 k ∧ (∀ j, j < k → crossAt K cs j) ∧ Below w.heap.size w wr)
    (fun i _ => n - (intOf i).toNat)
  case atStart => exact ⟨0, Nat.zero_le _, rfl, fun j hj => absurd hj (by omega), Below.refl _ _⟩
  case round =>
    obtain ⟨k, hk, rfl, hall, hbel⟩ := hrel
    have HA := Lib.hid hall
    have HB := Lib.hid hbel
    have hts := hs.below hbel (Nat.le_refl _)
    clear hall hbel hs hK1 hK6
    by_cases hlt : k < n
    · have hlI : (k : Int) < (n : Int) := by omega
      obtain ⟨b, o, rfl, hb, hc0, hc1⟩ := hts.at_ hlt
      have hxf := HFT.out k (by rw [HL.out]; exact hlt)
      obtain ⟨x, hx⟩ : ∃ x, x = (ce cs k).1 := ⟨_, rfl⟩
      obtain ⟨y, hy⟩ : ∃ y, y = (ce cs k).2 := ⟨_, rfl⟩
      rw [← hx] at hc0 hxf
      rw [← hy] at hc1
      have HXY : Hid (ce cs k = (x, y)) := Lib.hid (by rw [hx, hy])
      have NO : Hid (¬ crossAt K cs k → crossB K cs = false) := Lib.hid (fun h => crossB_false (fun h2 => h (h2.2 k (by rw [HL.out]; exact hlt))))
      have HXF := Lib.hid hxf
      clear hx hy hxf
      have HBA : Hid (Below w.heap.size w (wr.alloc (.cells #[.int .i64 x, .int .i64 y] 67))) := Lib.hid (HB.out.alloc HB.out.size _)
      by_cases hr0 : x < 0
      · have HF := Lib.hid (NO.out (fun h => by have h1 := h.1; rw [HXY.out] at h1; unfold inTri at h1; simp at h1; omega))
        clear hts
        go_wp2
        go_ret
        exact ⟨ret_bool HF.out.symm, HBA.out⟩
      obtain ⟨e3, he3⟩ : ∃ e3, e3 = e2 - x := ⟨_, rfl⟩
      have hwE : IntKind.i64.wrap (e2 - x) = e3 := by rw [he3]; exact IntWalk.i64_in _ (by have := HE2.out; have := HKK.out; have := HXF.out; omega)
      have HE3 := Lib.hid he3
      clear he3
      by_cases hc2 : y < 0
      · have HF := Lib.hid (NO.out (fun h => by have h1 := h.1; rw [HXY.out] at h1; unfold inTri at h1; simp at h1; omega))
        clear hts hwE
        go_wp2
        go_ret
        exact ⟨ret_bool HF.out.symm, HBA.out⟩
      by_cases hc3 : e3 < y
      · have HF := Lib.hid (NO.out (fun h => by have h1 := h.1; rw [HXY.out] at h1; unfold inTri at h1; simp at h1; have := HE2.out; have := HE3.out; omega))
        clear hts
        go_wp2
        go_ret
        exact ⟨ret_bool HF.out.symm, HBA.out⟩
      have HT : Hid (inTri K (ce cs k)) := Lib.hid (by rw [HXY.out]; unfold inTri; have := HE2.out; have := HE3.out; simp; omega)
      rcases Nat.eq_zero_or_pos k with h00 | h00
      · subst h00
        have HG : Hid (crossAt K cs 0) := Lib.hid ⟨HT.out, fun h => absurd h (Nat.lt_irrefl _)⟩
        rw [Nat.zero_mul, Nat.add_zero] at hc0 hc1
        clear hts
        go_upto_region 8 with fail
        go_quiet (fail)
        go_wp2
        go_roundw
        case rel => exact ⟨1, by omega, by go_num, fun j hj => by rw [show j = 0 from Nat.lt_one_iff.1 hj]; exact HG.out, HBA.out.trans ((show Drawn _ _ from ⟨_, rfl⟩).below _)⟩
        case measure => simp [intOf]; omega
      · obtain ⟨q, hq⟩ : ∃ q, k = q + 1 := ⟨k - 1, by omega⟩
        have HQ := Lib.hid hq
        obtain ⟨b', o', e', _, hp0, hp1⟩ := hts.at_ (k := q) (by omega)
        injection e' with e'
        injection e' with eb eo _
        subst eb eo
        obtain ⟨x0, hx0⟩ : ∃ x, x = (ce cs q).1 := ⟨_, rfl⟩
        obtain ⟨y0, hy0⟩ : ∃ y, y = (ce cs q).2 := ⟨_, rfl⟩
        rw [← hx0] at hp0
        rw [← hy0] at hp1
        have HXY0 : Hid (ce cs q = (x0, y0)) := Lib.hid (by rw [hx0, hy0])
        clear hx0 hy0
        have hwk : IntKind.i64.wrap ((k : Int) - 1) = (q : Int) := by rw [show (k : Int) - 1 = (q : Int) by omega]; exact IntWalk.i64_in _ (by omega)
        have hkI : (q : Int) < (n : Int) := by omega
        have hqb : (0 : Int) ≤ (q : Int) := by omega
        have hkb : (0 : Int) ≤ (k : Int) := by omega
        have hk0 : (0 : Int) < (k : Int) := by omega
        clear hq
        obtain ⟨t, ht⟩ : ∃ t, t = cmpC (x0, y0) (x, y) := ⟨_, rfl⟩
        have CL : Hid (∀ u, Calls Try.prog 64 #[.agg #[.int .i64 x0, .int .i64 y0], .agg #[.int .i64 x, .int .i64 y]] u fun e w' => e = .returned (.int .i64 t) ∧ Grew u w') := Lib.hid (fun u => by rw [ht]; exact compareCells_any x0 y0 x y u)
        have HTT : Hid (t < 0 ↔ lessC (x0, y0) (x, y)) := Lib.hid (by rw [ht]; exact cmpC_lt _ _)
        clear ht
        go_upto_region 8 with fail
        obtain ⟨w5, hw5⟩ : ∃ w5, w5 = wr.alloc (.cells #[.int .i64 x, .int .i64 y] 67) := ⟨_, rfl⟩
        obtain ⟨g, hg⟩ : ∃ g, g = wr.heap.size := ⟨_, rfl⟩
        have hK5 : Blk w5 g 67 #[.int .i64 x, .int .i64 y] := by rw [hw5, hg]; exact Blk.new _ _ _
        have hb5 : Below wr.heap.size wr w5 := by rw [hw5]; exact Below.alloc_self _ _
        rw [← hw5, ← hg]
        rw [← hw5] at HBA
        have KP : Hid (∀ u, Below w5.heap.size w5 u → u.cell? ⟨b, o + q * 2, none⟩ = some (.int .i64 x0) ∧ u.cell? ⟨b, o + q * 2 + 1, none⟩ = some (.int .i64 y0) ∧ u.cell? ⟨g, 0, none⟩ = some (.int .i64 x) ∧ u.cell? ⟨g, 1, none⟩ = some (.int .i64 y)) := Lib.hid (fun u hu => by
          have h1 := hK5.below hu hK5.lt
          have h2 : Below wr.heap.size wr u := hb5.trans (hu.mono hb5.size)
          exact ⟨(h2.cell (p := ⟨b, o + q * 2, none⟩) hb).trans hp0, (h2.cell (p := ⟨b, o + q * 2 + 1, none⟩) hb).trans hp1, h1.cell 0, h1.cell 1⟩)
        clear hts hp0 hp1 hc0 hc1 hw5 hg hK5 hb5 hr0 hc2 hc3 hwE hwK
        by_cases htn : t < 0
        · have HG : Hid (crossAt K cs k) := Lib.hid ⟨HT.out, fun _ => by rw [show k - 1 = q by have := HQ.out; omega, HXY.out, HXY0.out]; exact HTT.out.1 htn⟩
          have htn2 : ¬ 0 ≤ t := by omega
          go_region_held3 (fun w' => w'.cell? ⟨b, o + q * 2, none⟩ = some (.int .i64 x0) ∧ w'.cell? ⟨b, o + q * 2 + 1, none⟩ = some (.int .i64 y0) ∧ w'.cell? ⟨g, 0, none⟩ = some (.int .i64 x) ∧ w'.cell? ⟨g, 1, none⟩ = some (.int .i64 y))
            (first | exact KP.out _ (Below.refl _ _).drew | exact KP.out _ HB2.out)
            (first
              | (go_at_call 64; (with_reducible refine (CL.out _).mono ?_); rintro e w2 ⟨rfl, hb2⟩; have HB2 : Hid (Below w5.heap.size w5 w2) := Lib.hid ((Below.refl _ _).drew.trans hb2.below); clear hb2))
          go_wp2
          go_roundw
          case rel => exact ⟨k + 1, by omega, by go_num, fun j hj => by
            rcases Nat.lt_or_ge j k with h | h
            · exact HA.out j h
            · obtain rfl : j = k := by omega
              exact HG.out, HBA.out.trans (HB2.out.mono HBA.out.size)⟩
          case measure => simp [intOf]; omega
        · have HF := Lib.hid (NO.out (fun h => by have h1 := h.2 (by have := HQ.out; omega); rw [show k - 1 = q by have := HQ.out; omega, HXY.out, HXY0.out] at h1; exact htn (HTT.out.2 h1)))
          have htn2 : 0 ≤ t := by omega
          go_region_held3 (fun w' => w'.cell? ⟨b, o + q * 2, none⟩ = some (.int .i64 x0) ∧ w'.cell? ⟨b, o + q * 2 + 1, none⟩ = some (.int .i64 y0) ∧ w'.cell? ⟨g, 0, none⟩ = some (.int .i64 x) ∧ w'.cell? ⟨g, 1, none⟩ = some (.int .i64 y))
            (first | exact KP.out _ (Below.refl _ _).drew | exact KP.out _ HB2.out)
            (first
              | (go_at_call 64; (with_reducible refine (CL.out _).mono ?_); rintro e w2 ⟨rfl, hb2⟩; have HB2 : Hid (Below w5.heap.size w5 w2) := Lib.hid ((Below.refl _ _).drew.trans hb2.below); clear hb2))
          go_wp2
          go_ret
          exact ⟨ret_bool HF.out.symm, HBA.out.trans (HB2.out.mono HBA.out.size)⟩
    · have hkn : k = n := by omega
      subst hkn
      clear hts
      go_wp2
      go_ret
      exact ⟨ret_bool (crossB_iff.2 ⟨HKK.out, by rw [HL.out]; exact HA.out⟩).symm, HB.out⟩

set_option maxRecDepth 100000 in
set_option maxHeartbeats 4000000 in
theorem implDreamWord_any (K : Int) (A : Option Addr) (n c : Nat) (cs : List Ce) (w : World) (hs : CS w A n cs) (hn : n ≤ 1099511627776) (hfit : FitC cs) (hA : A = none → n = 0 ∧ c = 0) :
    Calls Try.prog 20 #[.int .i64 K, .slice A n c] w fun e w' => FreshB w w' e (wordC K cs) (crossB K cs) := by
  have HC := Lib.hid (isDream_any K A n c cs w hs hn hfit)
  have HL := Lib.hid hs.1
  cases hb : crossB K cs with
  | false =>
    rw [hb] at HC
    have HE : Hid (wordC K cs = []) := Lib.hid (wordC_no (fun h => by rw [crossB_iff.2 h] at hb; simp at hb))
    clear hs hb hfit hA
    go_enter Try.func20, Try.ntmps20
    go_wp2_with (go_at_call 49; (with_reducible refine HC.out.mono ?_); rintro e w2 ⟨rfl, hb2⟩; have HB2 := Lib.hid hb2; clear hb2)
    go_ret2
    rw [HE.out]
    exact ⟨none, 0, 0, rfl, Own.nil _ _ _, HB2.out⟩
  | true =>
    rw [hb] at HC
    have HK := Lib.hid (crossB_iff.1 hb)
    have HN : Hid (n ≤ 15) := Lib.hid (by rw [← hs.1]; exact HK.out.len)
    have HCL := Lib.hid (fun u (hu : Below w.heap.size w u) => cloneC_any A n c cs u (hs.below hu (Nat.le_refl _)) hA hn)
    have eg : ∀ args w, (callFunc 52 args).run Try.prog w = .ok (.enter 52 args) w := enters_of Try.func52 (by kernel_rfl) rfl
    have HSO := Lib.hid (fun (A2 : Option Addr) (c2 lo : Nat) (u : World) (h : OwnC u lo u.heap.size A2 n c2 cs) (hlo : lo ≤ u.heap.size) => sortCells_any 52 cmpW cmpOkW eg dreamLess_any A2 n c2 lo cs u h hlo hn)
    clear hs hb hfit hA eg hn
    go_enter Try.func20, Try.ntmps20
    go_upto_region 5 with (first
      | (go_at_call 49; (with_reducible refine HC.out.mono ?_); rintro e w2 ⟨rfl, hb2⟩; have HB2 := Lib.hid hb2; clear hb2)
      | (go_at_call 50; (with_reducible refine (HCL.out _ HB2.out).mono ?_); rintro e w3 ⟨A3, n3, c3, rfl, ho3, hb3⟩; obtain rfl : n3 = n := by rw [← ho3.len, HL.out]
         have HO3 := Lib.hid ho3; have HB3 := Lib.hid hb3; have HZ3 := Lib.hid hb3.size; clear ho3 hb3)
      | (go_at_call 51; (with_reducible refine (HSO.out _ _ _ _ HO3.out HZ3.out).mono ?_); rintro e w4 ⟨rfl, us, hp, hss, ho4, hb4⟩; have HO4 := Lib.hid ho4; have HB4 := Lib.hid hb4; have HW4 : Hid (IsW cs us) := Lib.hid ⟨hp, pairwise_ltW hp (hss.imp (fun h => by omega)) HK.out.nodup⟩; clear hp hss ho4 hb4))
    obtain ⟨n, rfl⟩ : ∃ n, n = n3 := ⟨n3, rfl⟩
    have HWD := Lib.hid (wordC_of HK.out HW4.out)
    have HUL : Hid (us.length = n) := Lib.hid HO4.out.len
    have HTRI : Hid (∀ k, k < n → inTri K (ce us k)) := Lib.hid (fun k hk => by
      have hm : ce us k ∈ cs := by
        rw [ce_get (by rw [HUL.out]; exact hk)]
        exact HW4.out.1.mem_iff.1 (List.getElem_mem _)
      obtain ⟨j, hj, e⟩ := List.getElem_of_mem hm
      rw [← e, ← ce_get hj]
      exact (HK.out.2 j hj).1)
    have HBW : Hid (Below w.heap.size w w4) := Lib.hid ((HB2.out.trans (HB3.out.mono HB2.out.size)).trans (HB4.out.mono HB2.out.size))
    obtain ⟨ws, hws⟩ : ∃ ws, ws = us.map sumC := ⟨_, rfl⟩
    have HWS := Lib.hid hws
    have HWL : Hid (ws.length = n) := Lib.hid (by rw [hws, List.length_map, HUL.out])
    have HSI : Hid (CS w4 A3 n us) := Lib.hid HO4.out.si
    clear hws HO3 HB3 HZ3 HB4 HO4 HC HCL HSO
    go_wp2_with (at_make; refine wpList_make_zero rfl (.tmp 19) (.tmp 19) rfl n rfl rfl (by have := HN.out; omega) ?_; intro w5 ho5 hb5; have HO5 := Lib.hid ho5; have HB5 := Lib.hid hb5; clear ho5 hb5)
    obtain ⟨B, hB⟩ : ∃ B, B = w4.heap.size := ⟨_, rfl⟩
    have HBE : Hid (B = w4.heap.size) := Lib.hid hB
    rw [← hB] at HO5 HB5 ⊢
    have HO6 : Hid (Own w5 B (B + 1) (some ⟨B, 0, none⟩) n n (ws.take 0 ++ List.replicate (n - 0) 0)) := Lib.hid (by simpa using (show Own w5 B (B + 1) (some ⟨B, 0, none⟩) n n (List.replicate n 0) from ⟨HO5.out.1, fun k hk => by simp [Value.ownBlock] at hk; omega⟩))
    have HZ5 : Hid (B + 1 ≤ w5.heap.size) := Lib.hid (by have := HO5.out.lt B rfl; omega)
    clear HO5 hB
    go_loopw [23] (fun iv wr => ∃ i : Nat, i ≤ n ∧ iv = .int .i64 i ∧ Own wr B (B + 1) (some ⟨B, 0, none⟩) n n (ws.take i ++ List.replicate (n - i) 0) ∧ Below B w4 wr ∧ B + 1 ≤ wr.heap.size)
      (fun iv _ => n - (intOf iv).toNat)
    case atStart => exact ⟨0, Nat.zero_le _, rfl, HO6.out, HB5.out, HZ5.out⟩
    case round =>
      obtain ⟨i, hi, rfl, hown, hbw, hz⟩ := hrel
      clear HO6 HB5 HZ5
      have hn15 := HN.out
      have HO := Lib.hid hown
      have HB := Lib.hid hbw
      have HZ := Lib.hid hz
      clear hown hbw hz
      by_cases hlt : i < n
      · have hiI : (i : Int) < (n : Int) := by omega
        obtain ⟨b', o', rfl, hb', hr0, hr1⟩ := (HSI.out.below HB.out (by rw [HBE.out]; exact Nat.le_refl _)).at_ hlt
        have HTI := Lib.hid (HTRI.out i hlt)
        obtain ⟨x, hx⟩ : ∃ x, x = (ce us i).1 := ⟨_, rfl⟩
        obtain ⟨y, hy⟩ : ∃ y, y = (ce us i).2 := ⟨_, rfl⟩
        rw [← hx] at hr0
        rw [← hy] at hr1
        obtain ⟨s, hs⟩ : ∃ s, s = x + y := ⟨_, rfl⟩
        have hwx : IntKind.i64.wrap (x + y) = s := by
          have h1 := HTI.out
          have h2 := HK.out.1
          unfold inTri at h1
          rw [hs]
          exact IntWalk.i64_in _ (by omega)
        have HNX : Hid ((ws.take i ++ List.replicate (n - i) 0).set i s = ws.take (i + 1) ++ List.replicate (n - (i + 1)) 0) := Lib.hid (by
          have hlen : (ws.take i).length = i := by rw [List.length_take, HWL.out]; omega
          have hsx : s = nth ws i := by
            rw [hs, hx, hy, HWS.out]
            unfold nth
            simp [List.getD, show i < us.length by rw [HUL.out]; exact hlt, ce_get (show i < us.length by rw [HUL.out]; exact hlt), sumC]
          rw [List.set_append_right _ _ (by omega), hlen, Nat.sub_self, show n - i = (n - (i + 1)) + 1 by omega, List.replicate_succ, List.set_cons_zero, take_nth (by rw [HWL.out]; exact hlt), ← hsx]
          simp)
        clear hx hy hs
        go_upto_region 9 with fail
        obtain ⟨w6, hw6⟩ : ∃ w6, w6 = wr.alloc (.cells #[.int .i64 x, .int .i64 y] 67) := ⟨_, rfl⟩
        obtain ⟨g, hg⟩ : ∃ g, g = wr.heap.size := ⟨_, rfl⟩
        have hK6 : Blk w6 g 67 #[.int .i64 x, .int .i64 y] := by rw [hw6, hg]; exact Blk.new _ _ _
        have hb6 : Below wr.heap.size wr w6 := by rw [hw6]; exact Below.alloc_self _ _
        rw [← hw6, ← hg]
        have ho6 := HO.out.below hb6 (by have := HZ.out; omega)
        have k0 : w6.cell? ⟨g, 0, none⟩ = some (.int .i64 x) := hK6.cell 0
        have k1 : w6.cell? ⟨g, 1, none⟩ = some (.int .i64 y) := hK6.cell 1
        have hff := ho6.frozenAt i
        have hcc := ho6.cellAt (k := i) hlt
        obtain ⟨v0, hv0⟩ : ∃ v0, v0 = nth (ws.take i ++ List.replicate (n - i) 0) i := ⟨_, rfl⟩
        rw [← hv0] at hcc
        have hset := (ho6.set_ (k := i) s).1
        rw [HNX.out] at hset
        have HST := Lib.hid hset
        have HB6 : Hid (Below B w4 w6) := Lib.hid (HB.out.trans (hb6.mono (by have := HZ.out; omega)))
        have HZ6 : Hid (B + 1 ≤ w6.heap.size) := Lib.hid (Nat.le_trans HZ.out hb6.size)
        clear hset ho6 hv0 hr0 hr1 hw6 hg hK6 hb6
        go_wp2
        go_roundw
        case rel => exact ⟨i + 1, by omega, by go_num, HST.out, HB6.out.setCell (Nat.le_refl _) _, by simpa using HZ6.out⟩
        case measure => simp [intOf]; omega
      · have hin : i = n := by omega
        subst hin
        have HO7 : Hid (Own wr B (B + 1) (some ⟨B, 0, none⟩) i i ws) := Lib.hid (by have := HO.out; simpa [List.take_of_length_le (Nat.le_of_eq HWL.out)] using this)
        go_wp2
        go_ret2
        rw [HWD.out, ← HWS.out]
        exact ⟨_, _, _, rfl, HO7.out.wide (by rw [HBE.out]; exact HBW.out.size) HZ.out, HBW.out.trans (HB.out.mono (by rw [HBE.out]; exact HBW.out.size))⟩
end Go.Proofs.Ytdiiaallklkomaa

/-
  Opening a slice of cells that came in. No conditions.
-/



namespace Go.Proofs.Ytdiiaallklkomaa
open Go.ChangeShapes Go.WideShapes Go.ChangeAt Go.RowKit

theorem CS.nil (w : World) (A : Option Addr) : CS w A 0 [] := ⟨rfl, fun h => absurd h (Nat.lt_irrefl _)⟩
theorem CS.of_trod {H : Type} {enc : TypeId × Value → H} {W : World} {q : Nat} {f : Nat → Bool} {a0 : Option Addr} {len0 cap0 : Nat} {d : DataW H} {p : List MemPlace}
    (h0 : DataW.Trod enc Try.prog W q f true 33 (.slice a0 len0 cap0) d p) : ∃ cs, CS W a0 len0 cs ∧ len0 ≤ 9223372036854775807 ∧ ∀ k, k < cs.length → (ce cs k).1 ≤ 9223372036854775807 := by
  obtain ⟨fuel, hf⟩ := h0
  rcases Go.Deep.open_slice_pairs Try.underlying33 Try.underlying69 (by kernel_rfl) rfl rfl (by kernel_rfl) (by kernel_rfl) hf with ⟨hcs, _⟩ | ⟨a, len, cap, m, n, V0, V1, D0, D1, P0, P1, hcs, hb, hl, hm, hmm, _, hx⟩
  · simp [Value.cells] at hcs
    obtain ⟨rfl, rfl, rfl⟩ := hcs
    exact ⟨[], CS.nil _ _, by omega, fun k hk => absurd hk (Nat.not_lt_zero _)⟩
  · simp [Value.cells] at hcs
    obtain ⟨rfl, rfl, rfl⟩ := hcs
    have hlm : len0 ≤ m := by rw [hmm]; split <;> omega
    have each : ∀ i, i < len0 → ∃ t : Ce, V0 i = .int .i64 t.1 ∧ V1 i = .int .i64 t.2 ∧ t.1 ≤ 9223372036854775807 := by
      intro i hi
      obtain ⟨h1, h2, h3, h4⟩ := hx i (by omega)
      obtain ⟨z, hz, _, _⟩ := DataW.trod_int Try.underlying3 h4
      obtain ⟨y, hy, _, wf⟩ := DataW.trod_int Try.underlying3 h3
      exact ⟨(y, z), by simpa using hy, by simpa using hz, (bounds_i64 wf).2⟩
    obtain ⟨T, hT⟩ := Go.Deep.choose_lt each
    refine ⟨(List.range len0).map T, ⟨by simp, fun hn => ?_⟩, by unfold maxLen at hm; omega, fun k hk => by
      have hk2 : k < len0 := by simpa using hk
      have et : ce ((List.range len0).map T) k = T k := by simp [ce, List.getD, hk2]
      rw [et]
      exact (hT k hk2).2.2⟩
    obtain ⟨b, o, s⟩ := a
    obtain ⟨h1, _⟩ := hx 0 (by omega)
    have hs : s = none := by simpa [Addr.add] using World.cell?_spot h1
    subst hs
    refine ⟨b, o, rfl, block_lt_of_cell (a := ⟨b, o, none⟩) (by simpa [Addr.add] using h1), fun k hk => ?_⟩
    obtain ⟨e0, e1, _⟩ := hT k hk
    obtain ⟨h1, h2, _, _⟩ := hx k (by omega)
    rw [add_pt] at h1 h2
    have et : ce ((List.range len0).map T) k = T k := by simp [ce, List.getD, hk]
    rw [et]
    exact ⟨by rw [h1, e0], by rw [← e1, ← h2]; rfl⟩
end Go.Proofs.Ytdiiaallklkomaa

/-
  Contracts of words and of what comes of them: the program's side. Conditions: lengths below 2^40.
-/


namespace Go.Proofs.Ytdiiaallklkomaa
open Go.RowKit

set_option maxHeartbeats 800000 in
theorem isWord_any (a : Int) (A : Option Addr) (n c : Nat) (ws : List Int) (w : World) (hs : SI w A n ws) (hn : n ≤ 1099511627776) :
    Calls Try.prog 93 #[.int .i64 a, .slice A n c] w fun e w' => e = .returned (.bool (wordB a ws)) ∧ w = w' := by
  have hl := hs.1
  have HL := Lib.hid hl
  by_cases ha : 1 ≤ a ∧ a ≤ 7
  · obtain ⟨ha1, ha2⟩ := ha
    by_cases h60 : 60 < n
    · go_enter Try.func93, Try.ntmps93
      go_wp2_with fail
      refine (isPermSize_yes (by omega) (by omega) _).mono ?_
      rintro e w2 ⟨rfl, rfl⟩
      go_wp2
      go_ret
      exact ⟨ret_bool (wordB_false (fun h => by have := h.2.2.1; have := HL.out; omega)).symm, rfl⟩
    · clear hl
      go_enter Try.func93, Try.ntmps93
      go_wp2_with fail
      refine (isPermSize_yes (by omega) (by omega) _).mono ?_
      rintro e w2 ⟨rfl, rfl⟩
      go_wp2
      go_loop [17] (fun i => ∃ k : Nat, k ≤ n ∧ i = .int .i64 k ∧ ∀ j, j < k → 0 ≤ nth ws j ∧ nth ws j ≤ a - 2)
        (fun i => n - (intOf i).toNat)
      case atStart => exact ⟨0, Nat.zero_le _, rfl, fun j hj => absurd hj (by omega)⟩
      case round =>
        obtain ⟨k, hk, rfl, hall⟩ := hrel
        have HA := Lib.hid hall
        clear hall
        by_cases hlt : k < n
        · obtain ⟨b, o, rfl, hb, hc⟩ := hs.at_ (by omega)
          have hc1 := hc k hlt
          obtain ⟨x, hx⟩ : ∃ x, x = nth ws k := ⟨_, rfl⟩
          rw [← hx] at hc1
          have HX := Lib.hid hx
          clear hx hc hs
          by_cases hx0 : x < 0
          · go_wp2
            go_ret
            refine ⟨ret_bool (wordB_false (fun h => ?_)).symm, rfl⟩
            have := h.2.2.2 k (by have := HL.out; omega)
            rw [← HX.out] at this
            omega
          · by_cases hx1 : a - 2 < x
            · go_wp2
              go_ret
              refine ⟨ret_bool (wordB_false (fun h => ?_)).symm, rfl⟩
              have := h.2.2.2 k (by have := HL.out; omega)
              rw [← HX.out] at this
              omega
            · go_wp2
              go_round
              case rel => exact ⟨k + 1, by omega, by go_num, fun j hj => by
                rcases Nat.lt_or_ge j k with h | h
                · exact HA.out j h
                · obtain rfl : j = k := by omega
                  have e1 := HX.out
                  exact ⟨by omega, by omega⟩⟩
              case measure => simp [intOf]; omega
        · have hkn : k = n := by omega
          subst hkn
          go_wp2
          go_ret
          exact ⟨ret_bool (wordB_true ⟨ha1, ha2, by have := HL.out; omega, by rw [HL.out]; exact HA.out⟩).symm, rfl⟩
  · go_enter Try.func93, Try.ntmps93
    go_wp2_with fail
    refine (isPermSize_no (by omega) _).mono ?_
    rintro e w2 ⟨rfl, rfl⟩
    go_wp2
    go_ret
    exact ⟨ret_bool (wordB_false (fun h => ha ⟨h.1, h.2.1⟩)).symm, rfl⟩

set_option maxHeartbeats 2000000 in
theorem exchanged_any (l : List Int) (i j : Nat) (w : World) (hi : i < 7) (hj : j < 7) (hij : i ≠ j) (hl : l.length = 7) :
    Calls Try.prog 94 #[arr l, .int .i64 i, .int .i64 j] w fun e w' => e = .returned (arr (swapL l i j)) ∧ Below w.heap.size w w' := by
  have HL := Lib.hid hl
  clear hl
  obtain ⟨w1, hw1⟩ : ∃ w1 : World, w1 = (w.alloc (.cells (arrC l) 86)).alloc (.cells zeroC 86) := ⟨_, rfl⟩
  have hA : Blk w1 w.heap.size 86 (arrC l) := by rw [hw1]; exact (Blk.new w _ _).alloc _
  have hZ : Blk w1 (w.heap.size + 1) 86 zeroC := by
    rw [hw1]
    have := Blk.new (w.alloc (.cells (arrC l) 86)) 86 zeroC
    simp only [World.size_alloc] at this
    exact this
  have hB : Below w.heap.size w w1 := by rw [hw1]; exact ((Below.alloc_self _ _).alloc (by simp) _)
  have HA := Lib.hid hA
  have HZ := Lib.hid hZ
  have HB := Lib.hid hB
  have HW := Lib.hid hw1
  clear hA hZ hB hw1
  have hci := (HA.out.cell i).trans (arrC_get l i hi)
  have hcj := (HA.out.cell j).trans (arrC_get l j hj)
  have hfi := HA.out.frozen i
  obtain ⟨x, hx⟩ : ∃ x, x = nth l i := ⟨_, rfl⟩
  obtain ⟨y, hy⟩ : ∃ y, y = nth l j := ⟨_, rfl⟩
  rw [← hx] at hci
  rw [← hy] at hcj
  have HX := Lib.hid hx
  have HY := Lib.hid hy
  clear hx hy
  have h1 := HA.out.set_ i (.int .i64 y)
  have hcj2 : (w1.setCell ⟨w.heap.size, i, none⟩ (.int .i64 y)).cell? ⟨w.heap.size, j, none⟩ = some (.int .i64 y) := (World.cell?_setCell_other w1 _ _ _ (by intro e; injection e with _ e2; exact hij e2)).trans hcj
  have hfj2 := h1.frozen j
  have h2 := h1.set_ j (.int .i64 x)
  have hz2 := (HZ.out.far (p := ⟨w.heap.size, i, none⟩) (by show w.heap.size + 1 ≠ w.heap.size; omega) (.int .i64 y)).far (p := ⟨w.heap.size, j, none⟩) (by show w.heap.size + 1 ≠ w.heap.size; omega) (.int .i64 x)
  have hb2 := (HB.out.setCell (p := ⟨w.heap.size, i, none⟩) (Nat.le_refl _) (.int .i64 y)).setCell (p := ⟨w.heap.size, j, none⟩) (Nat.le_refl _) (.int .i64 x)
  have HS := Lib.hid h2
  have HZ2 := Lib.hid hz2
  have HB2 := Lib.hid hb2
  clear h1 h2 hz2 hb2
  have hiI : (i : Int) < 7 := by omega
  have hjI : (j : Int) < 7 := by omega
  have hij' : ¬ j = i := fun e => hij e.symm
  go_enter Try.func94, Try.ntmps94
  go_wp2
  rw [← HW.out]
  go_region
  have HS3 : Hid (Blk ((w1.setCell ⟨w.heap.size, i, none⟩ (.int .i64 y)).setCell ⟨w.heap.size, j, none⟩ (.int .i64 x)).drew w.heap.size 86 (arrC (swapL l i j))) := Lib.hid (by
    have := HS.out
    rw [arrC_set l i hi y HL.out, arrC_set _ j hj x (by simp [HL.out])] at this
    have e1 := HX.out
    have e2 := HY.out
    unfold swapL
    rw [← e1, ← e2]
    exact this)
  go_wp2_with (first | (refine wpList_load_blk rfl 86 (.tmp 3) rfl w.heap.size rfl 86 (arrC (swapL l i j)) 7 3 HS3.out Try.undArr Try.infoArr ?_) | (refine wpList_store_blk rfl 86 (.tmp 6) (.tmp 17) rfl (w.heap.size + 1) (arrC (swapL l i j)) rfl rfl 86 zeroC HZ2.out Try.infoArr rfl (arrC_one _) ?_; intro w3 hR3 hg3))
  refine bodyPost_ret (results_blk Try.results94 _ _ _ _ _ 7 3 rfl hR3 Try.undArr Try.infoArr) rfl ?_
  exact ⟨rfl, HB2.out.drew.grown hg3 HB2.out.size (by rintro _ ⟨⟩; omega)⟩

theorem swapL_nth {l : List Int} {i j t : Nat} (_hi : i < l.length) (_hj : j < l.length) (ht : t < l.length) : nth (swapL l i j) t = if t = j then nth l i else if t = i then nth l j else nth l t := by
  rw [nth_get (by rw [swapL_len]; exact ht)]
  unfold swapL
  rw [List.getElem_set]
  by_cases h1 : j = t
  · rw [if_pos h1, if_pos h1.symm]
  · rw [if_neg h1, if_neg (fun h => h1 h.symm), List.getElem_set]
    by_cases h2 : i = t
    · rw [if_pos h2, if_pos h2.symm]
    · rw [if_neg h2, if_neg (fun h => h2 h.symm), nth_get ht]
/-- The numbers of an array stay apart. -/
def Apart7 (l : List Int) : Prop := ∀ s t, s < 7 → t < 7 → nth l s = nth l t → s = t
theorem Apart7.swap {l : List Int} {i j : Nat} (h : Apart7 l) (hl : l.length = 7) (hi : i < 7) (hj : j < 7) : Apart7 (swapL l i j) := by
  intro s t hs ht e
  rw [swapL_nth (by omega) (by omega) (by omega), swapL_nth (by omega) (by omega) (by omega)] at e
  by_cases s1 : s = j
  · rw [if_pos s1] at e
    by_cases t1 : t = j
    · omega
    · rw [if_neg t1] at e
      by_cases t2 : t = i
      · rw [if_pos t2] at e; have := h _ _ hi hj e; omega
      · rw [if_neg t2] at e; have := h _ _ hi ht e; omega
  · rw [if_neg s1] at e
    by_cases s2 : s = i
    · rw [if_pos s2] at e
      by_cases t1 : t = j
      · rw [if_pos t1] at e; have := h _ _ hj hi e; omega
      · rw [if_neg t1] at e
        by_cases t2 : t = i
        · omega
        · rw [if_neg t2] at e; have := h _ _ hj ht e; omega
    · rw [if_neg s2] at e
      by_cases t1 : t = j
      · rw [if_pos t1] at e; have := h _ _ hs hi e; omega
      · rw [if_neg t1] at e
        by_cases t2 : t = i
        · rw [if_pos t2] at e; have := h _ _ hs hj e; omega
        · rw [if_neg t2] at e; exact h _ _ hs ht e
theorem idL_apart : Apart7 (idL 7) := by
  intro s t hs ht e
  rw [nth_get (by rw [idL_len]; exact hs), nth_get (by rw [idL_len]; exact ht)] at e
  simp only [idL, List.getElem_map, List.getElem_range] at e
  omega
theorem playL_apart (ws : List Int) (all : Bool) (hr : ∀ k, k < ws.length → (nth ws k).toNat + 1 < 7) : ∀ k, k ≤ ws.length → Apart7 (playL ws all k) := by
  intro k
  induction k with
  | zero => intro _; exact idL_apart
  | succ k ih =>
    intro hk
    unfold playL
    have := hr k (by omega)
    split
    · exact (ih (by omega)).swap (playL_len _ _ _) (by omega) (by omega)
    · exact ih (by omega)

set_option maxHeartbeats 2000000 in
theorem implWord_any (a : Int) (A : Option Addr) (n c : Nat) (ws : List Int) (w : World) (hs : SI w A n ws) (hn : n ≤ 1099511627776) :
    Calls Try.prog 59 #[.int .i64 a, .slice A n c] w fun e w' => Fresh w w' e (playPerm true a ws) := by
  have hw := isWord_any a A n c ws w hs hn
  cases hu : wordB a ws with
  | false =>
    rw [hu] at hw
    have HE := Lib.hid (playPerm_no (all := true) hu)
    clear hu
    go_enter Try.func59, Try.ntmps59
    go_wp2_with fail
    refine hw.mono ?_
    rintro e w1 ⟨rfl, rfl⟩
    clear hw
    go_wp2
    go_ret
    rw [HE.out]
    exact Fresh.nil_ret (Below.refl _ _)
  | true =>
    rw [hu] at hw
    obtain ⟨m, rfl⟩ : ∃ m : Nat, a = (m : Int) := ⟨a.toNat, by have := (wordB_P hu).1; omega⟩
    have HE := Lib.hid (playPerm_yes (all := true) hu)
    have HU := Lib.hid (wordB_P hu)
    have HL := Lib.hid hs.1
    have hm7 : m ≤ 7 := by have := HU.out.2.1; omega
    clear hu
    go_enter Try.func59, Try.ntmps59
    go_wp2_with fail
    refine hw.mono ?_
    rintro e w1 ⟨rfl, rfl⟩
    clear hw
    go_wp2_with fail
    refine (identityArray_any _).mono ?_
    rintro e w1 ⟨rfl, hb1⟩
    have hK : Blk (w1.alloc (.cells #[.int .i64 0, .int .i64 1, .int .i64 2, .int .i64 3, .int .i64 4, .int .i64 5, .int .i64 6] 86)) w1.heap.size 86 (arrC (playL ws true 0)) := Blk.new w1 _ _
    go_wp2
    have hb2 := hb1.alloc hb1.size (.cells #[.int .i64 0, .int .i64 1, .int .i64 2, .int .i64 3, .int .i64 4, .int .i64 5, .int .i64 6] 86)
    have hgG : w.heap.size ≤ w1.heap.size := hb1.size
    obtain ⟨g, hg⟩ : ∃ g, g = w1.heap.size := ⟨_, rfl⟩
    rw [← hg] at hK hgG ⊢
    generalize w1.alloc (.cells #[.int .i64 0, .int .i64 1, .int .i64 2, .int .i64 3, .int .i64 4, .int .i64 5, .int .i64 6] 86) = w2 at *
    clear hg
    go_loopw [15] (fun i wr => ∃ k : Nat, k ≤ n ∧ i = .int .i64 k ∧ Blk wr g 86 (arrC (playL ws true k)) ∧ Below w.heap.size w wr)
      (fun i _ => n - (intOf i).toNat)
    case atStart => exact ⟨0, Nat.zero_le _, rfl, hK, hb2⟩
    case round =>
      obtain ⟨k, hk, rfl, hA, hbel⟩ := hrel
      have HA := Lib.hid hA
      have HB := Lib.hid hbel
      by_cases hlt : k < n
      · obtain ⟨b, o, e1, hb, hc⟩ := (hs.below hbel (Nat.le_refl _)).at_ (by omega)
        have hc1 := hc k hlt
        obtain ⟨hw1, hw2⟩ := HU.out.2.2.2 k (by have := HL.out; omega)
        obtain ⟨q, hq⟩ : ∃ q : Nat, nth ws k = (q : Int) := ⟨(nth ws k).toNat, by omega⟩
        have hqt : (nth ws k).toNat = q := by omega
        rw [hq] at hc1
        have hq2 : q + 1 < m := by omega
        have HQ := Lib.hid hqt
        subst e1
        clear hc hs hq hqt hw1 hw2 hA hbel hK hb2 hb1 hb
        have hsw : Calls Try.prog 94 #[arr (playL ws true k), .int .i64 q, .int .i64 ((q : Int) + 1)] wr (fun e w' => e = .returned (arr (swapL (playL ws true k) q (q + 1))) ∧ Below wr.heap.size wr w') :=
          exchanged_any _ q (q + 1) wr (by omega) (by omega) (by omega) (playL_len _ _ _)
        have HSW := Lib.hid hsw
        clear hsw
        go_wp2_with (first | (refine wpList_load_blk rfl 86 (.tmp 5) rfl g rfl 86 (arrC (playL ws true k)) 7 3 HA.out Try.undArr Try.infoArr ?_) | fail)
        refine HSW.out.mono ?_
        rintro e w4 ⟨rfl, hb4⟩
        have HA4 := Lib.hid (HA.out.below hb4 HA.out.lt)
        have HB4 := Lib.hid (HB.out.trans (hb4.mono HB.out.size))
        clear hb4
        go_wp2_with (refine wpList_store_blk rfl 86 (.tmp 5) (.tmp 23) rfl g (arrC (swapL (playL ws true k) q (q + 1))) rfl rfl 86 (arrC (playL ws true k)) HA4.out Try.infoArr rfl (arrC_one _) ?_; intro w5 hR5 hg5)
        go_roundw
        case rel => exact ⟨k + 1, by omega, by go_num, by rw [playL_hit HQ.out (.inl rfl)]; exact hR5, HB4.out.grown hg5 HB4.out.size (by rintro _ ⟨⟩; exact hgG)⟩
        case measure => simp [intOf]; omega
      · have hkn : k = n := by omega
        subst hkn
        clear hA hbel hK hb2 hb1
        go_wp2_with (first | (refine wpList_load_blk rfl 86 (.tmp 5) rfl g rfl 86 (arrC (playL ws true k)) 7 3 HA.out Try.undArr Try.infoArr ?_) | fail)
        refine (list_any (playL ws true k) m wr (playL_len _ _ _) hm7).mono ?_
        rintro e w4 ⟨A4, n4, c4, rfl, ho4, hb4⟩
        go_wp2
        go_ret
        rw [HE.out, HL.out]
        exact Fresh.after HB.out ⟨A4, n4, c4, rfl, ho4, hb4⟩

end Go.Proofs.Ytdiiaallklkomaa

/-
  All permutations of at most five numbers, listed: plain facts that the kernel reckons over the list. Conditions: the length is at most 5.
-/


namespace Go.Proofs.Ytdiiaallklkomaa
open Go.RowKit

/-- The beginnings of k numbers below n, all different. -/
def begins (n : Nat) : Nat → List (List Int)
  | 0 => [[]]
  | k + 1 => (begins n k).flatMap fun p => ((List.range n).filter (fun (v : Nat) => !hasB p (v : Int))).map (fun (v : Nat) => p ++ [(v : Int)])
theorem begins_all {xs : List Int} (h : isPermP xs) : ∀ k, k ≤ xs.length → xs.take k ∈ begins xs.length k := by
  intro k
  induction k with
  | zero => intro _; simp [begins]
  | succ k ih =>
    intro hk
    obtain ⟨h1, h2, h3⟩ := h.2.2 k (by omega)
    unfold begins
    rw [List.mem_flatMap]
    refine ⟨xs.take k, ih (by omega), ?_⟩
    rw [List.mem_map]
    refine ⟨(nth xs k).toNat, ?_, ?_⟩
    · rw [List.mem_filter]
      refine ⟨List.mem_range.2 (by omega), ?_⟩
      rw [show (((nth xs k).toNat : Nat) : Int) = nth xs k from by omega, h3]; rfl
    · rw [take_nth (by omega), show (((nth xs k).toNat : Nat) : Int) = nth xs k from by omega]
def perms5 : List (List Int) := begins 1 1 ++ begins 2 2 ++ begins 3 3 ++ begins 4 4 ++ begins 5 5
theorem perms5_all {xs : List Int} (h : isPermP xs) (h5 : xs.length ≤ 5) : xs ∈ perms5 := by
  have h1 := h.1
  have := begins_all h xs.length (Nat.le_refl _)
  rw [List.take_length] at this
  unfold perms5
  have hc : xs.length = 1 ∨ xs.length = 2 ∨ xs.length = 3 ∨ xs.length = 4 ∨ xs.length = 5 := by omega
  simp only [List.mem_append]
  rcases hc with e | e | e | e | e <;> rw [e] at this <;> simp [this]
theorem perm_cases {p : List Int → Bool} (hp : perms5.all p = true) {xs : List Int} (h : isPermP xs) (h5 : xs.length ≤ 5) : p xs = true :=
  List.all_eq_true.1 hp xs (perms5_all h h5)

/-- A swap of neighbours leaves a permutation. -/
theorem swap_perm {xs : List Int} (h : isPermP xs) (h5 : xs.length ≤ 5) {i : Nat} (hi : i + 1 < xs.length) : isPermP (swapL xs i (i + 1)) := by
  have := perm_cases (p := fun xs => (List.range (xs.length - 1)).all fun i => isPermB (swapL xs i (i + 1))) (by decide +kernel) h h5
  simp only [List.all_eq_true, List.mem_range] at this
  exact isPermB_P (this i (by omega))
/-- At a descent the length goes down by one. -/
theorem swap_down {xs : List Int} (h : isPermP xs) (h5 : xs.length ≤ 5) {i : Nat} (hi : i + 1 < xs.length) (hd : nth xs (i + 1) < nth xs i) : lenL (swapL xs i (i + 1)) + 1 = lenL xs := by
  have := perm_cases (p := fun xs => (List.range (xs.length - 1)).all fun i => !decide (nth xs (i + 1) < nth xs i) || decide (lenL (swapL xs i (i + 1)) + 1 = lenL xs)) (by decide +kernel) h h5
  simp only [List.all_eq_true, List.mem_range] at this
  have h2 := this i (by omega)
  simpa [hd] using h2
/-- Whatever is longer than nothing has a descent. -/
theorem has_descent {xs : List Int} (h : isPermP xs) (h5 : xs.length ≤ 5) (hl : 0 < lenL xs) : 0 < (descL xs (xs.length - 1)).length := by
  have := perm_cases (p := fun xs => !decide (0 < lenL xs) || decide (0 < (descL xs (xs.length - 1)).length)) (by decide +kernel) h h5
  simpa [hl] using this
theorem len_small {xs : List Int} (h : isPermP xs) (h5 : xs.length ≤ 5) : lenL xs ≤ 10 := by
  have := perm_cases (p := fun xs => decide (lenL xs ≤ 10)) (by decide +kernel) h h5
  simpa using this
/-- Each number of the list of descents is one. -/
theorem descL_mem (xs : List Int) : ∀ k, ∀ j, j < (descL xs k).length → ∃ i : Nat, i < k ∧ nth (descL xs k) j = (i : Int) ∧ nth xs (i + 1) < nth xs i := by
  intro k
  induction k with
  | zero => intro j hj; simp [descL] at hj
  | succ k ih =>
    intro j hj
    by_cases hd : nth xs (k + 1) < nth xs k
    · rw [descL_hit hd] at hj ⊢
      rw [List.length_append, List.length_singleton] at hj
      rcases Nat.lt_or_ge j (descL xs k).length with hlt | hge
      · obtain ⟨i, h1, h2, h3⟩ := ih j hlt
        exact ⟨i, by omega, by rw [nth_get (by simp; omega), List.getElem_append_left hlt, ← nth_get hlt]; exact h2, h3⟩
      · have e : j = (descL xs k).length := by omega
        subst e
        exact ⟨k, by omega, by rw [nth_get (by simp)]; simp, hd⟩
    · rw [descL_miss hd] at hj ⊢
      obtain ⟨i, h1, h2, h3⟩ := ih j hj
      exact ⟨i, by omega, h2, h3⟩
theorem id_perm {n : Nat} (h1 : 1 ≤ n) (h7 : n ≤ 7) : isPermP (idL n) := by
  have hc : n = 1 ∨ n = 2 ∨ n = 3 ∨ n = 4 ∨ n = 5 ∨ n = 6 ∨ n = 7 := by omega
  rcases hc with rfl | rfl | rfl | rfl | rfl | rfl | rfl <;> exact isPermB_P (by decide +kernel)
/-- What comes of a word is a permutation. -/
theorem play_perm {ws : List Int} {m : Nat} (hw : wordP (m : Int) ws) (h5 : m ≤ 5) (all : Bool) : ∀ k, k ≤ ws.length → isPermP ((playL ws all k).take m) := by
  intro k
  have h1 : 1 ≤ m := by have := hw.1; omega
  induction k with
  | zero =>
    intro _
    show isPermP ((idL 7).take m)
    rw [idL_take (by omega)]
    exact id_perm h1 (by omega)
  | succ k ih =>
    intro hk
    obtain ⟨hw1, hw2⟩ := hw.2.2.2 k (by omega)
    unfold playL
    split
    · rw [swapL_take (by omega) (by omega)]
      have hl : ((playL ws all k).take m).length = m := by rw [List.length_take, playL_len]; omega
      exact swap_perm (ih (by omega)) (by omega) (by omega)
    · exact ih (by omega)
end Go.Proofs.Ytdiiaallklkomaa

/-
  Permutations of up to 7 with two places exchanged are permutations; what comes of a word is one. No conditions but those named.
-/




namespace Go.Proofs.Ytdiiaallklkomaa
open Go.RowKit

theorem pp_ne {xs : List Int} (h : isPermP xs) {j k : Nat} (hj : j < k) (hk : k < xs.length) : nth xs j ≠ nth xs k := fun e => by
  obtain ⟨_, _, hb⟩ := h.2.2 k hk
  have : nth xs k ∈ xs.take k := by
    rw [← e, nth_get (by omega)]
    refine List.mem_iff_getElem.2 ⟨j, by simp; omega, by simp⟩
  rw [hasB, decide_eq_false_iff_not] at hb
  exact hb this
theorem pp_ne' {xs : List Int} (h : isPermP xs) {j k : Nat} (hjk : j ≠ k) (hj : j < xs.length) (hk : k < xs.length) : nth xs j ≠ nth xs k := by
  rcases Nat.lt_or_gt_of_ne hjk with e | e
  · exact pp_ne h e hk
  · exact (pp_ne h e hj).symm
theorem pp_of {xs : List Int} (h1 : 1 ≤ xs.length) (h7 : xs.length ≤ 7) (hr : ∀ k, k < xs.length → 0 ≤ nth xs k ∧ nth xs k ≤ (xs.length : Int) - 1) (hd : ∀ j k, j < k → k < xs.length → nth xs j ≠ nth xs k) : isPermP xs := by
  refine ⟨h1, h7, fun k hk => ⟨(hr k hk).1, (hr k hk).2, ?_⟩⟩
  rw [hasB, decide_eq_false_iff_not]
  intro hm
  obtain ⟨j, hj, e⟩ := List.mem_iff_getElem.1 hm
  simp only [List.length_take] at hj
  rw [List.getElem_take] at e
  refine hd j k (by omega) hk ?_
  rw [nth_get (by omega), e]
theorem swap_pp {xs : List Int} (h : isPermP xs) {i j : Nat} (hij : i < j) (hj : j < xs.length) : isPermP (swapL xs i j) := by
  have hl := swapL_len xs i j
  refine pp_of (by rw [hl]; exact h.1) (by rw [hl]; exact h.2.1) (fun k hk => ?_) (fun s t hst ht => ?_)
  · rw [hl] at hk ⊢
    rw [swapL_nth (by omega) hj hk]
    split
    · exact ⟨(h.2.2 i (by omega)).1, (h.2.2 i (by omega)).2.1⟩
    · split
      · exact ⟨(h.2.2 j hj).1, (h.2.2 j hj).2.1⟩
      · exact ⟨(h.2.2 k hk).1, (h.2.2 k hk).2.1⟩
  · rw [hl] at ht
    rw [swapL_nth (by omega) hj (by omega), swapL_nth (by omega) hj ht]
    repeat' split
    all_goals first
      | omega
      | exact pp_ne' h (by omega) (by omega) (by omega)
theorem fill_swapG {xs : List Int} {i j : Nat} (hij : i < j) (hj : j < xs.length) (h7 : xs.length ≤ 7) : swapL (fillA xs xs.length) i j = fillA (swapL xs i j) xs.length := by
  apply List.ext_getElem (by rw [swapL_len, fillA_len, fillA_len])
  intro t h1 h2
  rw [swapL_len, fillA_len] at h1
  rw [← nth_get (by rw [swapL_len, fillA_len]; exact h1), ← nth_get (by rw [fillA_len]; exact h1), swapL_nth (by rw [fillA_len]; omega) (by rw [fillA_len]; omega) (by rw [fillA_len]; exact h1), fillA_lt (show i < xs.length by omega) (by omega), fillA_lt hj (by omega), fillA_nth xs _ t h1, fillA_nth (swapL xs i j) _ t h1]
  by_cases ht : t < xs.length
  · rw [if_pos ht, if_pos ht, swapL_nth (by omega) hj ht]
  · rw [if_neg ht, if_neg ht, if_neg (by omega), if_neg (by omega)]
theorem play_pp {ws : List Int} {m : Nat} (hw : wordP (m : Int) ws) (all : Bool) : ∀ k, k ≤ ws.length → isPermP ((playL ws all k).take m) := by
  intro k
  have h1 : 1 ≤ m := by have := hw.1; omega
  have h7 : m ≤ 7 := by have := hw.2.1; omega
  induction k with
  | zero =>
    intro _
    show isPermP ((idL 7).take m)
    rw [idL_take (by omega)]
    exact id_perm h1 (by omega)
  | succ k ih =>
    intro hk
    obtain ⟨hw1, hw2⟩ := hw.2.2.2 k (by omega)
    unfold playL
    split
    · rw [swapL_take (by omega) (by omega)]
      have hl : ((playL ws all k).take m).length = m := by rw [List.length_take, playL_len]; omega
      exact swap_pp (ih (by omega)) (by omega) (by omega)
    · exact ih (by omega)
end Go.Proofs.Ytdiiaallklkomaa

/-
  Reduced words: the program's test. Conditions: lengths below 2^40.
-/


namespace Go.Proofs.Ytdiiaallklkomaa
open Go.RowKit

def redB (a : Int) (xs : List Int) : Bool := wordB a xs && decide (lenL ((playL xs true xs.length).take a.toNat) = (xs.length : Int))
theorem playPerm_RB {m : Nat} {xs : List Int} (hu : wordB (m : Int) xs = true) : isPermB (playPerm true (m : Int) xs) = true := by
  rw [playPerm_yes hu]
  exact isPermB_true (play_pp (wordB_P hu) true _ (Nat.le_refl _))
theorem redB_len (a : Int) (xs : List Int) : redB a xs = decide (lenPerm (playPerm true a xs) = (xs.length : Int)) := by
  cases hu : wordB a xs with
  | false =>
    rw [playPerm_no hu, lenPerm_no (by decide)]
    unfold redB
    rw [hu, Bool.false_and]
    symm
    rw [decide_eq_false_iff_not]
    omega
  | true =>
    have hp := wordB_P hu
    obtain ⟨m, rfl⟩ : ∃ m : Nat, a = m := ⟨a.toNat, by have := hp.1; omega⟩
    rw [lenPerm_yes (playPerm_RB hu), playPerm_yes hu]
    unfold redB
    rw [hu, Bool.true_and, Int.toNat_natCast]
set_option maxHeartbeats 1000000 in
theorem isReducedW_any (a : Int) (A : Option Addr) (n c : Nat) (xs : List Int) (w : World) (hs : SI w A n xs) (hn : n ≤ 1099511627776) :
    Calls Try.prog 58 #[.int .i64 a, .slice A n c] w fun e w' => e = .returned (.bool (redB a xs)) ∧ Below w.heap.size w w' := by
  have HW := Lib.hid (implWord_any a A n c xs w hs hn)
  have hE := redB_len a xs
  rw [hs.1] at hE
  have hsm := playPerm_small true a xs
  obtain ⟨ps, hps⟩ : ∃ ps, ps = playPerm true a xs := ⟨_, rfl⟩
  rw [← hps] at HW hE hsm
  have HSM := Lib.hid hsm
  obtain ⟨z, hz⟩ : ∃ z, z = lenPerm ps := ⟨_, rfl⟩
  rw [← hz] at hE
  have HZ := Lib.hid hz.symm
  clear hs hps hz hsm
  by_cases hzn : z = (n : Int)
  · subst hzn
    have HE : Hid (redB a xs = true) := Lib.hid (by rw [hE]; simp)
    clear hE
    go_enter Try.func58, Try.ntmps58
    go_wp2_with (first
      | (go_at_call 59; (with_reducible refine HW.out.mono ?_); rintro e w1 ⟨A1, n1, c1, rfl, ho1, hb1⟩; have HO1 := Lib.hid ho1; have HB1 := Lib.hid hb1; clear ho1 hb1)
      | (go_at_call 92; (with_reducible refine (implLength_any A1 n1 c1 ps w1 HO1.out.si (by have := HO1.out.len; have := HSM.out; omega)).mono ?_); rintro e w2 ⟨rfl, hb2⟩; rw [HZ.out]; have HB3 : Hid (Below w.heap.size w w2) := Lib.hid (HB1.out.trans (hb2.mono HB1.out.size)); clear hb2))
    go_ret
    exact ⟨ret_bool (by rw [HE.out]), HB3.out⟩
  · have HE : Hid (redB a xs = false) := Lib.hid (by rw [hE]; simp [hzn])
    have hki : (z == (n : Int)) = false := by simpa using hzn
    clear hE
    go_enter Try.func58, Try.ntmps58
    go_wp2_with (first
      | (go_at_call 59; (with_reducible refine HW.out.mono ?_); rintro e w1 ⟨A1, n1, c1, rfl, ho1, hb1⟩; have HO1 := Lib.hid ho1; have HB1 := Lib.hid hb1; clear ho1 hb1)
      | (go_at_call 92; (with_reducible refine (implLength_any A1 n1 c1 ps w1 HO1.out.si (by have := HO1.out.len; have := HSM.out; omega)).mono ?_); rintro e w2 ⟨rfl, hb2⟩; rw [HZ.out]; have HB3 : Hid (Below w.heap.size w w2) := Lib.hid (HB1.out.trans (hb2.mono HB1.out.size)); clear hb2))
    go_ret
    exact ⟨ret_bool (by rw [HE.out]), HB3.out⟩
end Go.Proofs.Ytdiiaallklkomaa

/-
  DreamPerm on both sides. Conditions: lengths below 2^40; rows that an int holds.
-/



namespace Go.Proofs.Ytdiiaallklkomaa
open Go.RowKit

theorem wordC_wordP {K : Int} {cs : List Ce} (h : crossP K cs) (hL : ∃ L, IsW cs L) : wordP K (wordC K cs) ∧ (wordC K cs).length = cs.length := by
  obtain ⟨L, hL⟩ := hL
  have hlen : L.length = cs.length := hL.1.length_eq
  rw [wordC_of h hL]
  refine ⟨⟨h.1.1, by have := h.1.2; omega, by rw [List.length_map, hlen]; have := h.len; omega, fun k hk => ?_⟩, by rw [List.length_map, hlen]⟩
  have hk2 : k < L.length := by simpa using hk
  have e : nth (L.map sumC) k = sumC (L[k]) := by unfold nth; simp [List.getD, hk2]
  have hm : L[k] ∈ cs := hL.1.mem_iff.1 (List.getElem_mem _)
  obtain ⟨j, hj, e2⟩ := List.getElem_of_mem hm
  have ht := (h.2 j hj).1
  rw [ce_get hj, e2] at ht
  rw [e]
  unfold inTri at ht
  unfold sumC
  omega
/-- Every dream's cells can be read. -/
theorem isW_ex : ∀ (cs : List Ce), cs.Nodup → ∃ L, IsW cs L
  | [], _ => ⟨[], List.Perm.refl _, List.Pairwise.nil⟩
  | a :: cs, hn => by
    obtain ⟨h1, h2⟩ := List.nodup_cons.1 hn
    obtain ⟨L, hp, hs⟩ := isW_ex cs h2
    have hm : ∀ x ∈ L, x ≠ a := fun x hx e => h1 (by rw [← e]; exact hp.mem_iff.1 hx)
    clear h1 h2 hn
    suffices h : ∀ (L : List Ce), L.Pairwise ltW → (∀ x ∈ L, x ≠ a) → ∃ M : List Ce, M.Perm (a :: L) ∧ M.Pairwise ltW by
      obtain ⟨M, hM1, hM2⟩ := h L hs hm
      exact ⟨M, hM1.trans (hp.cons a), hM2⟩
    intro L
    induction L with
    | nil => exact fun _ _ => ⟨[a], List.Perm.refl _, List.pairwise_singleton _ _⟩
    | cons b L ih =>
      intro hs hm
      obtain ⟨hb, hs'⟩ := List.pairwise_cons.1 hs
      have hba := hm b (List.mem_cons_self ..)
      by_cases hab : ltW a b
      · exact ⟨a :: b :: L, List.Perm.refl _, List.pairwise_cons.2 ⟨fun x hx => by
          rcases List.mem_cons.1 hx with rfl | hx
          · exact hab
          · exact ltW_trans hab (hb x hx), hs⟩⟩
      · have hlt : ltW b a := by
          unfold ltW at *
          rcases Decidable.em (b.1 = a.1 ∧ b.2 = a.2) with e | e
          · exact absurd (Prod.ext e.1 e.2) hba
          · omega
        obtain ⟨M, hM1, hM2⟩ := ih hs' (fun x hx => hm x (List.mem_cons_of_mem _ hx))
        refine ⟨b :: M, (hM1.cons b).trans (List.Perm.swap a b L), List.pairwise_cons.2 ⟨fun x hx => ?_, hM2⟩⟩
        rcases List.mem_cons.1 (hM1.mem_iff.1 hx) with rfl | hx
        · exact hlt
        · exact hb x hx
/-- What DreamPerm answers. -/
noncomputable def dpB (K : Int) (cs : List Ce) : Bool := crossB K cs && redB K (wordC K cs)
noncomputable def dpL (K : Int) (cs : List Ce) : List Int := if dpB K cs = true then playPerm true K (wordC K cs) else []
theorem dp_no {K : Int} {cs : List Ce} (h : dpB K cs = false) : dpL K cs = [] := if_neg (by rw [h]; decide)
theorem dp_yes {K : Int} {cs : List Ce} (h : dpB K cs = true) : dpL K cs = playPerm true K (wordC K cs) := if_pos h
theorem dpL_small (K : Int) (cs : List Ce) : (dpL K cs).length ≤ 1099511627775 := by
  unfold dpL
  split
  · exact playPerm_small _ _ _
  · simp

set_option maxRecDepth 100000 in
set_option maxHeartbeats 1000000 in
theorem specDreamPerm_any (K : Int) (A : Option Addr) (n c : Nat) (cs : List Ce) (w : World) (hs : CS w A n cs) (hn : n ≤ 1099511627776) :
    Calls Try.prog 24 #[.int .i64 K, .slice A n c] w fun e w' => FreshB w w' e (dpL K cs) (dpB K cs) := by
  have HC := Lib.hid (l3Crosses_any K A n c cs w hs hn)
  have HL := Lib.hid hs.1
  cases hb : crossB K cs with
  | false =>
    rw [hb] at HC
    have hno : dpB K cs = false := by unfold dpB; rw [hb]; rfl
    have HE := Lib.hid (dp_no hno)
    have HNO := Lib.hid hno
    clear hs hb hno
    go_enter Try.func24, Try.ntmps24
    go_wp2_with (go_at_call 46; (with_reducible refine HC.out.mono ?_); rintro e w2 ⟨rfl, hb2⟩; have HB2 := Lib.hid hb2; clear hb2)
    go_ret2
    rw [HE.out, HNO.out]
    exact ⟨none, 0, 0, rfl, Own.nil _ _ _, HB2.out⟩
  | true =>
    rw [hb] at HC
    have hc := crossB_iff.1 hb
    have hw := wordC_wordP hc (isW_ex cs hc.nodup)
    obtain ⟨m, rfl⟩ : ∃ m : Nat, K = m := ⟨K.toNat, by have := hc.1; omega⟩
    have HM7 : Hid (m ≤ 7) := Lib.hid (by have := hc.1; omega)
    have HW := Lib.hid (fun u (hu : Below w.heap.size w u) => l3Word_any (m : Int) A n c cs u (hs.below hu (Nat.le_refl _)) hc)
    have hB : dpB (m : Int) cs = decide (lenL ((playL (wordC m cs) true (wordC m cs).length).take m) = (n : Int)) := by
      unfold dpB redB
      rw [hb, wordB_true hw.1, hw.2, HL.out, Bool.true_and, Bool.true_and, Int.toNat_natCast]
    have HWP := Lib.hid hw
    obtain ⟨ws, hws⟩ : ∃ ws, ws = wordC (m : Int) cs := ⟨_, rfl⟩
    rw [← hws] at hB HW HWP
    have HPL : Hid (playPerm true (m : Int) ws = (playL ws true ws.length).take m) := Lib.hid (playPerm_yes (wordB_true HWP.out.1))
    have HWS := Lib.hid hws
    obtain ⟨z, hz⟩ : ∃ z, z = lenL ((playL ws true ws.length).take m) := ⟨_, rfl⟩
    have HZ := Lib.hid hz.symm
    rw [← hz] at hB
    clear hs hc hw hws hz hb
    have hlast : ∀ (b : Bool), dpB (m : Int) cs = b → True := fun _ _ => trivial
    clear hlast
    by_cases hzn : z = (n : Int)
    · subst hzn
      have HE : Hid (dpB (m : Int) cs = true) := Lib.hid (by rw [hB]; simp)
      clear hB
      go_enter Try.func24, Try.ntmps24
      go_wp2_with (first
        | (go_at_call 46; (with_reducible refine HC.out.mono ?_); rintro e w2 ⟨rfl, hb2⟩; have HB2 := Lib.hid hb2; clear hb2)
        | (go_at_call 47; (with_reducible refine (HW.out _ HB2.out).mono ?_); rintro e wv ⟨Av, nv, cv, rfl, hov, hbv⟩
           obtain rfl : nv = ws.length := hov.len.symm
           have HOV := Lib.hid hov
           have HBV := Lib.hid hbv
           clear hov hbv)
        | (go_at_call 56; (with_reducible refine (l1Play_any m true Av ws.length cv ws wv HOV.out.si HWP.out.1).mono ?_); rintro e w3 ⟨A3, n3, c3, rfl, ho3, hb3⟩
           have HO3 := Lib.hid ho3
           have HZ3 : Hid (w3.heap.size ≤ w3.heap.size) := Lib.hid (Nat.le_refl _)
           have HBW3 : Hid (Below w.heap.size w w3) := Lib.hid ((HB2.out.trans (HBV.out.mono HB2.out.size)).trans (hb3.mono (Nat.le_trans HB2.out.size HBV.out.size)))
           have HN3 : Hid (n3 ≤ 7) := Lib.hid (by have h1 := ho3.len; rw [List.length_take] at h1; have := HM7.out; omega)
           clear ho3 hb3)
        | (go_at_call 57; (with_reducible refine (l1Length_any A3 n3 c3 _ w3 HO3.out.si HN3.out).mono ?_); rintro e w4 ⟨rfl, hb4⟩
           rw [HZ.out]
           have HB4 := Lib.hid hb4
           have HB34 : Hid (w3.heap.size ≤ w3.heap.size) := Lib.hid (Nat.le_refl _)
           clear hb4))
      go_ret2
      rw [HE.out, dp_yes HE.out, ← HWS.out, HPL.out]
      exact ⟨A3, n3, c3, rfl, (HO3.out.below HB4.out HB34.out).wide (Nat.le_trans HB2.out.size HBV.out.size) (Nat.le_trans HZ3.out HB4.out.size), HBW3.out.trans (HB4.out.mono HBW3.out.size)⟩
    · have HE : Hid (dpB (m : Int) cs = false) := Lib.hid (by rw [hB]; simp [hzn])
      have hki : (z != (n : Int)) = true := by simpa using hzn
      clear hB
      go_enter Try.func24, Try.ntmps24
      go_wp2_with (first
        | (go_at_call 46; (with_reducible refine HC.out.mono ?_); rintro e w2 ⟨rfl, hb2⟩; have HB2 := Lib.hid hb2; clear hb2)
        | (go_at_call 47; (with_reducible refine (HW.out _ HB2.out).mono ?_); rintro e wv ⟨Av, nv, cv, rfl, hov, hbv⟩
           obtain rfl : nv = ws.length := hov.len.symm
           have HOV := Lib.hid hov
           have HBV := Lib.hid hbv
           clear hov hbv)
        | (go_at_call 56; (with_reducible refine (l1Play_any m true Av ws.length cv ws wv HOV.out.si HWP.out.1).mono ?_); rintro e w3 ⟨A3, n3, c3, rfl, ho3, hb3⟩
           have HO3 := Lib.hid ho3
           have HZ3 : Hid (w3.heap.size ≤ w3.heap.size) := Lib.hid (Nat.le_refl _)
           have HBW3 : Hid (Below w.heap.size w w3) := Lib.hid ((HB2.out.trans (HBV.out.mono HB2.out.size)).trans (hb3.mono (Nat.le_trans HB2.out.size HBV.out.size)))
           have HN3 : Hid (n3 ≤ 7) := Lib.hid (by have h1 := ho3.len; rw [List.length_take] at h1; have := HM7.out; omega)
           clear ho3 hb3)
        | (go_at_call 57; (with_reducible refine (l1Length_any A3 n3 c3 _ w3 HO3.out.si HN3.out).mono ?_); rintro e w4 ⟨rfl, hb4⟩
           rw [HZ.out]
           have HB4 := Lib.hid hb4
           have HB34 : Hid (w3.heap.size ≤ w3.heap.size) := Lib.hid (Nat.le_refl _)
           clear hb4))
      go_ret2
      rw [HE.out, dp_no HE.out]
      exact ⟨none, 0, 0, rfl, Own.nil _ _ _, HBW3.out.trans (HB4.out.mono HBW3.out.size)⟩

set_option maxRecDepth 100000 in
set_option maxHeartbeats 1000000 in
theorem implDreamPerm_any (K : Int) (A : Option Addr) (n c : Nat) (cs : List Ce) (w : World) (hs : CS w A n cs) (hn : n ≤ 1099511627776) (hfit : FitC cs) (hA : A = none → n = 0 ∧ c = 0) :
    Calls Try.prog 25 #[.int .i64 K, .slice A n c] w fun e w' => FreshB w w' e (dpL K cs) (dpB K cs) := by
  have HD := Lib.hid (implDreamWord_any K A n c cs w hs hn hfit hA)
  clear hs hfit hA
  cases hb : crossB K cs with
  | false =>
    rw [hb] at HD
    have hno : dpB K cs = false := by unfold dpB; rw [hb]; rfl
    have HE := Lib.hid (dp_no hno)
    have HNO := Lib.hid hno
    clear hb hno
    go_enter Try.func25, Try.ntmps25
    go_wp2_with (go_at_call 20; (with_reducible refine HD.out.mono ?_); rintro e w2 ⟨A2, n2, c2, rfl, ho2, hb2⟩; have HB2 := Lib.hid hb2; clear ho2 hb2)
    go_ret2
    rw [HE.out, HNO.out]
    exact ⟨none, 0, 0, rfl, Own.nil _ _ _, HB2.out⟩
  | true =>
    rw [hb] at HD
    have hB : dpB K cs = redB K (wordC K cs) := by unfold dpB; rw [hb]; rfl
    have HWL : Hid ((wordC K cs).length ≤ 15) := Lib.hid wordC_len
    have HPE : Hid (dpB K cs = true → dpL K cs = playPerm true K (wordC K cs)) := Lib.hid dp_yes
    obtain ⟨ws, hws⟩ : ∃ ws, ws = wordC K cs := ⟨_, rfl⟩
    rw [← hws] at hB HD HWL HPE
    clear hws hb
    cases hr : redB K ws with
    | false =>
      rw [hr] at hB
      have HE := Lib.hid (dp_no hB)
      have HNO := Lib.hid hB
      have HR : Hid (∀ (A2 : Option Addr) (n2 c2 : Nat) (u : World), SI u A2 n2 ws → n2 ≤ 1099511627776 → Calls Try.prog 58 #[.int .i64 K, .slice A2 n2 c2] u fun e w' => e = .returned (.bool false) ∧ Below u.heap.size u w') := Lib.hid (fun A2 n2 c2 u h1 h2 => by have := isReducedW_any K A2 n2 c2 ws u h1 h2; rwa [hr] at this)
      clear hB hr
      go_enter Try.func25, Try.ntmps25
      go_wp2_with (first
        | (go_at_call 20; (with_reducible refine HD.out.mono ?_); rintro e w2 ⟨A2, n2, c2, rfl, ho2, hb2⟩; have HB2 := Lib.hid hb2; have HO2 := Lib.hid ho2; clear ho2 hb2)
        | (go_at_call 58; (with_reducible refine (HR.out A2 n2 c2 w2 HO2.out.si (by have h1 := HO2.out.len; have h2 := HWL.out; omega)).mono ?_); rintro e w3 ⟨rfl, hb3⟩; have HB3 := Lib.hid hb3; clear hb3))
      go_ret2
      rw [HE.out, HNO.out]
      exact ⟨none, 0, 0, rfl, Own.nil _ _ _, HB2.out.trans (HB3.out.mono HB2.out.size)⟩
    | true =>
      rw [hr] at hB
      have HE := Lib.hid (HPE.out hB)
      have HYES := Lib.hid hB
      have HR : Hid (∀ (A2 : Option Addr) (n2 c2 : Nat) (u : World), SI u A2 n2 ws → n2 ≤ 1099511627776 → Calls Try.prog 58 #[.int .i64 K, .slice A2 n2 c2] u fun e w' => e = .returned (.bool true) ∧ Below u.heap.size u w') := Lib.hid (fun A2 n2 c2 u h1 h2 => by have := isReducedW_any K A2 n2 c2 ws u h1 h2; rwa [hr] at this)
      clear hB hr HPE
      go_enter Try.func25, Try.ntmps25
      go_wp2_with (first
        | (go_at_call 20; (with_reducible refine HD.out.mono ?_); rintro e w2 ⟨A2, n2, c2, rfl, ho2, hb2⟩; have HB2 := Lib.hid hb2; have HO2 := Lib.hid ho2; clear ho2 hb2)
        | (go_at_call 58; (with_reducible refine (HR.out A2 n2 c2 w2 HO2.out.si (by have h1 := HO2.out.len; have h2 := HWL.out; omega)).mono ?_); rintro e w3 ⟨rfl, hb3⟩; have HB3 := Lib.hid hb3; have HO3 := Lib.hid (HO2.out.below hb3 (Nat.le_refl _)); clear hb3)
        | (go_at_call 59; (with_reducible refine (implWord_any K A2 n2 c2 ws w3 HO3.out.si (by have h1 := HO2.out.len; have h2 := HWL.out; omega)).mono ?_); rintro e w4 ⟨A4, n4, c4, rfl, ho4, hb4⟩; have HO4 := Lib.hid ho4; have HB4 := Lib.hid hb4; clear ho4 hb4))
      go_ret2
      rw [HE.out, HYES.out]
      have h3 : Below w.heap.size w w3 := HB2.out.trans (HB3.out.mono HB2.out.size)
      exact ⟨A4, n4, c4, rfl, HO4.out.wide h3.size (Nat.le_refl _), h3.trans (HB4.out.mono h3.size)⟩
end Go.Proofs.Ytdiiaallklkomaa
