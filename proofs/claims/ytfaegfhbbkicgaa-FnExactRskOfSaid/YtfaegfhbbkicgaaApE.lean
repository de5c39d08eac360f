/-
  Lists of lists, their blocks named and apart from another slice's; an append that keeps what it was given. Conditions: lengths below 2^40.
-/
import Derived.Test.YtfaegfhbbkicgaaLsMem
import Derived.Deep.DeepAppendRoom
import Derived.Lib.AppendZeros
namespace Go.Proofs.Ytfaegfhbbkicgaa
open Go.RowKit

/-- The block of a slice. -/
def rowB (A : Option Addr) : Option Nat := (Value.slice A 0 0).ownBlock
theorem ownB (A : Option Addr) (n c : Nat) : (Value.slice A n c).ownBlock = rowB A := by cases A <;> rfl
theorem rowB_some (g o : Nat) : rowB (some ⟨g, o, none⟩) = some g := rfl
/-- One more name. -/
def snE (E : Nat → Sv) (n : Nat) (a : Sv) : Nat → Sv := fun j => if j = n then a else E j
theorem snE_lt (E : Nat → Sv) {n j : Nat} (a : Sv) (h : j < n) : snE E n a j = E j := if_neg (by omega)
theorem snE_at (E : Nat → Sv) (n : Nat) (a : Sv) : snE E n a n = a := if_pos rfl
theorem OwnLE.appE {w w' : World} {lo hi n c : Nat} {A : Option Addr} {ls : List (List Int)} {E : Nat → Sv} (h : OwnLE E w lo hi A n c ls) {lo2 hi2 n2 c2 : Nat} {A2 : Option Addr} {xs : List Int} (hx : Own w lo2 hi2 A2 n2 c2 xs)
    (hlo : lo ≤ lo2) (hap : ∀ b, (Value.slice A2 n2 c2).ownBlock = some b → (Value.slice A n c).ownBlock ≠ some b ∧ ∀ j, j < n → (sv (E j)).ownBlock ≠ some b) {H g cap : Nat} (hH : hi2 ≤ H) (hHh : hi ≤ H) (hHw : H ≤ w.heap.size)
    (ho : w'.ownsRow lo 22 1 (.slice (some ⟨g, 0, none⟩) (n + 1) cap) (n + 1) (heads n E ++ [.slice A2 n2 c2]))
    (hg : w.grownBy w' (Value.slice A n c).ownBlock) (hat : (Value.slice A n c).ownBlock = some g ∨ H ≤ g) (hlt : g < w'.heap.size) : OwnLE (snE E n (A2, n2, c2)) w' lo w'.heap.size (some ⟨g, 0, none⟩) (n + 1) cap (ls ++ [xs]) := by
  obtain ⟨h1, h2, h3, h4, h5, h6⟩ := h
  have hsz := hg.size
  have eh : heads n E ++ [Value.slice A2 n2 c2] = heads (n + 1) (fun j => if j = n then (A2, n2, c2) else E j) := heads_app n E (A2, n2, c2)
  rw [eh] at ho
  have eE : ∀ j, j < n → (if j = n then ((A2, n2, c2) : Sv) else E j) = E j := fun j hj => by rw [if_neg (by omega)]
  have eN : (if n = n then ((A2, n2, c2) : Sv) else E n) = (A2, n2, c2) := if_pos rfl
  refine ⟨by simp [h1], ho, ?_, ?_, ?_, ?_⟩
  · intro k hk
    simp [Value.ownBlock] at hk
    omega
  · intro j hj
    by_cases e : j = n
    · subst e
      have := @li_app_at ls xs
      rw [h1] at this
      rw [this]
      show Own w' lo w'.heap.size (if j = j then ((A2, n2, c2) : Sv) else E j).1 (if j = j then ((A2, n2, c2) : Sv) else E j).2.1 (if j = j then ((A2, n2, c2) : Sv) else E j).2.2 xs
      rw [eN]
      exact (hx.kept hg (fun b hb e => (hap b hb).1 e)).wide hlo (by omega)
    · rw [li_app_lt (by rw [h1]; omega)]
      show Own w' lo w'.heap.size (if j = n then ((A2, n2, c2) : Sv) else E j).1 (if j = n then ((A2, n2, c2) : Sv) else E j).2.1 (if j = n then ((A2, n2, c2) : Sv) else E j).2.2 _
      rw [eE j (by omega)]
      exact ((h4 j (by omega)).kept hg (fun b hb e => h5 j b (by omega) hb e)).wide (Nat.le_refl _) (by omega)
  · intro j b hj hb e2
    have hbg : b = g := by simp [Value.ownBlock] at e2; omega
    subst hbg
    have hb' : (sv (if j = n then ((A2, n2, c2) : Sv) else E j)).ownBlock = some b := hb
    by_cases e : j = n
    · subst e
      rw [eN] at hb'
      have h7 := hx.lt b hb'
      rcases hat with ha | ha
      · exact (hap b hb').1 ha
      · omega
    · rw [eE j (by omega)] at hb'
      rcases hat with ha | ha
      · exact h5 j b (by omega) hb' ha
      · have := (h4 j (by omega)).lt b hb'; omega
  · intro i j b hij hj hb hb2
    have hb' : (sv (if i = n then ((A2, n2, c2) : Sv) else E i)).ownBlock = some b := hb
    have hb2' : (sv (if j = n then ((A2, n2, c2) : Sv) else E j)).ownBlock = some b := hb2
    rw [eE i (by omega)] at hb'
    by_cases e : j = n
    · subst e
      rw [eN] at hb2'
      exact (hap b hb2').2 i (by omega) hb'
    · rw [eE j (by omega)] at hb2'
      exact h6 i j b hij (by omega) hb' hb2'
/-- 'out = append(out, x)' where x is a list of the call's own that lies behind them. -/
theorem wpList_appendLE {ops : Array Oper} {rest : List Oper} {o : Oper} {a : Act} {w : World} {Q : Exit → Act → World → Prop} (hgd : o.guard = none) (s x : Operand)
    (ho : o.op = .call { callee := .builtin .append, args := #[s, x], argTypes := #[41, 41] })
    (lo hi : Nat) (A : Option Addr) (n c : Nat) (ls : List (List Int)) (lo2 hi2 : Nat) (A3 : Option Addr) (n3 c3 : Nat) (xs : List Int) (hs : a.eval s = .slice A n c) (hx : a.eval x = .slice (some ⟨w.heap.size, 0, none⟩) 1 1)
    {E : Nat → Sv} (hown : OwnLE E w lo hi A n c ls) (hxs : Own w lo2 hi2 A3 n3 c3 xs) (hlo : lo ≤ lo2) (hap : ∀ b, (Value.slice A3 n3 c3).ownBlock = some b → (Value.slice A n c).ownBlock ≠ some b ∧ ∀ j, j < n → (sv (E j)).ownBlock ≠ some b) (h1 : hi2 ≤ w.heap.size) (h2 : hi ≤ w.heap.size) (h3 : lo ≤ w.heap.size) (hn : n ≤ 1099511627776)
    (hK : ∀ A' c' w', OwnLE (snE E n (A3, n3, c3)) w' lo w'.heap.size A' (n + 1) c' (ls ++ [xs]) → (rowB A' = rowB A ∨ ∃ g, rowB A' = some g ∧ w.heap.size ≤ g) → w.grownBy w' (rowB A) → Below lo w w' → wpList Try.prog ops Q rest (a.put o.dst (.slice A' (n + 1) c')) w') :
    wpList Try.prog ops Q (o :: rest) a (w.alloc (.cells #[.slice A3 n3 c3] 22)) := by
  obtain ⟨i0, hi0, hz0, hz1, hz2⟩ := info_parts Try.infoLs
  have hE := hown
  have hE' : OwnLE E (w.alloc (.cells #[.slice A3 n3 c3] 22)) lo hi A n c ls := hE.below ((Below.refl w.heap.size w).alloc (Nat.le_refl _) _) h2
  have hx' : Own (w.alloc (.cells #[.slice A3 n3 c3] 22)) lo2 hi2 A3 n3 c3 xs := hxs.below ((Below.refl w.heap.size w).alloc (Nat.le_refl _) _) h1
  refine Go.wpList_append_own_at _ hgd s x 41 ho lo 22 i0 (.slice none 0 0) 1 24 Try.underlying41 hi0 hz0 hz1 hz2 rfl (by decide) _ _ _ hs hE'.2.1 ⟨w.heap.size, 0, none⟩ 1 1 [.slice A3 n3 c3] hx rfl ?_ ?_ (by unfold maxLen; omega) (by omega) (by simp; omega) ?_
  · intro j u hj
    match j, hj with
    | 0, hj =>
      simp at hj
      subst hj
      rw [add_pt]
      exact (Blk.new w 22 #[.slice A3 n3 c3]).cell 0
  · intro u hu
    simp at hu
    subst hu
    rfl
  · intro v' w1 ho1 hg1 _ hat
    obtain ⟨g, cap, rfl, _, hlt⟩ := ho1.form (by omega)
    have hh : OwnLE (snE E n (A3, n3, c3)) w1 lo w1.heap.size (some ⟨g, 0, none⟩) (n + 1) cap (ls ++ [xs]) := hE'.appE hx' hlo hap (H := w.heap.size) h1 h2 (by simp) ho1 hg1 (by
      rcases hat with h | h
      · exact .inl (by rw [← h]; rfl)
      · right
        simp [Value.ownBlock] at h
        omega) hlt
    have hg2 : w.grownBy w1 (Value.slice A n c).ownBlock := (World.grownBy_alloc w _ _).trans hg1
    rw [ownB] at hg2
    refine hK _ _ w1 hh ?_ hg2 (grow_below hg2 h3 (fun k hk => (hE.2.1.lt k (by rw [ownB]; exact hk)).1))
    rcases hat with h | h
    · left; rw [ownB, ownB] at h; exact h
    · right; rw [ownB] at h; exact ⟨_, h, by simp⟩
/-- The block g is none of the lists'. -/
def Apart (E : Nat → Sv) (A : Option Addr) (n g : Nat) : Prop := rowB A ≠ some g ∧ ∀ j, j < n → (sv (E j)).ownBlock ≠ some g
theorem OwnLE.apart_hi {E : Nat → Sv} {w : World} {lo hi n c : Nat} {A : Option Addr} {ls : List (List Int)} (h : OwnLE E w lo hi A n c ls) {w2 : World} {lo2 hi2 n2 c2 : Nat} {A2 : Option Addr} {xs : List Int} (hx : Own w2 lo2 hi2 A2 n2 c2 xs) (hd : hi ≤ lo2) :
    ∀ b, (Value.slice A2 n2 c2).ownBlock = some b → (Value.slice A n c).ownBlock ≠ some b ∧ ∀ j, j < n → (sv (E j)).ownBlock ≠ some b := fun b hb => by
  have h1 := (hx.lt b hb).1
  exact ⟨fun e => by have := h.2.2.1 b e; omega, fun j hj e => by have := (h.2.2.2.1 j hj).lt b e; omega⟩
theorem OwnLE.apart {E : Nat → Sv} {w w' : World} {lo hi n c : Nat} {A : Option Addr} {ls : List (List Int)} (h : OwnLE E w lo hi A n c ls) {row : Option Nat} (hg : w.grownBy w' row) (hr : ∀ g, row = some g → Apart E A n g) : OwnLE E w' lo hi A n c ls := by
  obtain ⟨h1, h2, h3, h4, h5, h6⟩ := h
  refine ⟨h1, h2.kept hg ?_, h3, fun j hj => (h4 j hj).kept hg fun b hb e => (hr b e).2 j hj hb, h5, h6⟩
  cases hb : (Value.slice A n c).ownBlock with
  | none => exact .inl rfl
  | some k => exact .inr fun e => (hr k e.symm).1 (by rw [← ownB A n c]; exact hb)
theorem OwnLE.wide {E : Nat → Sv} {w : World} {lo hi n c : Nat} {A : Option Addr} {ls : List (List Int)} (h : OwnLE E w lo hi A n c ls) {hi' : Nat} (h2 : hi ≤ hi') : OwnLE E w lo hi' A n c ls := by
  obtain ⟨e1, e2, e3, e4, e5, e6⟩ := h
  exact ⟨e1, e2, fun k hk => Nat.lt_of_lt_of_le (e3 k hk) h2, fun j hj => (e4 j hj).wide (Nat.le_refl _) h2, e5, e6⟩
/-- Without its last number. -/
theorem Own.front {w : World} {lo hi n c : Nat} {A : Option Addr} {xs : List Int} {x : Int} (h : Own w lo hi A (n + 1) c (xs ++ [x])) : Own w lo hi A n c xs := by
  have hl : xs.length = n := by have := h.len; simpa using this
  refine ⟨⟨by simpa using hl, ?_⟩, fun k hk => h.2 k (by rw [ownB] at hk ⊢; exact hk)⟩
  rcases h.1.2 with ⟨_, h0⟩ | ⟨g, cap, cur, e, hb, hg, hnc, hcm, hcs, ht⟩
  · omega
  · injection e with e1 e2 e3
    refine .inr ⟨g, cap, cur, by rw [e1, e3], hb, hg, by omega, hcm, hcs, ?_⟩
    have h2 := congrArg (List.take n) ht
    have e2 : List.take n (List.map (Value.int .i64) xs ++ List.map (Value.int .i64) [x]) = List.map (Value.int .i64) xs := by
      rw [List.take_append_of_le_length (by simp; omega), List.take_of_length_le (by simp; omega)]
    rw [List.take_take, List.map_append, e2, show min n ((n + 1) * 1) = n by omega] at h2
    rw [Nat.mul_one]; exact h2
/-- The same block. -/
theorem Own.same {w w' : World} {lo hi n c : Nat} {A : Option Addr} {xs : List Int} (h : Own w lo hi A n c xs) (hg : ∀ g, rowB A = some g → w'.heap[g]? = w.heap[g]?) : Own w' lo hi A n c xs := by
  refine ⟨⟨h.1.1, ?_⟩, h.2⟩
  rcases h.1.2 with hn | ⟨g, cap, cur, e, hb, hq, rest⟩
  · exact .inl hn
  · exact .inr ⟨g, cap, cur, e, hb, (hg g (by injection e with e1; rw [e1]; rfl)).trans hq, rest⟩
theorem Own.tight {w : World} {lo hi hi' n c : Nat} {A : Option Addr} {xs : List Int} (h : Own w lo hi A n c xs) (hg : ∀ g, rowB A = some g → g < hi') : Own w lo hi' A n c xs :=
  ⟨h.1, fun k hk => hg k (by rw [← ownB A n c]; exact hk)⟩
theorem grow_row (w : World) (lo n G : Nat) (xs : List Value) (Z : Array Value) (hl : xs.length = n) (hz : Z.size = 1) (hlo : lo ≤ w.heap.size) (hn : n ≤ G) (hG : G ≤ maxLen) :
    (w.drew.alloc (.cells (xs.toArray ++ Builtin.zeroCells Z (G - n)) 3)).ownsRow lo 3 1 (.slice (some ⟨w.heap.size, 0, none⟩) n G) n xs := by
  refine ⟨by omega, .inr ⟨w.heap.size, G, _, rfl, hlo, heap_alloc_new w.drew _, hn, hG, ?_, ?_⟩⟩
  · rw [Array.size_append, size_zeroCells, hz, List.size_toArray]; omega
  · rw [Array.toList_append, Nat.mul_one, List.take_append_of_le_length (by simp; omega), List.take_of_length_le (by simp; omega)]
set_option maxRecDepth 100000 in
/-- 'append(b, x)' on a slice of the call's own that is wanted again. -/
theorem wpList_append_keep {ops : Array Oper} {rest : List Oper} {o : Oper} {a : Act} {w : World} {Q : Exit → Act → World → Prop} (hgd : o.guard = none) (s x : Operand)
    (ho : o.op = .call { callee := .builtin .append, args := #[s, x], argTypes := #[22, 22] })
    (lo hi : Nat) (A : Option Addr) (n c : Nat) (xs : List Int) (v : Int) (hs : a.eval s = .slice A n c) (hx : a.eval x = .slice (some ⟨w.heap.size, 0, none⟩) 1 1)
    (hown : Own w lo hi A n c xs) (hlo : lo ≤ w.heap.size) (hn : n ≤ 1099511627776)
    (hK : ∀ A' c' w', Own w' lo w'.heap.size A' (n + 1) c' (xs ++ [v]) → w.grownBy w' (rowB A) → ((A' = A ∧ c' = c) ∨ ∃ g, A' = some ⟨g, 0, none⟩ ∧ w.heap.size ≤ g ∧ w.grownBy w' none) → wpList Try.prog ops Q rest (a.put o.dst (.slice A' (n + 1) c')) w') :
    wpList Try.prog ops Q (o :: rest) a (w.alloc (.cells #[.int .i64 v] 3)) := by
  obtain ⟨i0, hi0, hz0, hz1, hz2⟩ := info_parts Try.infoInt
  have hnews : ∀ j u, [Value.int .i64 v][j]? = some u → (w.alloc (.cells #[.int .i64 v] 3)).cell? ((⟨w.heap.size, 0, none⟩ : Addr).add j) = some u := by
    intro j u hj
    match j, hj with
    | 0, hj =>
      simp at hj
      subst hj
      rw [add_pt]
      exact (Blk.new w 3 #[.int .i64 v]).cell 0
  have hone : ∀ u ∈ [Value.int .i64 v], u.oneCell' = true := by
    intro u hu
    simp at hu
    subst hu
    rfl
  have hg1 : ∀ row, w.grownBy (w.alloc (.cells #[.int .i64 v] 3)) row := fun row => World.grownBy_alloc w _ row
  have hlo1 : lo ≤ (w.alloc (.cells #[.int .i64 v] 3)).heap.size := by simp; omega
  have hsz1 : w.heap.size ≤ (w.alloc (.cells #[.int .i64 v] 3)).heap.size := by simp
  have ho1 := hown.1.alloc (.cells #[.int .i64 v] 3)
  have hxl := hown.len
  have hz : (Value.int IntKind.i64 0).cells.size = 1 := rfl
  generalize (w.alloc (.cells #[.int .i64 v] 3)) = W at hnews hg1 hlo1 hsz1 ho1 ⊢
  have hgw : ∀ (row : Option Nat) (ob : Obj), w.grownBy (W.drew.alloc ob) row := fun row ob =>
    (hg1 row).trans ⟨rfl, rfl, rfl, by simp, fun k hk _ => heap_alloc_old W.drew _ hk⟩
  rcases ho1.2 with ⟨e, h0⟩ | ⟨g, cap, cur, e, hb, hq, hnc, hcm, hcs, ht⟩
  · injection e with e1 e2 e3
    subst e1; subst e3; subst h0
    have hx0 : xs = [] := List.eq_nil_of_length_eq_zero hxl
    subst hx0
    have hGn := grownCap_ge W 1 0 3
    have hGm := grownCap_le_maxLen W 1 0 3 (by unfold maxLen; omega)
    have hr := run_append_nil (P := Try.prog) W 22 o.type 3 i0 (.int .i64 0) Try.underlying22 hi0 hz0 ⟨w.heap.size, 0, none⟩ 1 1 [.int .i64 v] (by rw [hz1]; rfl) hnews (by omega) (by omega) (by rw [hz2]; omega)
    refine Lib.wpList_append_run _ hgd s x _ _ ho _ _ hs hx _ _ hr ?_
    refine hK _ _ _ (Own.of (grow_row W lo 1 _ [.int .i64 v] _ rfl hz hlo1 hGn hGm)) (hgw _ _) (.inr ⟨W.heap.size, rfl, hsz1, hgw _ _⟩)
  · injection e with e1 e2 e3
    subst e1; subst e3
    by_cases hroom : n + 1 ≤ c
    · refine wpList_append_own_spare _ hgd s x 22 ho lo 3 i0 1 Try.underlying22 hi0 hz1 g n c _ hs ho1 ⟨w.heap.size, 0, none⟩ 1 1 [.int .i64 v] hx rfl hnews hone hroom ?_
      intro w1 hr1 hg2
      have e1 : List.map (Value.int .i64) xs ++ [Value.int .i64 v] = (xs ++ [v]).map (Value.int .i64) := by simp
      rw [e1] at hr1
      exact hK _ _ w1 (Own.of hr1) ((hg1 _).trans hg2) (.inl ⟨rfl, rfl⟩)
    · have hGn := grownCap_ge W (n + 1) c 3
      have hGm := grownCap_le_maxLen W (n + 1) c 3 (by unfold maxLen; omega)
      have hr := run_append_grow (P := Try.prog) W 22 o.type 3 i0 (.int .i64 0) Try.underlying22 hi0 hz0 ⟨g, 0, none⟩ n c (xs.map (Value.int .i64)) (by rw [hz1]; simp; omega) (ho1.cells (g := g) rfl) ⟨w.heap.size, 0, none⟩ 1 1 [.int .i64 v] (by rw [hz1]; rfl) hnews (by omega) (by omega) (growslice_fits (by omega) (by rw [hz2]; omega))
      refine Lib.wpList_append_run _ hgd s x _ _ ho _ _ hs hx _ _ hr ?_
      have e1 : (xs.map (Value.int .i64)).toArray ++ [Value.int .i64 v].toArray = ((xs ++ [v]).map (Value.int .i64)).toArray := by simp
      rw [e1]
      refine hK _ _ _ (Own.of (grow_row W lo (n + 1) _ ((xs ++ [v]).map (Value.int .i64)) _ (by simp; omega) hz hlo1 hGn hGm)) (hgw _ _) (.inr ⟨W.heap.size, rfl, hsz1, hgw _ _⟩)
end Go.Proofs.Ytfaegfhbbkicgaa
