/-
  Patterns, the document's side: a function that calls itself over what is chosen. Conditions: at most seven numbers each.
-/
import Derived.Test.YthmnaakaogpohaaSpecF
import Derived.Deep.RegionHeld3
import Derived.Deep.AppendLies
namespace Go.Proofs.Ythmnaakaogpohaa
open Go.RowKit

/-- Whether x goes on from the first t chosen ones as the pattern's next number does. -/
def fitN (ps ch : List Int) (x : Int) : Nat → Bool
  | 0 => true
  | t + 1 => fitN ps ch x t && (decide (nth ch t < x) == decide (nth ps t < nth ps ch.length))
/-- Whether the chosen ones can be gone on with, from place a. -/
def patB (ws ps : List Int) : Nat → List Int → Nat → Bool
  | 0, _, _ => false
  | f + 1, ch, a => decide (ch.length = ps.length) || (List.range ws.length).any fun i => decide (a ≤ i) && (fitN ps ch (nth ws i) ch.length && patB ws ps f (ch ++ [nth ws i]) (i + 1))
theorem patB_full {ws ps ch : List Int} {f a : Nat} (h : ch.length = ps.length) : patB ws ps (f + 1) ch a = true := by simp [patB, h]
theorem patB_hit {ws ps ch : List Int} {f a i : Nat} (h0 : a ≤ i) (h1 : i < ws.length) (h2 : fitN ps ch (nth ws i) ch.length = true) (h3 : patB ws ps f (ch ++ [nth ws i]) (i + 1) = true) : patB ws ps (f + 1) ch a = true := by
  have : ((List.range ws.length).any fun i => decide (a ≤ i) && (fitN ps ch (nth ws i) ch.length && patB ws ps f (ch ++ [nth ws i]) (i + 1))) = true := by
    rw [List.any_eq_true]
    exact ⟨i, List.mem_range.2 h1, by rw [decide_eq_true h0, h2, h3]; rfl⟩
  show (_ || _) = true
  rw [this, Bool.or_true]
theorem patB_miss {ws ps ch : List Int} {f a : Nat} (hn : ch.length ≠ ps.length) (h : ∀ i, a ≤ i → i < ws.length → (fitN ps ch (nth ws i) ch.length && patB ws ps f (ch ++ [nth ws i]) (i + 1)) = false) : patB ws ps (f + 1) ch a = false := by
  have : ((List.range ws.length).any fun i => decide (a ≤ i) && (fitN ps ch (nth ws i) ch.length && patB ws ps f (ch ++ [nth ws i]) (i + 1))) = false := by
    rw [List.any_eq_false]
    intro i hi
    have hi := List.mem_range.1 hi
    by_cases h0 : a ≤ i
    · rw [h i h0 hi]; simp
    · rw [decide_eq_false h0]; simp
  show (_ || _) = false
  rw [this, decide_eq_false hn]; rfl

/-- The kit's step_append_lies for an operation that is guarded and wanted. -/
theorem step_append_wanted {P : Program} (w : World) {ops : Array Oper} {o : Oper} {a : Act} {K : Act → World → Prop} {Q : Exit → Act → World → Prop} {E0 : Prop} (hw : Region.wanted o (yielded ops a.tmps) = true) (s x : Operand) (t : TypeId)
    (ho : o.op = .call { callee := .builtin .append, args := #[s, x], argTypes := #[t, t] })
    (base : Nat) (e : TypeId) (i : TypeInfo) (z : Value) (size bytes : Nat) (ht : P.underlying t = some (.slice e)) (hi : P.info? e = some i) (hz : i.zero = some z)
    (hsize : i.size = size) (hby : i.bytes = bytes) (hzs : z.cells.size = size) (hsz : 0 < size)
    (v : Value) (n : Nat) (xs : List Value) (hs : a.eval s = v) (hown : w.ownsRow base e size v n xs)
    (ad : Addr) (m c : Nat) (news : List Value) (hx : a.eval x = .slice (some ad) m c) (hl : news.length = m * size) (hnews : ∀ j u, news[j]? = some u → w.cell? (ad.add j) = some u) (h1 : ∀ u ∈ news, u.oneCell' = true)
    (hm : 0 < m) (h63 : n + m ≤ maxLen) (hbytes : (n + m) * bytes ≤ 140737488355328) (hbase : base ≤ w.heap.size) (H : Nat) (hH : w.heap.size = H)
    (h : ∀ g cap w', w'.ownsRow base e size (.slice (some ⟨g, 0, none⟩) (n + m) cap) (n + m) (xs ++ news) → w.grownBy w' v.ownBlock → (v.ownBlock = some g ∨ g = H) → g < w'.heap.size → K (a.put o.dst (.slice (some ⟨g, 0, none⟩) (n + m) cap)) w') :
    if Region.wanted o (yielded ops a.tmps) = true then Oper.wp P o a w K Q else E0 := by
  rw [if_pos hw]
  exact wp_append_lies w s x t ho base e i z size bytes ht hi hz hsize hby hzs hsz v n xs hs hown ad m c news hx hl hnews h1 hm h63 hbytes hbase H hH h

/-- Whether ws has the pattern ps. -/
def hasPB (ws ps : List Int) : Bool := isPermB ws && (isPermB ps && patB ws ps (ps.length + 1) [] 0)
theorem hasPB_1 {ws ps : List Int} (h : isPermB ws = false) : hasPB ws ps = false := by unfold hasPB; rw [h]; rfl
theorem hasPB_2 {ws ps : List Int} (h : isPermB ps = false) : hasPB ws ps = false := by unfold hasPB; rw [h]; simp
theorem hasPB_3 {ws ps : List Int} (h : isPermB ws = true) (h' : isPermB ps = true) : hasPB ws ps = patB ws ps (ps.length + 1) [] 0 := by unfold hasPB; rw [h, h']; rfl
end Go.Proofs.Ythmnaakaogpohaa
