/-
  slices.Delete of one number of a slice that the call owns. Conditions: lengths below 2^40.
-/
import Derived.Test.YtfaegfhbbkicgaaOwn
import Derived.Deep.RegionLaw
import Derived.Lib.SliceRun
namespace Go.Proofs.Ytfaegfhbbkicgaa
open Go.RowKit

/-- Numbers laid over a list from place o on. -/
def layL (xs : List Int) (o : Nat) : List Int → List Int
  | [] => xs
  | y :: r => layL (xs.set o y) (o + 1) r
theorem layL_len (xs : List Int) (o : Nat) (ys : List Int) : (layL xs o ys).length = xs.length := by
  induction ys generalizing xs o with
  | nil => rfl
  | cons y r ih => unfold layL; rw [ih]; simp
theorem layL_app (a : List Int) : ∀ (ys b : List Int), ys.length ≤ b.length → layL (a ++ b) a.length ys = a ++ ys ++ b.drop ys.length
  | [], b, _ => by simp [layL]
  | y :: r, [], h => by simp at h
  | y :: r, x :: b, h => by
    unfold layL
    rw [List.set_append_right _ _ (Nat.le_refl _), Nat.sub_self, List.set_cons_zero]
    have e : a ++ y :: b = (a ++ [y]) ++ b := by simp
    have hl : a.length + 1 = (a ++ [y]).length := by simp
    rw [e, hl, layL_app (a ++ [y]) r b (by simpa using h)]
    simp
/-- The list without its k-th number. -/
def delL (xs : List Int) (k : Nat) : List Int := xs.take k ++ xs.drop (k + 1)
theorem delL_len {xs : List Int} {k : Nat} (h : k < xs.length) : (delL xs k).length = xs.length - 1 := by simp [delL]; omega
theorem lay_del {xs : List Int} {k : Nat} (h : k < xs.length) : ((layL xs k (xs.drop (k + 1))).set (xs.length - 1) 0).take (xs.length - 1) = delL xs k := by
  rw [List.take_set, List.set_eq_of_length_le (by rw [List.length_take]; omega)]
  have hl : (xs.take k).length = k := by simp; omega
  have e : layL xs k (xs.drop (k + 1)) = layL (xs.take k ++ xs.drop k) (xs.take k).length (xs.drop (k + 1)) := by rw [List.take_append_drop, hl]
  rw [e, layL_app _ _ _ (by simp; omega)]
  unfold delL
  rw [List.take_append_of_le_length (by simp; omega), List.take_of_length_le (by simp; omega)]
theorem Own.setCells {w : World} {lo hi g n c : Nat} {xs : List Int} (h : Own w lo hi (some ⟨g, 0, none⟩) n c xs) : ∀ (ys : List Int) (o : Nat), Own (w.setCells g o (ys.map (Value.int .i64))) lo hi (some ⟨g, 0, none⟩) n c (layL xs o ys) ∧ w.grownBy (w.setCells g o (ys.map (Value.int .i64))) (some g) := by
  intro ys
  induction ys generalizing w xs with
  | nil => intro o; exact ⟨h, World.grownBy.refl _ _⟩
  | cons y r ih =>
    intro o
    obtain ⟨h1, g1⟩ := h.set_ (k := o) y
    obtain ⟨h2, g2⟩ := ih h1 (o + 1)
    exact ⟨h2, g1.trans g2⟩
theorem Own.shrink {w : World} {lo hi g n c m : Nat} {xs : List Int} (h : Own w lo hi (some ⟨g, 0, none⟩) n c xs) (hm : m ≤ n) : Own w lo hi (some ⟨g, 0, none⟩) m c (xs.take m) := by
  have hl := h.len
  refine ⟨⟨by simp; omega, ?_⟩, h.2⟩
  rcases h.1.2 with ⟨e, _⟩ | ⟨g', cap, cur, e, h1, h2, h3, h4, h5, h6⟩
  · cases e
  · have e' := e
    simp only [Value.slice.injEq, Option.some.injEq, Addr.mk.injEq, and_true, true_and] at e'
    obtain ⟨rfl, rfl⟩ := e'
    refine .inr ⟨g, c, cur, rfl, h1, h2, by omega, h4, h5, ?_⟩
    rw [Nat.mul_one] at h6 ⊢
    rw [List.map_take, ← h6, List.take_take, Nat.min_eq_left hm]
theorem Own.room {w : World} {lo hi g n c : Nat} {xs : List Int} (h : Own w lo hi (some ⟨g, 0, none⟩) n c xs) {j : Nat} (hj : j < c) : (w.cell? ⟨g, j, none⟩).isSome = true ∧ w.frozen? ⟨g, j, none⟩ = false := by
  refine ⟨?_, h.frozenAt j⟩
  rcases h.1.2 with ⟨e, _⟩ | ⟨g', cap, cur, e, h1, h2, h3, h4, h5, h6⟩
  · cases e
  · simp only [Value.slice.injEq, Option.some.injEq, Addr.mk.injEq, and_true, true_and] at e
    obtain ⟨rfl, rfl⟩ := e
    rw [cell_of_row w g j cur _ (0, 0) h2]
    simp; omega
theorem Own.capmax {w : World} {lo hi g n c : Nat} {xs : List Int} (h : Own w lo hi (some ⟨g, 0, none⟩) n c xs) : c ≤ 9223372036854775807 := by
  rcases h.1.2 with ⟨e, _⟩ | ⟨g', cap, cur, e, h1, h2, h3, h4, h5, h6⟩
  · cases e
  · simp only [Value.slice.injEq, Option.some.injEq, Addr.mk.injEq, and_true, true_and] at e
    obtain ⟨rfl, rfl⟩ := e
    unfold maxLen at h4
    omega
theorem Try.zeroInt : ∀ w, (zeroValue 3).run Try.prog w = .ok (.int .i64 0) w := by
  intro w
  obtain ⟨i0, hi, hz0, hz1, hz2⟩ := info_parts Try.infoInt
  simp [zeroValue, typeInfo, hi, hz0]

set_option maxHeartbeats 1600000 in
set_option maxRecDepth 1000000 in
theorem delete_own (g n c k lo hi : Nat) (xs : List Int) (w : World) (hs : Own w lo hi (some ⟨g, 0, none⟩) n c xs) (hk : k < n) :
    Calls Try.prog 203 #[.slice (some ⟨g, 0, none⟩) n c, .int .i64 k, .int .i64 ((k : Int) + 1)] w fun e w' =>
      e = .returned (.slice (some ⟨g, 0, none⟩) (n - 1) c) ∧ Own w' lo hi (some ⟨g, 0, none⟩) (n - 1) c (delL xs k) ∧ w.grownBy w' (some g) := by
  obtain ⟨i0, hi0, hz0, hz1, hz2⟩ := info_parts Try.infoInt
  have hnc := hs.cap
  have hl := hs.len
  have hcm : c ≤ 9223372036854775807 := hs.capmax
  obtain ⟨ys, hys⟩ : ∃ ys, ys = xs.drop (k + 1) := ⟨_, rfl⟩
  have hyl : ys.length = n - (k + 1) := by rw [hys]; simp; omega
  have hcell : ∀ j, j < n → w.cell? ⟨g, j, none⟩ = some (.int .i64 (nth xs j)) := fun j hj => hs.cellAt hj
  obtain ⟨A, hA, hnews⟩ : ∃ A : Addr, (if c = k + 1 then some (⟨g, 0, none⟩ : Addr) else some ⟨g, k + 1, none⟩) = some A ∧ Hid (∀ j u, (ys.map (Value.int .i64))[j]? = some u → w.drew.cell? (A.add j) = some u) := by
    by_cases h : c = k + 1
    · refine ⟨⟨g, 0, none⟩, by simp [h], fun j u hu => ?_⟩
      have h0 : ys = [] := List.eq_nil_of_length_eq_zero (by omega)
      rw [h0] at hu
      simp at hu
    · refine ⟨⟨g, k + 1, none⟩, by simp [h], fun j u hu => ?_⟩
      have hj : j < ys.length := by
        have := (List.getElem?_eq_some_iff.1 hu).1
        simpa using this
      rw [List.getElem?_map, nth_get? hj] at hu
      rw [Addr.add_lit]
      refine (hcell (k + 1 + j) (by omega)).trans ?_
      rw [← hu, hys]
      simp [nth, List.getD]
  have s1 : Hid ((ys.map (Value.int .i64)).length = (n - (k + 1)) * 1) := by rw [Nat.mul_one]; show _ = _; simpa using hyl
  have s2 : Hid (∀ u ∈ ys.map (Value.int .i64), u.oneCell' = true) := ints_oneCell _ _
  have s3 : Hid (∀ j, j < (ys.map (Value.int .i64)).length → (w.drew.cell? ⟨g, 0 + k * 1 + j, none⟩).isSome = true ∧ w.drew.frozen? ⟨g, 0 + k * 1 + j, none⟩ = false) := by
    intro j hj
    have hj' : j < n - (k + 1) := by simpa [hyl] using hj
    rw [Nat.mul_one, Nat.zero_add]
    exact hs.room (j := k + j) (by omega)
  have hlay := (hs.drawn (⟨1, rfl⟩ : Drawn w w.drew)).setCells ys k
  have hdel := lay_del (xs := xs) (k := k) (by omega)
  rw [hl, ← hys] at hdel
  have HLAY := Lib.hid hlay
  have HDEL := Lib.hid hdel
  have HL := Lib.hid hl
  have hwr : IntKind.i64.wrap ((k : Int) + 1) = (k : Int) + 1 := by rw [IntKind.wrap_i64]; omega
  have hp0 : (0 : Int) ≤ (k : Int) + 1 := by omega
  have hp1 : (k : Int) + 1 ≤ (n : Int) := by omega
  have hp2 : ((k : Int) + 1).toNat = k + 1 := by omega
  have hkn : k + (n - (k + 1)) = n - 1 := by omega
  have hne : ¬ (k : Int) = (k : Int) + 1 := by omega
  have hic : k ≤ c := by omega
  clear hcell hlay hdel hs hl hys
  go_enter Try.func203, Try.ntmps203
  go_wp2_with fail
  go_region_law (refine step_append_room rfl (.tmp 22) (.tmp 25) 22 rfl 3 i0 1 Try.underlying22 hi0 hz1 g 0 k c (by simp [Act.eval, Act.put]) A (n - (k + 1)) (c - (k + 1)) (ys.map (Value.int .i64)) (by simp [Act.eval, Act.put]) s1.out hnews.out s2.out (by omega) s3.out ?_)
  generalize w.drew.setCells g k (ys.map (Value.int .i64)) = w5 at *
  have hl1 : n - (n - 1) = 1 := by omega
  have hcn : ¬ c = n - 1 := by omega
  have hb1 : n - 1 ≤ n := by omega
  have hb2 : n - 1 ≤ c := by omega
  have hclr : ∀ ty, (Builtin.clear_ #[22] ty #[.slice (some ⟨g, n - 1, none⟩) 1 (c - (n - 1))]).run Try.prog w5 = .ok (.tuple #[]) (w5.setCells g (n - 1) (List.replicate 1 (.int .i64 0))) := fun ty =>
    Lib.run_clear_slice w5 22 3 ty (.int .i64 0) Try.underlying22 Try.zeroInt rfl rfl g (n - 1) 1 (c - (n - 1)) (by omega)
      (fun j hj => (HLAY.out.1.room (j := n - 1 + j) (by omega)).1) (fun j hj => (HLAY.out.1.room (j := n - 1 + j) (by omega)).2)
  have hfin := (HLAY.out.1.setCells [0] (n - 1))
  have e1 : (List.map (Value.int .i64) [(0 : Int)]) = List.replicate 1 (Value.int .i64 0) := rfl
  rw [e1] at hfin
  have HFIN := Lib.hid hfin
  clear hfin e1
  clear hA s1 s2 s3 hnews hwr hp0 hp1 hp2
  go_wp2
  go_ret
  refine ⟨rfl, ?_, ?_⟩
  · have h := HFIN.out.1.shrink (m := n - 1) (by omega)
    have e2 : layL (layL xs k ys) (n - 1) [0] = (layL xs k ys).set (n - 1) 0 := rfl
    rw [e2, HDEL.out] at h
    exact h
  · have h := HLAY.out.2.trans HFIN.out.2
    exact ⟨h.os, h.tape, h.output, h.size, h.block⟩
end Go.Proofs.Ytfaegfhbbkicgaa
