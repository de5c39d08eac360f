/-
  The small triangles of a puzzle, one after another. Conditions: a puzzle with lists of the right lengths.
-/
import Derived.Test.YtdkcngilmdpbgaaTri
import Derived.StillTailTactics
import Derived.Deep.AppendLies
namespace Go.Proofs.Ytdkcngilmdpbgaa
open Go.RowKit

theorem smallPlace_st {i j : Int} (r k a : Nat) (hi : i = (r : Int)) (hj : j = (k : Int)) (ha : a = tri r + k) (w : World) (hr : r ≤ 8) (hk : k ≤ 100) :
    Calls Try.prog 121 #[.int .i64 i, .int .i64 j] w fun e w' => e = .returned (.int .i64 a) ∧ w' = w :=
  (smallPlace_at r k a hi hj ha w hr hk).mono fun _ _ ⟨he, hw⟩ => ⟨he, hw.symm⟩
set_option maxRecDepth 100000 in
set_option maxHeartbeats 2000000 in
theorem pzTip_any (s : Int) (A1 A2 A3 : Option Addr) (n1 c1 n2 c2 n3 c3 : Nat) (x1 x2 x3 : List Int) (r k : Nat) (w : World) (h1 : SI w A1 n1 x1) (h2 : SI w A2 n2 x2) (h3 : SI w A3 n3 x3) (hr : r ≤ 7) (hk0 : 0 < k) (hk : k ≤ r)
    (hi : tri r + k < n1 ∧ tri r + k < n2 ∧ tri r + k < n3) :
    Calls Try.prog 140 #[.agg #[.int .i64 s, .slice A1 n1 c1, .slice A2 n2 c2, .slice A3 n3 c3], .int .i64 r, .int .i64 k] w fun e w' => e = .returned (.agg #[.int .i64 (tipA x1 x2 x3 r k).1, .int .i64 (tipA x1 x2 x3 r k).2.1, .int .i64 (tipA x1 x2 x3 r k).2.2]) ∧ Below w.heap.size w w' := by
  obtain ⟨w1, hw1⟩ : ∃ w1, w1 = (w.alloc (.cells #[.int .i64 s, .slice A1 n1 c1, .slice A2 n2 c2, .slice A3 n3 c3] 47)).alloc (.cells #[.int .i64 0, .int .i64 0, .int .i64 0] 121) := ⟨_, rfl⟩
  obtain ⟨g, hg⟩ : ∃ g, g = w.heap.size := ⟨_, rfl⟩
  have hbk : Blk w1 g 47 #[.int .i64 s, .slice A1 n1 c1, .slice A2 n2 c2, .slice A3 n3 c3] := by rw [hw1, hg]; exact (Blk.new _ _ _).alloc _
  have hk2 : Blk w1 (g + 1) 121 #[.int .i64 0, .int .i64 0, .int .i64 0] := by
    rw [hw1, hg]
    have := Blk.new (w.alloc (.cells #[.int .i64 s, .slice A1 n1 c1, .slice A2 n2 c2, .slice A3 n3 c3] 47)) 121 #[.int .i64 0, .int .i64 0, .int .i64 0]
    simpa using this
  have hb : Below w.heap.size w w1 := by rw [hw1]; go_grown
  obtain ⟨a, ha⟩ : ∃ a, a = tri r + k := ⟨_, rfl⟩
  obtain ⟨r1, hr1⟩ : ∃ r1, r1 = r - 1 := ⟨_, rfl⟩
  obtain ⟨k1, hk1⟩ : ∃ k1, k1 = k - 1 := ⟨_, rfl⟩
  obtain ⟨t, ht⟩ : ∃ t, t = tri r1 + k1 := ⟨_, rfl⟩
  obtain ⟨a1, ha1⟩ : ∃ a1, a1 = a - 1 := ⟨_, rfl⟩
  have hta : t < a := by
    have h5 := tri_lt (a := r1) (b := r) (k := k1) (by omega) (by omega)
    omega
  obtain ⟨b1, o1, rfl, hb1, hc1⟩ := (h1.below hb (Nat.le_refl _)).at_ (by omega)
  obtain ⟨b2, o2, rfl, hb2, hc2⟩ := (h2.below hb (Nat.le_refl _)).at_ (by omega)
  obtain ⟨b3, o3, rfl, hb3, hc3⟩ := (h3.below hb (Nat.le_refl _)).at_ (by omega)
  have hd1 := hc1 a (by omega)
  have hd2 := hc2 a1 (by omega)
  have hd3 := hc3 t (by omega)
  obtain ⟨q0, q1, q2, q3⟩ := cells4 hbk
  have rr0 : w1.cell? ⟨g + 1, 0, none⟩ = some (.int .i64 0) := hk2.cell 0
  have rr1 : w1.cell? ⟨g + 1, 1, none⟩ = some (.int .i64 0) := hk2.cell 1
  have rr2 : w1.cell? ⟨g + 1, 2, none⟩ = some (.int .i64 0) := hk2.cell 2
  have f0 := hk2.frozen 0
  have f1 := hk2.frozen 1
  have f2 := hk2.frozen 2
  have HV : Hid (tipA x1 x2 x3 r k = (nth x1 a, nth x2 a1, nth x3 t)) := Lib.hid (by unfold tipA; rw [ha1, ht, ha, hr1, hk1])
  rw [HV.out]
  obtain ⟨l, hl⟩ : ∃ l, l = nth x1 a := ⟨_, rfl⟩
  obtain ⟨y, hy⟩ : ∃ y, y = nth x2 a1 := ⟨_, rfl⟩
  obtain ⟨b, hbb⟩ : ∃ b, b = nth x3 t := ⟨_, rfl⟩
  rw [← hl] at hd1
  rw [← hy] at hd2
  rw [← hbb] at hd3
  rw [← hl, ← hy, ← hbb]
  have i1 : (a : Int) < (n1 : Int) := by omega
  have i2 : (a1 : Int) < (n2 : Int) := by omega
  have i3 : (t : Int) < (n3 : Int) := by omega
  have wa : IntKind.i64.wrap ((a : Int) - 1) = (a1 : Int) := by rw [show (a : Int) - 1 = (a1 : Int) by omega]; exact IntWalk.i64_in _ (by have := tri_small (r := r) (by omega); omega)
  have wr1 : IntKind.i64.wrap ((r : Int) - 1) = (r1 : Int) := by rw [show (r : Int) - 1 = (r1 : Int) by omega]; exact IntWalk.i64_in _ (by omega)
  have wk1 : IntKind.i64.wrap ((k : Int) - 1) = (k1 : Int) := by rw [show (k : Int) - 1 = (k1 : Int) by omega]; exact IntWalk.i64_in _ (by omega)
  have HP1 := Lib.hid (fun w => smallPlace_at (i := (r : Int)) (j := (k : Int)) r k a rfl rfl ha w (by omega) (by omega))
  have HP2 := Lib.hid (fun w => smallPlace_st (i := (r1 : Int)) (j := (k1 : Int)) r1 k1 t rfl rfl ht w (by omega) (by omega))
  have HP3 := Lib.hid (fun w => smallPlace_st (i := (r : Int) - 1) (j := (k : Int) - 1) r1 k1 t (by omega) (by omega) ht w (by omega) (by omega))
  have HW := Lib.hid hw1
  have HG := Lib.hid hg
  have HR : Hid (Blk (((w1.setCell ⟨g + 1, 0, none⟩ (.int .i64 l)).setCell ⟨g + 1, 1, none⟩ (.int .i64 y)).setCell ⟨g + 1, 2, none⟩ (.int .i64 b)) (g + 1) 121 #[.int .i64 l, .int .i64 y, .int .i64 b]) := Lib.hid (((hk2.set_ 0 _).set_ 1 _).set_ 2 _)
  have HBF : Hid (Below w.heap.size w (((w1.setCell ⟨g + 1, 0, none⟩ (.int .i64 l)).setCell ⟨g + 1, 1, none⟩ (.int .i64 y)).setCell ⟨g + 1, 2, none⟩ (.int .i64 b))) := Lib.hid (((hb.setCell (show w.heap.size ≤ g + 1 by omega) _).setCell (show w.heap.size ≤ g + 1 by omega) _).setCell (show w.heap.size ≤ g + 1 by omega) _)
  clear hbk hk2 hb hb1 hb2 hb3 hc1 hc2 hc3 hw1 hg hi h1 h2 h3 hl hy hbb ha hr1 hk1 ht ha1 hta
  go_enter Try.func140, Try.ntmps140
  go_upto_region 1 with fail
  rw [← HW.out, ← HG.out]
  go_upto_region 2 with (go_at_call 121; refine (HP1.out _).mono ?_; rintro e w3 ⟨rfl, rfl⟩)
  refine wp_region_still_tail 20 (by kernel_rfl) (by kernel_rfl) ?_
  simp only [List.take_succ_cons, List.take_zero, List.drop_succ_cons, List.drop_zero]
  repeat (first | still_step | still_call (HP2.out _) | still_call (HP3.out _))
  refine wpStill_nil ?_
  change wpList _ _ _ _ _ w1.drew
  go_wp2
  refine bodyPost_ret (results_rowP Try.results140 _ _ (g + 1) 121 #[.int .i64 l, .int .i64 y, .int .i64 b] _ rfl HR.out Try.underlying121 rfl Try.infoTri) rfl ?_
  first | exact ⟨rfl, HBF.out⟩ | exact ⟨rfl, HBF.out.drew⟩
/-- The small triangles of a row up to k, and of all rows up to r. -/
def smK (x1 x2 x3 : List Int) (r : Nat) : Nat → List Tr
  | 0 => []
  | k + 1 => if 0 < k then smK x1 x2 x3 r k ++ [triA x1 x2 x3 r k] ++ [tipA x1 x2 x3 r k] else smK x1 x2 x3 r k ++ [triA x1 x2 x3 r k]
def smR (x1 x2 x3 : List Int) : Nat → List Tr
  | 0 => []
  | r + 1 => smR x1 x2 x3 r ++ smK x1 x2 x3 r (r + 1)
theorem smK_pos {x1 x2 x3 : List Int} {r K : Nat} (h : 0 < K) : smK x1 x2 x3 r (K + 1) = smK x1 x2 x3 r K ++ [triA x1 x2 x3 r K] ++ [tipA x1 x2 x3 r K] := if_pos h
theorem smK_none {x1 x2 x3 : List Int} {r K : Nat} (h : ¬ 0 < K) : smK x1 x2 x3 r (K + 1) = smK x1 x2 x3 r K ++ [triA x1 x2 x3 r K] := if_neg h
theorem smK_mem {x1 x2 x3 : List Int} {r : Nat} (t : Tr) : ∀ K, t ∈ smK x1 x2 x3 r K ↔ ∃ k, k < K ∧ (t = triA x1 x2 x3 r k ∨ 0 < k ∧ t = tipA x1 x2 x3 r k)
  | 0 => by simp [smK]
  | K + 1 => by
    have ih := smK_mem (r := r) (x1 := x1) (x2 := x2) (x3 := x3) t K
    have e : (∃ k, k < K + 1 ∧ (t = triA x1 x2 x3 r k ∨ 0 < k ∧ t = tipA x1 x2 x3 r k)) ↔ (∃ k, k < K ∧ (t = triA x1 x2 x3 r k ∨ 0 < k ∧ t = tipA x1 x2 x3 r k)) ∨ (t = triA x1 x2 x3 r K ∨ 0 < K ∧ t = tipA x1 x2 x3 r K) := by
      constructor
      · rintro ⟨k, hk, h⟩
        by_cases e : k = K
        · subst e; exact .inr h
        · exact .inl ⟨k, by omega, h⟩
      · rintro (⟨k, hk, h⟩ | h)
        · exact ⟨k, by omega, h⟩
        · exact ⟨K, by omega, h⟩
    rw [e, ← ih]
    by_cases h : 0 < K
    · rw [smK_pos h]
      simp only [List.mem_append, List.mem_singleton, h, true_and, or_assoc]
    · rw [smK_none h]
      simp only [List.mem_append, List.mem_singleton, h, false_and, or_false]
theorem smR_mem {x1 x2 x3 : List Int} (t : Tr) : ∀ R, t ∈ smR x1 x2 x3 R ↔ ∃ r, r < R ∧ ∃ k, k ≤ r ∧ (t = triA x1 x2 x3 r k ∨ 0 < k ∧ t = tipA x1 x2 x3 r k)
  | 0 => by simp [smR]
  | R + 1 => by
    have ih := smR_mem (x1 := x1) (x2 := x2) (x3 := x3) t R
    unfold smR
    rw [List.mem_append, ih, smK_mem]
    constructor
    · rintro (⟨r, hr, h⟩ | ⟨k, hk, h⟩)
      · exact ⟨r, by omega, h⟩
      · exact ⟨R, by omega, k, by omega, h⟩
    · rintro ⟨r, hr, k, hk, h⟩
      by_cases e : r = R
      · subst e; exact .inr ⟨k, by omega, h⟩
      · exact .inl ⟨r, by omega, k, hk, h⟩
theorem smK_len (x1 x2 x3 : List Int) (r : Nat) : ∀ K, (smK x1 x2 x3 r K).length ≤ 2 * K
  | 0 => Nat.le_refl _
  | K + 1 => by
    have := smK_len x1 x2 x3 r K
    unfold smK
    split
    · simp; omega
    · simp; omega
theorem smR_len (x1 x2 x3 : List Int) : ∀ R, (smR x1 x2 x3 R).length ≤ 2 * tri R
  | 0 => Nat.le_refl _
  | R + 1 => by
    have h1 := smR_len x1 x2 x3 R
    have h2 := smK_len x1 x2 x3 R (R + 1)
    unfold smR
    rw [List.length_append, tri_succ]
    omega
end Go.Proofs.Ytdkcngilmdpbgaa
