/-
  A term cloned, by the program. Conditions: lengths below 2^40.
-/
import Derived.Test.YtkfpacjncpifgaaConstMono
import Derived.Test.YtkfpacjncpifgaaImplA
import Derived.Deep.RegionHeld3
namespace Go.Proofs.Ytkfpacjncpifgaa
open Go.RowKit

set_option maxRecDepth 100000 in
set_option maxHeartbeats 800000 in
theorem termClone_any (A : Option Addr) (n c : Nat) (xs : List Int) (x : Int) (w : World) (hs : SI w A n xs) (hA : A = none → n = 0 ∧ c = 0) (hn : n ≤ 1099511627776) :
    Calls Try.prog 66 #[.agg #[.slice A n c, .int .i64 x]] w fun e w' => ∃ A' c', e = .returned (.agg #[.slice A' n c', .int .i64 x]) ∧ Own w' w.heap.size w'.heap.size A' n c' xs ∧ Below w.heap.size w w' := by
  have hlx := hs.1
  go_enter Try.func66, Try.ntmps66
  go_wp2_with fail
  obtain ⟨g1, hg1⟩ : ∃ g1, g1 = w.heap.size := ⟨_, rfl⟩
  have hK1 : Blk ((w.alloc (.cells #[.slice A n c, .int .i64 x] 68)).alloc (.cells #[.slice none 0 0, .int .i64 0] 68)) g1 68 #[.slice A n c, .int .i64 x] := by rw [hg1]; exact (Blk.new w _ _).alloc _
  have hK2 : Blk ((w.alloc (.cells #[.slice A n c, .int .i64 x] 68)).alloc (.cells #[.slice none 0 0, .int .i64 0] 68)) (w.heap.size + 1) 68 #[.slice none 0 0, .int .i64 0] := by
    have := Blk.new (w.alloc (.cells #[.slice A n c, .int .i64 x] 68)) 68 #[.slice none 0 0, .int .i64 0]
    simpa using this
  have hb3 : Below w.heap.size w ((w.alloc (.cells #[.slice A n c, .int .i64 x] 68)).alloc (.cells #[.slice none 0 0, .int .i64 0] 68)) := by go_grown
  have hs3 := hs.below hb3 (Nat.le_refl _)
  generalize ((w.alloc (.cells #[.slice A n c, .int .i64 x] 68)).alloc (.cells #[.slice none 0 0, .int .i64 0] 68)) = w3 at *
  rw [← hg1] at hK2 ⊢
  obtain ⟨g2, hg2⟩ : ∃ g2, g2 = g1 + 1 := ⟨_, rfl⟩
  rw [← hg2] at hK2 ⊢
  have q0 : w3.cell? ⟨g1, 0, none⟩ = some (.slice A n c) := hK1.cell 0
  have q1 : w3.cell? ⟨g1, 1, none⟩ = some (.int .i64 x) := hK1.cell 1
  have hsd : SI w3.drew A n xs := hs3.below ((Below.refl w3.heap.size w3).drew) (Nat.le_refl _)
  have HSD := Lib.hid hsd
  have HK1 := Lib.hid hK1
  have HK2 := Lib.hid hK2
  have HB3 := Lib.hid hb3
  have hl3 := hK2.lt
  have n1 : ¬ g1 = g2 := by omega
  have n2 : ¬ g2 = g1 := by omega
  have HG := Lib.hid (And.intro hg1 hg2)
  have hl1 : g1 < w3.heap.size := by omega
  clear hg1 hg2 hs3 hsd hK1 hK2 hb3 hs
  go_region_held3 (fun w' => w'.cell? ⟨g1, 0, none⟩ = some (.slice A n c) ∧ w'.cell? ⟨g1, 1, none⟩ = some (.int .i64 x))
    (first | go_keep | exact K4)
    ((refine (clone_any A n c xs w3.drew HSD.out hA hn).mono ?_
      rintro r w4 ⟨A4, n4, c4, rfl, ho4, hb4⟩
      obtain rfl : n = n4 := by have := ho4.len; omega
      have k1 := HK1.out.below ((Below.refl w3.heap.size w3).drew.trans hb4) (by omega)
      have k2 := HK2.out.below ((Below.refl w3.heap.size w3).drew.trans hb4) (by omega)
      have K4 : w4.cell? ⟨g1, 0, none⟩ = some (.slice A n c) ∧ w4.cell? ⟨g1, 1, none⟩ = some (.int .i64 x) := ⟨k1.cell 0, k1.cell 1⟩
      have hc5 : w4.cell? ⟨g2, 0, none⟩ = some (.slice none 0 0) := k2.cell 0
      have hf5 := k2.frozen 0
      have hc6 : w4.cell? ⟨g2, 1, none⟩ = some (.int .i64 0) := k2.cell 1
      have hf6 := k2.frozen 1
      have H2 := Lib.hid k2
      have HO4 := Lib.hid ho4
      have HB4 := Lib.hid (HB3.out.trans (((Below.refl w3.heap.size w3).drew.trans hb4).mono HB3.out.size))
      clear k1 k2 ho4 hb4))
  obtain ⟨hg1, hg2⟩ := HG.out
  go_wp2
  have R := (H2.out.set_ 0 (.slice A4 n c4)).set_ 1 (.int .i64 x)
  refine bodyPost_ret (results_row Try.results66 _ _ g2 68 #[.slice A4 n c4, .int .i64 x] _ rfl R Try.underlying68 rfl (by kernel_rfl)) rfl ?_
  refine ⟨A4, c4, rfl, ?_, ?_⟩
  · refine ((HO4.out.kept (grown_set _ _ _) ?_).kept (grown_set _ _ _) ?_).wide (by show w.heap.size ≤ w3.heap.size; omega) (by simp) <;>
      (intro b hb e; have := HO4.out.lt b hb; injection e with e; have e3 : w3.heap.size ≤ b := this.1; simp only [] at e; omega)
  · exact (HB4.out.setCell (by show w.heap.size ≤ g2; omega) _).setCell (by show w.heap.size ≤ g2; omega) _
end Go.Proofs.Ytkfpacjncpifgaa
