/-
  A small triangle reflected, by the program. Conditions: places within the lists, labels of at least 0.
-/
import Derived.Test.YtdappakjbclffaaPutP
namespace Go.Proofs.Ytdappakjbclffaa
open Go.RowKit

set_option maxRecDepth 100000 in
theorem flipped_any (x : Int) (h0 : 0 ≤ x) (w : World) :
    Calls Try.prog 82 #[.int .i64 x] w fun e w' => e = .returned (.int .i64 (flipI x)) ∧ w' = w := by
  by_cases hx : x = 0
  · subst hx
    go_enter Try.func82, Try.ntmps82
    go_wp2
    go_ret
    exact ⟨rfl, rfl⟩
  · by_cases hy : x = 1
    · subst hy
      go_enter Try.func82, Try.ntmps82
      go_wp2
      go_ret
      exact ⟨rfl, rfl⟩
    · have HF : Hid (flipI x = x) := Lib.hid (by unfold flipI; rw [if_neg (by omega)])
      rw [HF.out]
      have hx' : (x == 0) = false := by simpa using hx
      have hy' : (x == 1) = false := by simpa using hy
      go_enter Try.func82, Try.ntmps82
      go_wp2
      go_ret
      exact ⟨rfl, rfl⟩
set_option maxRecDepth 100000 in
set_option maxHeartbeats 2000000 in
theorem mirFn_any (row k : Nat) (a b c : Int) (w : World) (hr : row < 7) (hk : k ≤ row) (ha : 0 ≤ a) (hb0 : 0 ≤ b) (hc : 0 ≤ c) :
    Calls Try.prog 81 #[.int .i64 row, .int .i64 k, .agg #[.int .i64 a, .int .i64 b, .int .i64 c]] w fun e w' => e = .returned (.tuple #[.int .i64 (toM row k), .agg #[.int .i64 (flipI b), .int .i64 (flipI a), .int .i64 (flipI c)]]) ∧ Below w.heap.size w w' := by
  obtain ⟨w1, hw1⟩ : ∃ w1, w1 = (w.alloc (.cells #[.int .i64 a, .int .i64 b, .int .i64 c] 78)).alloc (.cells #[.int .i64 0, .int .i64 0, .int .i64 0] 78) := ⟨_, rfl⟩
  obtain ⟨g, hg⟩ : ∃ g, g = w.heap.size := ⟨_, rfl⟩
  have hk1 : Blk w1 g 78 #[.int .i64 a, .int .i64 b, .int .i64 c] := by rw [hw1, hg]; exact (Blk.new _ _ _).alloc _
  have hk2 : Blk w1 (g + 1) 78 #[.int .i64 0, .int .i64 0, .int .i64 0] := by
    rw [hw1, hg]
    have := Blk.new (w.alloc (.cells #[.int .i64 a, .int .i64 b, .int .i64 c] 78)) 78 #[.int .i64 0, .int .i64 0, .int .i64 0]
    simpa using this
  have hb : Below w.heap.size w w1 := by rw [hw1]; go_grown
  have HB1 := Lib.hid hb
  have HW := Lib.hid hw1
  have HG := Lib.hid hg
  have HK1 := Lib.hid hk1
  have HK2 := Lib.hid hk2
  have HSZ : Hid (w1.heap.size = g + 2) := Lib.hid (by rw [hw1, hg]; simp)
  have HQ : Hid (w1.cell? ⟨g, 0, none⟩ = some (.int .i64 a) ∧ w1.cell? ⟨g, 1, none⟩ = some (.int .i64 b) ∧ w1.cell? ⟨g, 2, none⟩ = some (.int .i64 c)) := Lib.hid ⟨hk1.cell 0, hk1.cell 1, hk1.cell 2⟩
  have HFA := Lib.hid (fun w => flipped_any a ha w)
  have HFB := Lib.hid (fun w => flipped_any b hb0 w)
  have HFC := Lib.hid (fun w => flipped_any c hc w)
  have hri : (row : Int) - (k : Int) = ((row - k : Nat) : Int) := by omega
  have u1 : IntKind.i64.wrap ((row : Int) - (k : Int)) = (row : Int) - (k : Int) := IntWalk.i64_in _ (by omega)
  have HPL := Lib.hid (fun w => smallPlace_st (i := (row : Int)) (j := (row : Int) - (k : Int)) row (row - k) (toM row k) rfl (by omega) rfl w (by omega) (by omega))
  obtain ⟨A, hA⟩ : ∃ A, A = toM row k := ⟨_, rfl⟩
  rw [← hA] at HPL ⊢
  obtain ⟨a', ha'⟩ : ∃ a', a' = flipI a := ⟨_, rfl⟩
  obtain ⟨b', hb'⟩ : ∃ b', b' = flipI b := ⟨_, rfl⟩
  obtain ⟨c', hc'⟩ : ∃ c', c' = flipI c := ⟨_, rfl⟩
  rw [← ha'] at HFA ⊢
  rw [← hb'] at HFB ⊢
  rw [← hc'] at HFC ⊢
  clear hw1 hg hk1 hk2 hb hA ha' hb' hc' hri ha hb0 hc
  go_enter Try.func81, Try.ntmps81
  go_upto_region 1 with fail
  rw [← HW.out, ← HG.out]
  go_region_held3 (fun w' => w'.cell? ⟨g, 0, none⟩ = some (.int .i64 a) ∧ w'.cell? ⟨g, 1, none⟩ = some (.int .i64 b) ∧ w'.cell? ⟨g, 2, none⟩ = some (.int .i64 c))
    (first | exact HQ.out | exact ⟨(HK1.out.alloc _).cell 0, (HK1.out.alloc _).cell 1, (HK1.out.alloc _).cell 2⟩)
    (first
      | (go_at_call 82; with_reducible refine (HFA.out _).mono ?_; rintro e w3 ⟨rfl, rfl⟩)
      | (go_at_call 82; with_reducible refine (HFB.out _).mono ?_; rintro e w3 ⟨rfl, rfl⟩)
      | (go_at_call 82; with_reducible refine (HFC.out _).mono ?_; rintro e w3 ⟨rfl, rfl⟩))
  all_goals
    obtain ⟨wa, hwa⟩ : ∃ wa, wa = (w1.alloc (.cells #[.int .i64 b', .int .i64 a', .int .i64 c'] 78)).drew := ⟨_, rfl⟩
    obtain ⟨ga, hga⟩ : ∃ ga, ga = w1.heap.size := ⟨_, rfl⟩
    rw [← hwa, ← hga]
    have hn : Blk wa ga 78 #[.int .i64 b', .int .i64 a', .int .i64 c'] := by rw [hwa, hga]; exact (Blk.new _ _ _).drawn ⟨1, rfl⟩
    have ho : Blk wa (g + 1) 78 #[.int .i64 0, .int .i64 0, .int .i64 0] := by rw [hwa]; exact (HK2.out.alloc _).drawn ⟨1, rfl⟩
    have n0 : wa.cell? ⟨ga, 0, none⟩ = some (.int .i64 b') := hn.cell 0
    have n1 : wa.cell? ⟨ga, 1, none⟩ = some (.int .i64 a') := hn.cell 1
    have n2 : wa.cell? ⟨ga, 2, none⟩ = some (.int .i64 c') := hn.cell 2
    have rr0 : wa.cell? ⟨g + 1, 0, none⟩ = some (.int .i64 0) := ho.cell 0
    have rr1 : wa.cell? ⟨g + 1, 1, none⟩ = some (.int .i64 0) := ho.cell 1
    have rr2 : wa.cell? ⟨g + 1, 2, none⟩ = some (.int .i64 0) := ho.cell 2
    have f0 := ho.frozen 0
    have f1 := ho.frozen 1
    have f2 := ho.frozen 2
    have HR : Hid (Blk (((wa.setCell ⟨g + 1, 0, none⟩ (.int .i64 b')).setCell ⟨g + 1, 1, none⟩ (.int .i64 a')).setCell ⟨g + 1, 2, none⟩ (.int .i64 c')) (g + 1) 78 #[.int .i64 b', .int .i64 a', .int .i64 c']) := Lib.hid (((ho.set_ 0 _).set_ 1 _).set_ 2 _)
    have hba : Below w.heap.size w wa := by rw [hwa]; exact (HB1.out.alloc (by have := HG.out; have := HSZ.out; omega) _).drew
    have HBF : Hid (Below w.heap.size w (((wa.setCell ⟨g + 1, 0, none⟩ (.int .i64 b')).setCell ⟨g + 1, 1, none⟩ (.int .i64 a')).setCell ⟨g + 1, 2, none⟩ (.int .i64 c'))) := Lib.hid (((hba.setCell (show w.heap.size ≤ g + 1 by have := HG.out; omega) _).setCell (show w.heap.size ≤ g + 1 by have := HG.out; omega) _).setCell (show w.heap.size ≤ g + 1 by have := HG.out; omega) _)
    clear hwa hga hn ho hba
    go_upto_region 2 with fail
    refine wp_region_still_tail 7 (by kernel_rfl) (by kernel_rfl) ?_
    simp only [List.take_succ_cons, List.take_zero, List.drop_succ_cons, List.drop_zero]
    repeat (first | still_step | still_call (HPL.out _))
    refine wpStill_nil ?_
    change wpList _ _ _ _ _ wa.drew
    go_wp2
    refine bodyPost_ret (results_tmp_rowP Try.results81 _ _ (g + 1) 78 #[.int .i64 b', .int .i64 a', .int .i64 c'] _ rfl HR.out Try.underlying78 rfl Try.infoTri) rfl ?_
    first | exact ⟨rfl, HBF.out⟩ | exact ⟨rfl, HBF.out.drew⟩
end Go.Proofs.Ytdappakjbclffaa
