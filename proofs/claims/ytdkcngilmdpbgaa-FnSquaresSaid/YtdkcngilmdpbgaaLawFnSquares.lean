/-
  FnSquares: for every input the law returns true: the squares of the numbers of standard tableaux of one size add up to the factorial of it. No conditions.
-/
import Derived.Test.YtdkcngilmdpbgaaSqF
import Derived.Test.YtdkcngilmdpbgaaInts
import Derived.Test.YtdkcngilmdpbgaaLSum
import Derived.Test.YtdkcngilmdpbgaaDrawTwo
import Derived.Test.YtdkcngilmdpbgaaFrameB
namespace Go.Proofs.Ytdkcngilmdpbgaa
open Go.ChangeShapes Go.WideShapes Go.ChangeAt Go.RowKit

set_option maxRecDepth 100000 in
set_option maxHeartbeats 8000000 in
theorem walk_FnSquares (A : Option Addr) (n c : Nat) (bs : List Int) (w : World) (hs : SB w w.heap.size A n bs) :
    Calls Try.prog 12 #[.slice A n c] w fun e w' => e = .returned (.bool true) ∧ Below w.heap.size w w' := by
  by_cases hbig : 1048576 < n
  · have hbI : decide (1048576 < (n : Int)) = true := by simp; omega
    go_enter Try.func12, Try.ntmps12
    go_wp2_with fail
    refine (big_any A n c w).mono ?_
    rintro e w1 ⟨rfl, rfl⟩
    rw [hbI]
    go_wp2
    go_ret
    exact ⟨rfl, Below.refl _ _⟩
  have hbI : decide (1048576 < (n : Int)) = false := by simp; omega
  have HbI := Lib.hid hbI
  clear hbI
  have HS0 := Lib.hid hs
  clear hs
  go_enter Try.func12, Try.ntmps12
  go_wp2_with fail
  refine (big_any A n c w).mono ?_
  rintro e w0 ⟨rfl, rfl⟩
  rw [HbI.out]
  go_wp2_with fail
  refine (atFirst_any A n c w.heap.size bs w HS0.out (by omega)).mono ?_
  rintro e w1 ⟨⟨x, rfl, hx0, hx1⟩, rfl⟩
  obtain ⟨q, hq⟩ : ∃ q : Nat, x.tmod 7 = (q : Int) := ⟨(x.tmod 7).toNat, by have := Int.tmod_nonneg 7 hx0; omega⟩
  have hq6 : q ≤ 6 := by have := Int.tmod_lt_of_pos x (show (0 : Int) < 7 by omega); omega
  have HB1 : Hid (Below w1.heap.size w1 w1) := Lib.hid (Below.refl _ _)
  clear hx0 hx1
  go_wp2_with fail
  refine (implShapesIn_any 6 6 _).mono ?_
  rintro e w2 ⟨Al, nl, cl, rfl, ho, hb⟩
  rw [show shpIn 6 6 = shapesU 6 6 from shpIn_yes (r := 6) (d := 6) (by decide)] at ho
  have HB2 := Lib.hid hb
  have HL2 := Lib.hid ho
  have HFE := Lib.hid (fun (l : List Int) (hl : l ∈ shapesU 6 6) => sq_each hq6 hl)
  have HFT := Lib.hid (sq_total hq6)
  have HFB := Lib.hid (fun i => sqS_bound hq6 ((shapesU 6 6).take i) (fun l hl => List.mem_of_mem_take hl))
  have hnl : nl ≤ 3432 := by have := ho.len; have := shapesU_few (r := 6) (d := 6) (by omega) (by omega); omega
  have HNL := Lib.hid ho.len
  generalize shapesU 6 6 = L at HL2 HFE HFT HFB HNL
  have HQ := Lib.hid hq
  clear ho hb
  go_wp2_with fail
  go_loopw [5, 7] (fun tv iv wr => ∃ i : Nat, i ≤ nl ∧ iv = .int .i64 i ∧ tv = .int .i64 (sqS (q : Int) (L.take i)) ∧ OwnL wr w1.heap.size w2.heap.size Al nl cl L ∧ Below w1.heap.size w1 wr ∧ w2.heap.size ≤ wr.heap.size)
    (fun _ iv _ => nl - (intOf iv).toNat)
  case atStart => exact ⟨0, Nat.zero_le _, rfl, by simp [sqS], HL2.out, HB2.out, Nat.le_refl _⟩
  case round =>
    obtain ⟨i, hi, rfl, rfl, hl, hb, hz⟩ := hrel
    clear HL2 HB2
    have HL := Lib.hid hl
    have HB := Lib.hid hb
    have HZ := Lib.hid hz
    clear hl hb hz
    by_cases hlt : i < nl
    · have hlI : (i : Int) < (nl : Int) := by omega
      obtain ⟨b, o, A', n', c', rfl, hbb, hcell, hsi, hnc, hnil⟩ := HL.out.si.at_ hlt
      have hiL : i < L.length := by rw [HNL.out]; exact hlt
      have hF := HFE.out (li L i) (by rw [li_get hiL]; exact List.getElem_mem _)
      have hS1 := sqS_succ (q := (q : Int)) hiL
      have hTB := HFB.out i
      have hTB2 := HFB.out (i + 1)
      have htk : (L.take i).length ≤ i := by rw [List.length_take]; omega
      have htk2 : (L.take (i + 1)).length ≤ i + 1 := by rw [List.length_take]; omega
      obtain ⟨T, hT⟩ : ∃ T, T = sqS (q : Int) (L.take i) := ⟨_, rfl⟩
      rw [← hT] at hS1 hTB ⊢
      rw [hS1] at hTB2
      have hn' : n' ≤ 16 := by have := hsi.1; have := hF.len; omega
      have hlen := hsi.1
      have HSI := Lib.hid hsi
      have HBB := Lib.hid hbb
      have HF := Lib.hid hF
      have HS1 := Lib.hid hS1
      have HTT := Lib.hid (And.intro hTB (And.intro hTB2 (And.intro htk htk2)))
      obtain ⟨l, hl⟩ : ∃ l, l = li L i := ⟨_, rfl⟩
      rw [← hl] at HSI HF HS1 HTT hlen
      clear hl hsi hbb hF hS1 hTB hTB2 htk htk2 hT hnc hnil hiL
      go_wp2_with fail
      refine (lsumB_any A' n' c' l wr HSI.out (by omega) (fun k hk => by have := HF.out.sums k (by omega); omega)).mono ?_
      rintro e w3 ⟨rfl, hd3⟩
      obtain ⟨s, hs⟩ : ∃ s, s = sumN l n' := ⟨_, rfl⟩
      rw [← hs]
      have HS := Lib.hid hs
      have HD3 := Lib.hid hd3
      have hc3 : w3.cell? ⟨b, o + i, none⟩ = some (.slice A' n' c') := (Below.cell (hd3.below wr.heap.size) (p := ⟨b, o + i, none⟩) HBB.out).trans hcell
      clear hd3 hcell hs
      by_cases hsq : s = (q : Int)
      · have hsqb : (s == (q : Int)) = true := by simpa using hsq
        have hlow := HF.out.low (by rw [hlen, ← HS.out]; exact hsq)
        obtain ⟨y, hy⟩ : ∃ y, y = stdCount l := ⟨_, rfl⟩
        have hone : sqOne (q : Int) l = y * y := by unfold sqOne; rw [if_pos (by rw [hlen, ← HS.out]; exact hsq), hy]
        rw [← hy] at hlow
        obtain ⟨hy1, hy2, hy3, hy4⟩ := hlow
        have h1 := HS1.out
        have hTT := HTT.out
        rw [hone] at h1 hTT
        obtain ⟨z, hz⟩ : ∃ z, z = y * y := ⟨_, rfl⟩
        rw [← hz] at h1 hTT
        obtain ⟨⟨t1, t2⟩, ⟨t3, t4⟩, t5, t6⟩ := hTT
        have hwz : IntKind.i64.wrap (y * y) = z := by
          rw [← hz]
          have h5 := Int.mul_nonneg (show 0 ≤ y by omega) (show 0 ≤ y by omega)
          have h6 := Int.mul_le_mul hy2 hy2 (by omega) (by omega)
          exact IntWalk.i64_in _ (by rw [hz]; omega)
        have hwt : IntKind.i64.wrap (T + z) = T + z := IntWalk.i64_in _ (by omega)
        have hyl : ¬ y < 1 := by omega
        have HS2 := Lib.hid h1
        have HY := Lib.hid hy
        have HC := Lib.hid hy3
        clear h1 hz hy hy3 t1 t2 t3 t4 t5 t6 hone hsq
        go_wp2_with fail
        refine (implStd_any A' n' c' l w3 (HD3.out.si HSI.out) (by omega)).mono ?_
        rintro e w4 ⟨rfl, hb4⟩
        rw [← HY.out]
        have HB4 : Hid (Below wr.heap.size wr w4) := Lib.hid ((HD3.out.below _).trans (hb4.mono (HD3.out.below wr.heap.size).size))
        have hc4 : w4.cell? ⟨b, o + i, none⟩ = some (.slice A' n' c') := (Below.cell hb4 (p := ⟨b, o + i, none⟩) (Nat.lt_of_lt_of_le HBB.out (HD3.out.below wr.heap.size).size)).trans hc3
        clear hb4
        go_wp2_with fail
        refine (implConj_any A' n' c' l w4 (HSI.out.below HB4.out (Nat.le_refl _)) (by omega)).mono ?_
        rintro e w5 ⟨A5, n5, c5, rfl, ho5, hb5⟩
        have HO5 := Lib.hid ho5
        have HB5 : Hid (Below wr.heap.size wr w5) := Lib.hid (HB4.out.trans (hb5.mono HB4.out.size))
        have hn5 : n5 ≤ 16 := by have := ho5.len; omega
        clear ho5 hb5
        go_wp2_with fail
        refine (implStd_any A5 n5 c5 (conjShape l) w5 HO5.out.si (by omega)).mono ?_
        rintro e w6 ⟨rfl, hb6⟩
        rw [HC.out]
        have HB6 : Hid (Below wr.heap.size wr w6) := Lib.hid (HB5.out.trans (hb6.mono HB5.out.size))
        clear hb6 hc3 hc4
        go_wp2
        go_roundw
        case rel => exact ⟨i + 1, by omega, by go_num, by rw [HS2.out], HL.out.below HB6.out HZ.out, HB.out.trans (HB6.out.mono HB.out.size), Nat.le_trans HZ.out HB6.out.size⟩
        case measure => simp [intOf]; omega
      · have hsqb : (s == (q : Int)) = false := by simpa using hsq
        have hone : sqOne (q : Int) l = 0 := by unfold sqOne; rw [if_neg (by rw [hlen, ← HS.out]; exact hsq)]
        have HS2 : Hid (sqS (q : Int) (L.take (i + 1)) = T) := Lib.hid (by rw [HS1.out, hone]; omega)
        have HB3 : Hid (Below wr.heap.size wr w3) := Lib.hid (HD3.out.below _)
        clear hone hsq hc3
        go_wp2
        go_roundw
        case rel => exact ⟨i + 1, by omega, by go_num, by rw [HS2.out], HL.out.below HB3.out HZ.out, HB.out.trans (HB3.out.mono HB.out.size), Nat.le_trans HZ.out HB3.out.size⟩
        case measure => simp [intOf]; omega
    · obtain rfl : i = nl := by omega
      have hfin : sqS (q : Int) (L.take i) = (factN q : Int) := by rw [List.take_of_length_le (by have := HNL.out; omega)]; exact HFT.out
      rw [hfin]
      have HBW := Lib.hid HB.out
      clear hfin HFE HFT HFB HL
      go_wp2_with fail
      go_loopw [6, 9] (fun fv jv wx => ∃ j x : Nat, 1 ≤ j ∧ (j ≤ q ∨ j = 1) ∧ x = j + 1 ∧ jv = .int .i64 x ∧ fv = .int .i64 (factN j) ∧ Below w1.heap.size w1 wx)
        (fun _ jv _ => q + 1 - (intOf jv).toNat)
      case atStart => exact ⟨1, 2, Nat.le_refl _, .inr rfl, rfl, rfl, rfl, HBW.out⟩
      case round =>
        obtain ⟨j, x, hj1, hjq, hx, rfl, rfl, hb⟩ := hrel
        clear HBW
        have HBX := Lib.hid hb
        clear hb
        by_cases hjl : x ≤ q
        · have hxI : (x : Int) ≤ (q : Int) := by omega
          have hf : factN x = x * factN j := by rw [hx]; rfl
          have hfb : factN x ≤ 5040 := Nat.le_trans (factN_mono (show x ≤ 7 by omega)) (by decide)
          obtain ⟨f, hfj⟩ : ∃ f, f = factN j := ⟨_, rfl⟩
          obtain ⟨g, hgj⟩ : ∃ g, g = factN x := ⟨_, rfl⟩
          rw [← hfj, ← hgj] at hf
          rw [← hgj] at hfb
          rw [← hfj]
          have hwf : IntKind.i64.wrap ((f : Int) * (x : Int)) = (g : Int) := by
            rw [show (f : Int) * (x : Int) = (g : Int) by rw [hf, Int.natCast_mul, Int.mul_comm]]
            exact IntWalk.i64_in _ (by omega)
          have HGJ := Lib.hid hgj
          have HX := Lib.hid hx
          clear hf hfj hgj hx
          go_wp2
          go_roundw
          case rel => exact ⟨j + 1, x + 1, by omega, .inl (by have := HX.out; omega), by have := HX.out; omega, by go_num, by rw [HGJ.out, HX.out], HBX.out⟩
          case measure => simp [intOf]; omega
        · have hxI : ¬ (x : Int) ≤ (q : Int) := by omega
          have hfq : factN q = factN j := by
            rcases hjq with h | h
            · rw [show q = j by omega]
            · subst h
              have : q = 0 ∨ q = 1 := by omega
              rcases this with e | e <;> subst e <;> rfl
          rw [hfq]
          generalize factN j = f
          clear hfq hx
          go_wp2
          go_ret
          exact ⟨ret_bool (by simp), HBX.out⟩

set_option maxRecDepth 100000 in
theorem lifted_FnSquares (os : Os) (started : os.Started) (H : Type) (enc : TypeId × Value → H) :
    ReturnsInHanded {} Try.checked os 12 .any (Rows.fnSquaresSpec.pre6 enc Try.prog Try.f12 Rows.fnSquaresRow.domain false) (Rows.fnSquaresSpec.post enc Try.prog Try.f12 false true false false) := by
  refine returnsInHanded_of_change (C := Try.checked) own started (by kernel_rfl) Try.func12
    (ChangeSpec.witness6 (enc := enc) (C := Try.checked) false ⟨#[], #[.slice none 0 0], []⟩ 8 (by kernel_rfl) (by kernel_rfl) (by kernel_rfl) (by kernel_rfl)) ?_
  intro W base args ds gs before hval0 hW hcnd _
  have hval : ∀ (j : Nat) t v, Try.f12.params[j]? = some t → args[j]? = some v → Value.okWide Try.prog W .any base t v := hval0
  have hW' := hW
  obtain ⟨p, q, hA0, hV, rfl, hfz, hnd⟩ := hW
  have hA : DataW.TrodAll enc Try.prog W 0 (fun _ => true) true Try.f12.params.toList args.toList ds p := hA0
  rw [Try.params12] at hA hval
  obtain ⟨v0, vs0, d0, ds0, p0, q0, hargs, rfl, rfl, h0, r0⟩ := trodAll_cons hA
  obtain ⟨rfl, rfl, rfl⟩ := trodAll_nil r0
  obtain rfl : args = #[v0] := by cases args; simp_all
  obtain ⟨rfl, rfl⟩ := trodVars_none hV
  obtain ⟨b0, len0, cap0, rfl⟩ := okWide_slice Try.underlying56 (hval 0 56 v0 rfl rfl)
  have k0 := h0
  have lt0 : ∀ x ∈ p0, x.block < W.heap.size := by obtain ⟨m, hm⟩ := k0; exact DataW.trod_lt m _ _ _ hm
  obtain ⟨bs, s0⟩ := SB.of_trod h0
  clear hA0 hval0
  refine (walk_FnSquares b0 len0 cap0 bs W s0).mono fun e W' ⟨he, bel⟩ => ?_
  subst he
  exact ⟨_, rfl, _, _, _, [], _, [], hW', trodAll_mk1 (shut_bool Try.underlying4 _), (trodAll_cons_mk (Below.trod laidOut (by kernel_rfl) (of_decide_eq_true (by kernel_rfl)) k0 bel lt0) trodAll_mk0), rfl, bel.frame _, fun h => by cases h⟩

theorem fnSquares_holds : Rows.FnSquaresSaid :=
  OpenClaim.holds_of_wide 12 Try.f12 rfl rfl rfl rfl rfl rfl rfl ⟨rfl, rfl, rfl, rfl, rfl⟩ rfl rfl rfl rfl rfl (by kernel_rfl) Try.func12 (by kernel_rfl)
    (of_decide_eq_true (by kernel_rfl)) (by unfold Func.isWrapper; first | (rw [if_pos (by decide +kernel)]; kernel_rfl) | (rw [if_neg (by decide +kernel)]; exact ⟨rfl, rfl⟩))
    (fun os started H enc _ => lifted_FnSquares os started H enc)

end Go.Proofs.Ytdkcngilmdpbgaa
