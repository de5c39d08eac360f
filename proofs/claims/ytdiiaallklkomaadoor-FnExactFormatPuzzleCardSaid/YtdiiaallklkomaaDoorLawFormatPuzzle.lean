/-
  FnExactFormatPuzzle: for every input the law returns true: the program's FormatPuzzle answers as the specification's, changes no argument, and its answer owns its memory. Listed: the library's table of powers of ten (and two tables of package math/bits), tied to the program's text. No conditions of ours.
-/
import Derived.Test.YtdiiaallklkomaaDoorPkA2
import Derived.Test.YtdiiaallklkomaaDoorTie
import Derived.Test.YtdiiaallklkomaaDoorCards
import Derived.SevenTiedAt
namespace Go.Proofs.YtdiiaallklkomaaDoor
open Go.ChangeShapes Go.WideShapes Go.ChangeAt Go.RowKit

set_option maxRecDepth 100000 in
set_option maxHeartbeats 4000000 in
theorem walk_FormatPuzzle (s : Int) (A1 A2 A3 : Option Addr) (n1 c1 n2 c2 n3 c3 : Nat) (y1 y2 y3 : List Int) (wA : World) (hp0 : PS wA A1 A2 A3 n1 n2 n3 y1 y2 y3) (hn : n1 ≤ 9223372036854775807 ∧ n2 ≤ 9223372036854775807 ∧ n3 ≤ 9223372036854775807) (hff : FitI y1 ∧ FitI y2 ∧ FitI y3) (htab : Lib.TabIs Tryd.prog wA "internal/strconv.uint64pow10" .u64 Lib.pow10Tab) :
    Calls Tryd.prog 8 #[.agg #[.int .i64 s, .slice A1 n1 c1, .slice A2 n2 c2, .slice A3 n3 c3]] wA fun e w' => e = .returned (.bool true) ∧ Below wA.heap.size wA w' := by
  have HTAB := Lib.hid htab
  have HFF := Lib.hid hff
  clear htab hff
  have HNN := Lib.hid hn
  have YL := Lib.hid hp0.lens
  clear hn
  obtain ⟨w, hw0⟩ : ∃ w, w = wA.alloc (.cells #[.int .i64 s, .slice A1 n1 c1, .slice A2 n2 c2, .slice A3 n3 c3] 51) := ⟨_, rfl⟩
  obtain ⟨gA, hgA⟩ : ∃ g, g = wA.heap.size := ⟨_, rfl⟩
  have hbA : Below wA.heap.size wA w := by rw [hw0]; exact Below.alloc_self _ _
  have HBA := Lib.hid hbA
  have hp := hp0.below hbA (Nat.le_refl _)
  have KA_0 : Hid (Blk w gA 51 #[.int .i64 s, .slice A1 n1 c1, .slice A2 n2 c2, .slice A3 n3 c3]) := Lib.hid (by rw [hw0, hgA]; exact Blk.new _ _ _)
  have HB0 := Lib.hid (Below.refl w.heap.size w)
  have HW0 := Lib.hid hw0
  have HGA := Lib.hid hgA
  have HFIN : Hid (wA.heap.size ≤ w.heap.size) := Lib.hid hbA.size
  clear hw0 hgA hbA hp0
  go_enter Tryd.func8, Tryd.ntmps8
  go_upto_region 1 with fail
  rw [← HW0.out, ← HGA.out]
  obtain ⟨cA0, cA1, cA2, cA3⟩ := cells4 KA_0.out
  go_wp2_with fail
  refine (szPuzzle_any s _ _ _ _ _ _ _ _ _ _ HNN.out.1 HNN.out.2.1 HNN.out.2.2).mono ?_
  rintro e w1 ⟨⟨r0, rfl, hr⟩, hb⟩
  clear cA0 cA1 cA2 cA3
  have KA_1 := Lib.hid (KA_0.out.below hb KA_0.out.lt)
  have hsz := hb.size
  have HB1 := Lib.hid (HB0.out.trans (hb.mono HB0.out.size))
  clear HB0 hb hsz
  clear KA_0
  rcases hr with hr | ⟨hr0, hsm⟩
  · go_wp2
    go_ret
    exact ⟨rfl, HBA.out.trans (HB1.out.mono HFIN.out)⟩
  have hr0n : ¬ r0 < 0 := by omega
  have SM := Lib.hid hsm
  have YB : Hid (y1.length ≤ 1099511627776 ∧ y2.length ≤ 1099511627776 ∧ y3.length ≤ 1099511627776) := Lib.hid (by have := YL.out; omega)
  have YC : Hid (y1.length ≤ 1048576 ∧ y2.length ≤ 1048576 ∧ y3.length ≤ 1048576) := Lib.hid (by have := YL.out; omega)
  clear hr0 hsm
  obtain ⟨cA0, cA1, cA2, cA3⟩ := cells4 KA_1.out
  go_wp2_with fail
  refine (toPuzzle_ps s _ _ _ _ _ _ _ _ _ y1 y2 y3 _ (hp.below HB1.out (Nat.le_refl _)) (by have := SM.out; omega)).mono ?_
  rintro e w2 ⟨PpW1, PpW2, PpW3, ppW1, rpW1, ppW2, rpW2, ppW3, rpW3, rfl, ho, hb⟩
  clear cA0 cA1 cA2 cA3
  have KA_2 := Lib.hid (KA_1.out.below hb KA_1.out.lt)
  have DKA_pW : Hid (gA < w1.heap.size ∨ w2.heap.size ≤ gA) := Lib.hid (.inl KA_1.out.lt)
  have hsz := hb.size
  have HB2 := Lib.hid (HB1.out.trans (hb.mono HB1.out.size))
  have OpW_0 := Lib.hid ho
  have LpW_0 := Lib.hid (Nat.le_refl w2.heap.size)
  have NpW := Lib.hid ho.len
  have GpW := Lib.hid HB1.out.size
  clear HB1 hb hsz ho
  clear KA_1
  obtain ⟨cA0, cA1, cA2, cA3⟩ := cells4 KA_2.out
  go_wp2_with fail
  refine (specFpz_any s _ _ _ _ _ _ _ _ _ y1 y2 y3 _ OpW_0.out.si (OpW_0.out).caps.2.2 (by have := NpW.out; have := YC.out; omega) HFF.out).mono ?_
  rintro e w3 ⟨rfl, hb⟩
  clear cA0 cA1 cA2 cA3
  have KA_3 := Lib.hid (KA_2.out.below hb KA_2.out.lt)
  have hsz := hb.size
  have HB3 := Lib.hid (HB2.out.trans (hb.mono HB2.out.size))
  have OpW_1 := Lib.hid (OpW_0.out.below hb LpW_0.out)
  have LpW_1 := Lib.hid (Nat.le_trans LpW_0.out hsz)
  clear OpW_0 LpW_0 HB2 hb hsz
  clear KA_2
  obtain ⟨cA0, cA1, cA2, cA3⟩ := cells4 KA_3.out
  go_wp2_with fail
  refine (toPuzzle_ps s _ _ _ _ _ _ _ _ _ y1 y2 y3 _ (hp.below HB3.out (Nat.le_refl _)) (by have := SM.out; omega)).mono ?_
  rintro e w4 ⟨PpX1, PpX2, PpX3, ppX1, rpX1, ppX2, rpX2, ppX3, rpX3, rfl, ho, hb⟩
  clear cA0 cA1 cA2 cA3
  have KA_4 := Lib.hid (KA_3.out.below hb KA_3.out.lt)
  have DKA_pX : Hid (gA < w3.heap.size ∨ w4.heap.size ≤ gA) := Lib.hid (.inl KA_3.out.lt)
  have hsz := hb.size
  have HB4 := Lib.hid (HB3.out.trans (hb.mono HB3.out.size))
  have OpX_0 := Lib.hid ho
  have LpX_0 := Lib.hid (Nat.le_refl w4.heap.size)
  have NpX := Lib.hid ho.len
  have GpX := Lib.hid HB3.out.size
  clear HB3 hb hsz ho
  clear KA_3
  obtain ⟨cA0, cA1, cA2, cA3⟩ := cells4 KA_4.out
  go_upto_region 7 with fail
  clear cA0 cA1 cA2 cA3
  obtain ⟨w5, hwx⟩ : ∃ w5, w5 = w4.alloc (.cells #[.int .i64 s, .slice PpX1 ppX1 rpX1, .slice PpX2 ppX2 rpX2, .slice PpX3 ppX3 rpX3] 54) := ⟨_, rfl⟩
  obtain ⟨gX, hgx⟩ : ∃ g, g = w4.heap.size := ⟨_, rfl⟩
  rw [← hwx, ← hgx]
  have hb : Below w4.heap.size w4 w5 := by rw [hwx]; exact Below.alloc_self _ _
  have KX_0 : Hid (Blk w5 gX 54 #[.int .i64 s, .slice PpX1 ppX1 rpX1, .slice PpX2 ppX2 rpX2, .slice PpX3 ppX3 rpX3]) := Lib.hid (by rw [hwx, hgx]; exact Blk.new _ _ _)
  have DKX_pX : Hid (gX < w3.heap.size ∨ w4.heap.size ≤ gX) := Lib.hid (.inr (by rw [hgx]; exact LpX_0.out))
  clear hwx hgx
  have KA_5 := Lib.hid (KA_4.out.below hb KA_4.out.lt)
  have hsz := hb.size
  have HB5 := Lib.hid (HB4.out.trans (hb.mono HB4.out.size))
  have OpX_1 := Lib.hid (OpX_0.out.below hb LpX_0.out)
  have LpX_1 := Lib.hid (Nat.le_trans LpX_0.out hsz)
  clear OpX_0 LpX_0 HB4 hb hsz
  clear KA_4
  obtain ⟨cA0, cA1, cA2, cA3⟩ := cells4 KA_5.out
  obtain ⟨cX0, cX1, cX2, cX3⟩ := cells4 KX_0.out
  go_wp2_with fail
  refine (implFpz_any s _ _ _ _ _ _ _ _ _ y1 y2 y3 _ OpX_1.out.si (OpX_1.out).caps.2.2 (by have := NpX.out; have := YC.out; omega) HFF.out (tab_below HTAB.out (HBA.out.trans (HB5.out.mono HFIN.out)))).mono ?_
  rintro e w6 ⟨rfl, hb⟩
  clear cA0 cA1 cA2 cA3 cX0 cX1 cX2 cX3
  have KA_6 := Lib.hid (KA_5.out.below hb KA_5.out.lt)
  have KX_1 := Lib.hid (KX_0.out.below hb KX_0.out.lt)
  have hsz := hb.size
  have HB6 := Lib.hid (HB5.out.trans (hb.mono HB5.out.size))
  have OpX_2 := Lib.hid (OpX_1.out.below hb LpX_1.out)
  have LpX_2 := Lib.hid (Nat.le_trans LpX_1.out hsz)
  clear OpX_1 LpX_1 HB5 hb hsz
  clear KA_5 KX_0
  obtain ⟨cA0, cA1, cA2, cA3⟩ := cells4 KA_6.out
  obtain ⟨cX0, cX1, cX2, cX3⟩ := cells4 KX_1.out
  go_upto_region 10 with fail
  clear cA0 cA1 cA2 cA3 cX0 cX1 cX2 cX3
  have hq0 : w6.cell? ⟨gX, 0, none⟩ = some (.int .i64 s) ∧ w6.cell? ⟨gX, 1, none⟩ = some (.slice PpX1 ppX1 rpX1) ∧ w6.cell? ⟨gX, 2, none⟩ = some (.slice PpX2 ppX2 rpX2) ∧ w6.cell? ⟨gX, 3, none⟩ = some (.slice PpX3 ppX3 rpX3) ∧ w6.cell? ⟨gA, 0, none⟩ = some (.int .i64 s) ∧ w6.cell? ⟨gA, 1, none⟩ = some (.slice A1 n1 c1) ∧ w6.cell? ⟨gA, 2, none⟩ = some (.slice A2 n2 c2) ∧ w6.cell? ⟨gA, 3, none⟩ = some (.slice A3 n3 c3) := by obtain ⟨a0, a1, a2, a3⟩ := cells4 KX_1.out; obtain ⟨b0, b1, b2, b3⟩ := cells4 KA_6.out; exact ⟨a0, a1, a2, a3, b0, b1, b2, b3⟩
  have hqd : w6.drew.cell? ⟨gX, 0, none⟩ = some (.int .i64 s) ∧ w6.drew.cell? ⟨gX, 1, none⟩ = some (.slice PpX1 ppX1 rpX1) ∧ w6.drew.cell? ⟨gX, 2, none⟩ = some (.slice PpX2 ppX2 rpX2) ∧ w6.drew.cell? ⟨gX, 3, none⟩ = some (.slice PpX3 ppX3 rpX3) ∧ w6.drew.cell? ⟨gA, 0, none⟩ = some (.int .i64 s) ∧ w6.drew.cell? ⟨gA, 1, none⟩ = some (.slice A1 n1 c1) ∧ w6.drew.cell? ⟨gA, 2, none⟩ = some (.slice A2 n2 c2) ∧ w6.drew.cell? ⟨gA, 3, none⟩ = some (.slice A3 n3 c3) := hq0
  have HQ0 := Lib.hid hq0
  have HQD := Lib.hid hqd
  clear hq0 hqd
  have HPD : Hid (PS w6.drew A1 A2 A3 n1 n2 n3 y1 y2 y3) := Lib.hid (hp.below HB6.out.drew (Nat.le_refl _))
  go_region_held3 (fun w' => w'.cell? ⟨gX, 0, none⟩ = some (.int .i64 s) ∧ w'.cell? ⟨gX, 1, none⟩ = some (.slice PpX1 ppX1 rpX1) ∧ w'.cell? ⟨gX, 2, none⟩ = some (.slice PpX2 ppX2 rpX2) ∧ w'.cell? ⟨gX, 3, none⟩ = some (.slice PpX3 ppX3 rpX3) ∧ w'.cell? ⟨gA, 0, none⟩ = some (.int .i64 s) ∧ w'.cell? ⟨gA, 1, none⟩ = some (.slice A1 n1 c1) ∧ w'.cell? ⟨gA, 2, none⟩ = some (.slice A2 n2 c2) ∧ w'.cell? ⟨gA, 3, none⟩ = some (.slice A3 n3 c3))
    (first | exact HQD.out | exact HQ0.out | exact KK4 | exact KK5)
    (first
      | (go_at_call 32
         with_reducible refine (toPuzzle_ps s _ _ _ _ _ _ _ _ _ y1 y2 y3 _ HPD.out (by have := SM.out; omega)).mono ?_
         rintro e w7 ⟨Pyp1, Pyp2, Pyp3, pyp1, ryp1, pyp2, ryp2, pyp3, ryp3, rfl, ho0, hb0⟩
         have hb : Below w6.heap.size w6 w7 := ((Below.refl _ _).drew).trans hb0
         have ho : OwnP w7 w6.heap.size w7.heap.size Pyp1 Pyp2 Pyp3 pyp1 ryp1 pyp2 ryp2 pyp3 ryp3 y1 y2 y3 := ho0
         clear ho0 hb0
         have KA_7 := Lib.hid (KA_6.out.below hb KA_6.out.lt)
         have KX_2 := Lib.hid (KX_1.out.below hb KX_1.out.lt)
         have DKA_yp : Hid (gA < w6.heap.size ∨ w7.heap.size ≤ gA) := Lib.hid (.inl KA_6.out.lt)
         have DKX_yp : Hid (gX < w6.heap.size ∨ w7.heap.size ≤ gX) := Lib.hid (.inl KX_1.out.lt)
         have hsz := hb.size
         have HB7 := Lib.hid (HB6.out.trans (hb.mono HB6.out.size))
         have OpX_3 := Lib.hid (OpX_2.out.below hb LpX_2.out)
         have LpX_3 := Lib.hid (Nat.le_trans LpX_2.out hsz)
         have Oyp_0 := Lib.hid ho
         have Lyp_0 := Lib.hid (Nat.le_refl w7.heap.size)
         have Nyp := Lib.hid ho.len
         have Gyp := Lib.hid HB6.out.size
         have DpX_yp : Hid (_ ≤ w6.heap.size) := LpX_2
         clear OpX_2 LpX_2 HB6 hb hsz ho
         clear KA_6 KX_1
         have KK4 : w7.cell? ⟨gX, 0, none⟩ = some (.int .i64 s) ∧ w7.cell? ⟨gX, 1, none⟩ = some (.slice PpX1 ppX1 rpX1) ∧ w7.cell? ⟨gX, 2, none⟩ = some (.slice PpX2 ppX2 rpX2) ∧ w7.cell? ⟨gX, 3, none⟩ = some (.slice PpX3 ppX3 rpX3) ∧ w7.cell? ⟨gA, 0, none⟩ = some (.int .i64 s) ∧ w7.cell? ⟨gA, 1, none⟩ = some (.slice A1 n1 c1) ∧ w7.cell? ⟨gA, 2, none⟩ = some (.slice A2 n2 c2) ∧ w7.cell? ⟨gA, 3, none⟩ = some (.slice A3 n3 c3) := by obtain ⟨a0, a1, a2, a3⟩ := cells4 KX_2.out; obtain ⟨b0, b1, b2, b3⟩ := cells4 KA_7.out; exact ⟨a0, a1, a2, a3, b0, b1, b2, b3⟩
         have QX := Lib.hid OpX_3.out.si
         have QY := Lib.hid Oyp_0.out.si)
      | (go_at_call 34
         with_reducible refine (eqPuzzle_yes s _ _ _ _ _ _ _ _ _ _ _ _ _ _ _ _ _ _ y1 y2 y3 _ QX.out QY.out YB.out).mono ?_
         rintro e w8 ⟨rfl, hb⟩
         have KA_8 := Lib.hid (KA_7.out.below hb KA_7.out.lt)
         have KX_3 := Lib.hid (KX_2.out.below hb KX_2.out.lt)
         have hsz := hb.size
         have HB8 := Lib.hid (HB7.out.trans (hb.mono HB7.out.size))
         have OpX_4 := Lib.hid (OpX_3.out.below hb LpX_3.out)
         have LpX_4 := Lib.hid (Nat.le_trans LpX_3.out hsz)
         have Oyp_1 := Lib.hid (Oyp_0.out.below hb Lyp_0.out)
         have Lyp_1 := Lib.hid (Nat.le_trans Lyp_0.out hsz)
         clear OpX_3 LpX_3 Oyp_0 Lyp_0 HB7 hb hsz
         clear KA_7 KX_2
         have KK5 : w8.cell? ⟨gX, 0, none⟩ = some (.int .i64 s) ∧ w8.cell? ⟨gX, 1, none⟩ = some (.slice PpX1 ppX1 rpX1) ∧ w8.cell? ⟨gX, 2, none⟩ = some (.slice PpX2 ppX2 rpX2) ∧ w8.cell? ⟨gX, 3, none⟩ = some (.slice PpX3 ppX3 rpX3) ∧ w8.cell? ⟨gA, 0, none⟩ = some (.int .i64 s) ∧ w8.cell? ⟨gA, 1, none⟩ = some (.slice A1 n1 c1) ∧ w8.cell? ⟨gA, 2, none⟩ = some (.slice A2 n2 c2) ∧ w8.cell? ⟨gA, 3, none⟩ = some (.slice A3 n3 c3) := by obtain ⟨a0, a1, a2, a3⟩ := cells4 KX_3.out; obtain ⟨b0, b1, b2, b3⟩ := cells4 KA_8.out; exact ⟨a0, a1, a2, a3, b0, b1, b2, b3⟩))
  clear HQ0 HQD HPD KK4 KK5 QX QY
  go_wp2
  go_ret
  exact ⟨rfl, HBA.out.trans (HB8.out.mono HFIN.out)⟩

set_option maxRecDepth 100000 in
theorem lifted_FormatPuzzle (os : Os) (started : os.Started) (H : Type) (enc : TypeId × Value → H) :
    ReturnsInHanded {} Tryd.checked os 8 .any (fun w args => (Rows.fnExactFormatPuzzleSpec.pre enc Tryd.prog Tryd.f8 Rows.fnExactFormatPuzzleRow.domain false w args ∧ laidMetH Tryd.prog Rows.fnExactFormatPuzzleRow.laid w) ∧ sizedMet enc Tryd.prog Tryd.f8 (OpenSpec.ofChange Rows.fnExactFormatPuzzleSpec) false w args)
      (Rows.fnExactFormatPuzzleSpec.post enc Tryd.prog Tryd.f8 false true false false) := by
  refine returnsInHanded_of_change_and (C := Tryd.checked) (X := fun w _ => laidMetH Tryd.prog Rows.fnExactFormatPuzzleRow.laid w) (fun _ _ _ hh h => h.of_heap hh) ownF started (by kernel_rfl) Tryd.func8
    (ChangeSpec.witness_shaped (enc := enc) (C := Tryd.checked) (os := os) (X := fun w _ => laidMetH Tryd.prog Rows.fnExactFormatPuzzleRow.laid w) false (World.laidAll Tryd.prog os Rows.fnExactFormatPuzzleRow.laid) #[.agg #[.int .i64 0, .slice none 0 0, .slice none 0 0, .slice none 0 0]] 8 (World.laidAll_os _ _ _)
      (World.shaped_of_ZipB (by kernel_rfl) (by kernel_rfl)) (by kernel_rfl) (by kernel_rfl) (by kernel_rfl)
      (by rw [MakeChecks.laidMetH_plain _ _ _ (by kernel_rfl)]; exact laidMet_laidAll _ (by kernel_rfl) (by kernel_rfl))) ?_
  intro W base args ds gs before hval0 hW hcnd _ hL _
  have hval : ∀ (j : Nat) t v, Tryd.f8.params[j]? = some t → args[j]? = some v → Value.okWide Tryd.prog W .any base t v := hval0
  have hW' := hW
  obtain ⟨p, q, hA0, hV, rfl, hfz, hnd⟩ := hW
  have hA : DataW.TrodAll enc Tryd.prog W 0 (fun _ => true) true Tryd.f8.params.toList args.toList ds p := hA0
  rw [Tryd.params8] at hA hval
  obtain ⟨v0, vs0, d0, ds0, p0, q0, hargs, rfl, rfl, h0, r0⟩ := trodAll_cons hA
  obtain ⟨rfl, rfl, rfl⟩ := trodAll_nil r0
  obtain rfl : args = #[v0] := by cases args; simp_all
  obtain ⟨rfl, rfl⟩ := trodVars_none hV
  have ok0 := hval 0 51 v0 rfl rfl
  obtain ⟨cs0, rfl, hsz0⟩ : ∃ cs : Array Value, v0 = .agg cs ∧ cs.size = 4 := by
    unfold Value.okWide at ok0
    rw [Tryd.underlying51] at ok0
    obtain ⟨cs, e, hz, _⟩ := ok0
    exact ⟨cs, e, by rw [hz]; kernel_rfl⟩
  clear ok0
  have k0 := h0
  have lt0 : ∀ x ∈ p0, x.block < W.heap.size := by obtain ⟨m, hm⟩ := k0; exact DataW.trod_lt m _ _ _ hm
  obtain ⟨s0, A1, A2, A3, n1, c1, n2, c2, n3, c3, y1, y2, y3, rfl, hp0, hn0, hg1, hg2, hg3⟩ := PS.of_trodF hsz0 h0
  clear hA0 hval0
  refine (walk_FormatPuzzle s0 A1 A2 A3 n1 c1 n2 c2 n3 c3 y1 y2 y3 W hp0 hn0 ⟨fitI_of hg1, fitI_of hg2, fitI_of hg3⟩ (pow_of_laid hL)).mono fun e W' ⟨he, bel⟩ => ?_
  subst he
  exact ⟨_, rfl, _, _, _, [], _, [], hW', trodAll_mk1 (shut_bool Tryd.underlying4 _), (trodAll_cons_mk (Below.trod laidOut (by kernel_rfl) (of_decide_eq_true (by kernel_rfl)) k0 bel lt0) trodAll_mk0), rfl, bel.frame _, fun h => by cases h⟩

theorem fnExactFormatPuzzle_row : Rows.FnExactFormatPuzzleSaid :=
  OpenClaim.holds_of_wide 8 Tryd.f8 rfl rfl rfl rfl rfl rfl rfl ⟨rfl, rfl, rfl, rfl, rfl⟩ rfl rfl rfl rfl rfl (by kernel_rfl) Tryd.func8 (by kernel_rfl)
    (of_decide_eq_true (by kernel_rfl)) (by unfold Func.isWrapper; first | (rw [if_pos (by decide +kernel)]; kernel_rfl) | (rw [if_neg (by decide +kernel)]; exact ⟨rfl, rfl⟩))
    (fun os started H enc _ => lifted_FormatPuzzle os started H enc)
theorem fnExactFormatPuzzle_holds : Rows.FnExactFormatPuzzleCardSaid :=
  Claim7.holds_tied_plain_at .later [] [.data, .data, .data] true Rows.fnExactFormatPuzzleCard.stood.harness false fnExactFormatPuzzle_row (fun _ h => by cases h) (by kernel_rfl) (fun _ h => by cases h) fnExactFormatPuzzle_row_tie rfl ⟨rfl, rfl⟩ (by kernel_rfl) rfl
    (fun f fn hf hfn => by
      obtain rfl : f = 8 := Option.some.inj ((show Tryd.prog.funcNamed "loop.example/g03113/laws.FnExactFormatPuzzle" = some 8 by kernel_rfl).symm.trans hf) |>.symm
      obtain rfl : fn = Tryd.f8 := (Option.some.inj (Tryd.func8.symm.trans hfn)).symm
      exact ⟨by kernel_rfl, fun j t ht => by
        rw [Tryd.params8] at ht
        have hm : t ∈ [51] := by simpa using Array.mem_of_getElem? ht
        have hall : ([51].all fun u => !Tryd.prog.wantsStandIn u) = true := by kernel_rfl
        exact (show Tryd.prog.wantsStandIn t = false by simpa using List.all_eq_true.1 hall t hm)⟩)
    (by kernel_rfl)
end Go.Proofs.YtdiiaallklkomaaDoor
