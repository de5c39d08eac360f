/-
  FnExactSessionOk: for every input the law returns true: the program's SessionOk answers as the specification's, changes no argument, and its answer owns its memory. No conditions.
-/
import Derived.Test.YtfaegfhbbkicgaaPkC4
namespace Go.Proofs.Ytfaegfhbbkicgaa
open Go.ChangeShapes Go.WideShapes Go.ChangeAt Go.RowKit

set_option maxRecDepth 100000 in
set_option maxHeartbeats 8000000 in
theorem walk_SessionOk (A B D : Option Addr) (n c m d q e : Nat) (K N : Int) (xs : List Int) (ts : List Tm) (zs : List Int) (wA : World) (hA0 : SI wA A n xs) (hB0 : TS wA B m ts) (hD0 : SI wA D q zs) (hn : n ≤ 9223372036854775807) (hm : m ≤ 9223372036854775807) (hme : ∀ k, k < m → (tm ts k).1.length ≤ 9223372036854775807) (hq : q ≤ 9223372036854775807) :
    Calls Try.prog 11 #[.agg #[.slice A n c, .slice B m d, .slice D q e, .int .i64 K, .int .i64 N]] wA fun r w' => r = .returned (.bool true) ∧ Below wA.heap.size wA w' := by
  have HNN := Lib.hid (And.intro hn (And.intro hm (And.intro hme hq)))
  have YL := Lib.hid (And.intro hA0.1 (And.intro hB0.1 hD0.1))
  clear hn hm hme hq
  obtain ⟨w, hw0⟩ : ∃ w, w = wA.alloc (.cells #[.slice A n c, .slice B m d, .slice D q e, .int .i64 K, .int .i64 N] 65) := ⟨_, rfl⟩
  obtain ⟨gA0, hgA0⟩ : ∃ g, g = wA.heap.size := ⟨_, rfl⟩
  have hbA : Below wA.heap.size wA w := by rw [hw0]; go_grown
  have HBA := Lib.hid hbA
  have HI := Lib.hid (And.intro (hA0.below hbA (Nat.le_refl _)) (And.intro (hB0.below hbA (Nat.le_refl _)) (hD0.below hbA (Nat.le_refl _))))
  have KA0_0 : Hid (Blk w gA0 65 #[.slice A n c, .slice B m d, .slice D q e, .int .i64 K, .int .i64 N]) := Lib.hid (by rw [hw0, hgA0]; exact Blk.new wA _ _)
  have HB0 := Lib.hid (Below.refl w.heap.size w)
  have HW0 := Lib.hid hw0
  have HGA0 := Lib.hid hgA0
  have HFIN : Hid (wA.heap.size ≤ w.heap.size) := Lib.hid hbA.size
  have HTO := Lib.hid (fun (hn : n ≤ 1099511627776) (hm : m ≤ 1099511627776) (hme : ∀ k, k < m → (tm ts k).1.length ≤ 1099511627776) (hq : q ≤ 1099511627776) u (hu : Below w.heap.size w u) => toSession_any A B D n c m d q e K N xs ts zs u (HI.out.1.below hu (Nat.le_refl _)) (HI.out.2.1.below hu (Nat.le_refl _)) (HI.out.2.2.below hu (Nat.le_refl _)) hn hm hme hq)
  clear hw0 hbA hgA0 hA0 hB0 hD0
  go_enter Try.func11, Try.ntmps11
  go_upto_region 1 with fail
  rw [← HW0.out, ← HGA0.out]
  obtain ⟨cA0, cA1, cA2, cA3, cA4⟩ := cells5 KA0_0.out
  go_wp2_with fail
  refine (szSession_any A B D n c m d q e K N ts _ HI.out.2.1 HNN.out.1 HNN.out.2.1 HNN.out.2.2.1 HNN.out.2.2.2).mono ?_
  rintro r w1 ⟨⟨r0, rfl, hr⟩, hb⟩
  clear cA0 cA1 cA2 cA3 cA4
  have KA0_1 := Lib.hid (KA0_0.out.below hb KA0_0.out.lt)
  have hsz := hb.size
  have HB1 := Lib.hid (HB0.out.trans (hb.mono HB0.out.size))
  clear HB0 hb hsz KA0_0
  rcases hr with hr | ⟨hr0, s1, s2, s3, s4⟩
  · go_wp2
    go_ret
    exact ⟨rfl, HBA.out.trans (HB1.out.mono HFIN.out)⟩
  have hr0 : ¬ r0 < 0 := by omega
  have HTS : Hid (∀ u, Below w.heap.size w u → Calls Try.prog 50 #[.agg #[.slice A n c, .slice B m d, .slice D q e, .int .i64 K, .int .i64 N]] u fun e0 w' => FreshSs u w' e0 xs ts zs K N) := Lib.hid (HTO.out (Nat.le_trans s1 (by decide)) (Nat.le_trans s2 (by decide)) (fun k hk => Nat.le_trans (s3 k hk) (by decide)) (Nat.le_trans s4 (by decide)))
  have HLN : Hid (xs.length ≤ 1099511627776 ∧ ts.length ≤ 1099511627776 ∧ (∀ k, k < ts.length → (tm ts k).1.length ≤ 1099511627776) ∧ zs.length ≤ 1099511627776) := Lib.hid (by
    have l := YL.out
    exact ⟨by omega, by omega, fun k hk => Nat.le_trans (s3 k (by omega)) (by decide), by omega⟩)
  clear HTO s1 s2 s3 s4
  obtain ⟨cA0, cA1, cA2, cA3, cA4⟩ := cells5 KA0_1.out
  go_wp2_with fail
  refine (HTS.out _ HB1.out).mono ?_
  rintro r w2 ⟨AW, nW, cW, BW, mW, dW, DW, qW, eW, rfl, o1, o2, o3, hb⟩
  clear cA0 cA1 cA2 cA3 cA4
  have KA0_2 := Lib.hid (KA0_1.out.below hb KA0_1.out.lt)
  have hsz := hb.size
  have HB2 := Lib.hid (HB1.out.trans (hb.mono HB1.out.size))
  have OW1 := Lib.hid (And.intro o1 (And.intro o2 o3))
  have LW := Lib.hid (show nW ≤ 1099511627776 ∧ mW ≤ 1099511627776 ∧ (∀ k, k < mW → (tm ts k).1.length ≤ 1099511627776) ∧ qW ≤ 1099511627776 by
    have l := HLN.out; have l1 := o1.len; have l2 := o2.len; have l3 := o3.len
    exact ⟨by omega, by omega, fun k hk => l.2.2.1 k (by omega), by omega⟩)
  clear HB1 hb hsz KA0_1 o1 o2 o3
  obtain ⟨cA0, cA1, cA2, cA3, cA4⟩ := cells5 KA0_2.out
  go_wp2_with fail
  refine (specSessionOk_any AW BW DW nW cW mW dW qW eW K N xs ts zs _ OW1.out.1.si OW1.out.2.1.si OW1.out.2.2.si LW.out.1 LW.out.2.1 LW.out.2.2.1 LW.out.2.2.2 OW1.out.1.cap).mono ?_
  rintro r w3 ⟨rfl, hb⟩
  clear cA0 cA1 cA2 cA3 cA4
  have KA0_3 := Lib.hid (KA0_2.out.below hb KA0_2.out.lt)
  have hsz := hb.size
  have HB3 := Lib.hid (HB2.out.trans (hb.mono HB2.out.size))
  clear HB2 hb hsz KA0_2 OW1 LW
  obtain ⟨cA0, cA1, cA2, cA3, cA4⟩ := cells5 KA0_3.out
  go_wp2_with fail
  refine (HTS.out _ HB3.out).mono ?_
  rintro r w4 ⟨AX, nX, cX, BX, mX, dX, DX, qX, eX, rfl, o1, o2, o3, hb⟩
  clear cA0 cA1 cA2 cA3 cA4
  have KA0_4 := Lib.hid (KA0_3.out.below hb KA0_3.out.lt)
  have hsz := hb.size
  have HB4 := Lib.hid (HB3.out.trans (hb.mono HB3.out.size))
  have OX4 := Lib.hid (And.intro o1 (And.intro o2 o3))
  have LX := Lib.hid (show nX ≤ 1099511627776 ∧ mX ≤ 1099511627776 ∧ (∀ k, k < mX → (tm ts k).1.length ≤ 1099511627776) ∧ qX ≤ 1099511627776 by
    have l := HLN.out; have l1 := o1.len; have l2 := o2.len; have l3 := o3.len
    exact ⟨by omega, by omega, fun k hk => l.2.2.1 k (by omega), by omega⟩)
  clear HB3 hb hsz KA0_3 o1 o2 o3
  obtain ⟨cA0, cA1, cA2, cA3, cA4⟩ := cells5 KA0_4.out
  go_upto_region 7 with fail
  clear cA0 cA1 cA2 cA3 cA4
  obtain ⟨w5, hwx⟩ : ∃ w5, w5 = w4.alloc (.cells #[.slice AX nX cX, .slice BX mX dX, .slice DX qX eX, .int .i64 K, .int .i64 N] 58) := ⟨_, rfl⟩
  obtain ⟨gX0, hgx⟩ : ∃ g, g = w4.heap.size := ⟨_, rfl⟩
  rw [← hwx, ← hgx]
  have hb : Below w4.heap.size w4 w5 := by rw [hwx]; exact Below.alloc_self _ _
  have KX0_5 : Hid (Blk w5 gX0 58 #[.slice AX nX cX, .slice BX mX dX, .slice DX qX eX, .int .i64 K, .int .i64 N]) := Lib.hid (by rw [hwx, hgx]; exact Blk.new _ _ _)
  clear hwx hgx
  have KA0_5 := Lib.hid (KA0_4.out.below hb KA0_4.out.lt)
  have hsz := hb.size
  have HB5 := Lib.hid (HB4.out.trans (hb.mono HB4.out.size))
  have OX5 : Hid (Own w5 w3.heap.size w4.heap.size AX nX cX xs ∧ Cls.OwnTC w5 w3.heap.size w4.heap.size BX mX dX ts ∧ Own w5 w3.heap.size w4.heap.size DX qX eX zs) := Lib.hid ⟨OX4.out.1.below hb (Nat.le_refl _), OX4.out.2.1.below hb (Nat.le_refl _), OX4.out.2.2.below hb (Nat.le_refl _)⟩
  have LLX5 : Hid (w4.heap.size ≤ w5.heap.size) := Lib.hid hsz
  clear HB4 hb hsz KA0_4 OX4
  obtain ⟨cA0, cA1, cA2, cA3, cA4⟩ := cells5 KA0_5.out
  obtain ⟨cX0, cX1, cX2, cX3, cX4⟩ := cells5 KX0_5.out
  go_wp2_with fail
  refine (implSessionOk_any AX BX DX nX cX mX dX qX eX K N xs ts zs _ OX5.out.1.si OX5.out.2.1.si OX5.out.2.2.si LX.out.1 LX.out.2.1 LX.out.2.2.1 LX.out.2.2.2).mono ?_
  rintro r w6 ⟨rfl, hb⟩
  clear cA0 cA1 cA2 cA3 cA4 cX0 cX1 cX2 cX3 cX4
  have KA0_6 := Lib.hid (KA0_5.out.below hb KA0_5.out.lt)
  have hsz := hb.size
  have HB6 := Lib.hid (HB5.out.trans (hb.mono HB5.out.size))
  have OX6 : Hid (Own w6 w3.heap.size w4.heap.size AX nX cX xs ∧ Cls.OwnTC w6 w3.heap.size w4.heap.size BX mX dX ts ∧ Own w6 w3.heap.size w4.heap.size DX qX eX zs) := Lib.hid ⟨OX5.out.1.below hb LLX5.out, OX5.out.2.1.below hb LLX5.out, OX5.out.2.2.below hb LLX5.out⟩
  have KX0_6 := Lib.hid (KX0_5.out.below hb KX0_5.out.lt)
  have LLX6 : Hid (w4.heap.size ≤ w6.heap.size) := Lib.hid (Nat.le_trans LLX5.out hsz)
  clear HB5 hb hsz KA0_5 KX0_5 OX5 LLX5
  obtain ⟨cA0, cA1, cA2, cA3, cA4⟩ := cells5 KA0_6.out
  obtain ⟨cX0, cX1, cX2, cX3, cX4⟩ := cells5 KX0_6.out
  go_upto_region 10 with fail
  clear cA0 cA1 cA2 cA3 cA4 cX0 cX1 cX2 cX3 cX4
  have hq0 : w6.cell? ⟨gX0, 0, none⟩ = some (.slice AX nX cX) ∧ w6.cell? ⟨gX0, 1, none⟩ = some (.slice BX mX dX) ∧ w6.cell? ⟨gX0, 2, none⟩ = some (.slice DX qX eX) ∧ w6.cell? ⟨gX0, 3, none⟩ = some (.int .i64 K) ∧ w6.cell? ⟨gX0, 4, none⟩ = some (.int .i64 N) ∧ w6.cell? ⟨gA0, 0, none⟩ = some (.slice A n c) ∧ w6.cell? ⟨gA0, 1, none⟩ = some (.slice B m d) ∧ w6.cell? ⟨gA0, 2, none⟩ = some (.slice D q e) ∧ w6.cell? ⟨gA0, 3, none⟩ = some (.int .i64 K) ∧ w6.cell? ⟨gA0, 4, none⟩ = some (.int .i64 N) := by obtain ⟨a0, a1, a2, a3, a4⟩ := cells5 KX0_6.out; obtain ⟨b0, b1, b2, b3, b4⟩ := cells5 KA0_6.out; exact ⟨a0, a1, a2, a3, a4, b0, b1, b2, b3, b4⟩
  have hqd : w6.drew.cell? ⟨gX0, 0, none⟩ = some (.slice AX nX cX) ∧ w6.drew.cell? ⟨gX0, 1, none⟩ = some (.slice BX mX dX) ∧ w6.drew.cell? ⟨gX0, 2, none⟩ = some (.slice DX qX eX) ∧ w6.drew.cell? ⟨gX0, 3, none⟩ = some (.int .i64 K) ∧ w6.drew.cell? ⟨gX0, 4, none⟩ = some (.int .i64 N) ∧ w6.drew.cell? ⟨gA0, 0, none⟩ = some (.slice A n c) ∧ w6.drew.cell? ⟨gA0, 1, none⟩ = some (.slice B m d) ∧ w6.drew.cell? ⟨gA0, 2, none⟩ = some (.slice D q e) ∧ w6.drew.cell? ⟨gA0, 3, none⟩ = some (.int .i64 K) ∧ w6.drew.cell? ⟨gA0, 4, none⟩ = some (.int .i64 N) := hq0
  have HQ0 := Lib.hid hq0
  have HQD := Lib.hid hqd
  clear hq0 hqd
  have HPD := Lib.hid (HTS.out w6.drew HB6.out.drew)
  go_region_held3 (fun w' => w'.cell? ⟨gX0, 0, none⟩ = some (.slice AX nX cX) ∧ w'.cell? ⟨gX0, 1, none⟩ = some (.slice BX mX dX) ∧ w'.cell? ⟨gX0, 2, none⟩ = some (.slice DX qX eX) ∧ w'.cell? ⟨gX0, 3, none⟩ = some (.int .i64 K) ∧ w'.cell? ⟨gX0, 4, none⟩ = some (.int .i64 N) ∧ w'.cell? ⟨gA0, 0, none⟩ = some (.slice A n c) ∧ w'.cell? ⟨gA0, 1, none⟩ = some (.slice B m d) ∧ w'.cell? ⟨gA0, 2, none⟩ = some (.slice D q e) ∧ w'.cell? ⟨gA0, 3, none⟩ = some (.int .i64 K) ∧ w'.cell? ⟨gA0, 4, none⟩ = some (.int .i64 N))
    (first | with_reducible exact HQD.out | with_reducible exact HQ0.out | with_reducible exact KK4 | with_reducible exact KK5)
    (first
      | (go_at_call 50
         with_reducible refine HPD.out.mono ?_
         rintro r w7 ⟨AY, nY, cY, BY, mY, dY, DY, qY, eY, rfl, o1, o2, o3, hb0⟩
         have hb : Below w6.heap.size w6 w7 := ((Below.refl _ _).drew).trans hb0
         clear hb0
         have KA0_7 := Lib.hid (KA0_6.out.below hb KA0_6.out.lt)
         have KX0_7 := Lib.hid (KX0_6.out.below hb KX0_6.out.lt)
         have hsz := hb.size
         have HB7 := Lib.hid (HB6.out.trans (hb.mono HB6.out.size))
         have QX : Hid (SI w7 AX nX xs ∧ TS w7 BX mX ts ∧ SI w7 DX qX zs) := Lib.hid ⟨(OX6.out.1.below hb LLX6.out).si, (OX6.out.2.1.below hb LLX6.out).si, (OX6.out.2.2.below hb LLX6.out).si⟩
         have QY : Hid (SI w7 AY nY xs ∧ TS w7 BY mY ts ∧ SI w7 DY qY zs) := Lib.hid ⟨o1.si, o2.si, o3.si⟩
         clear HB6 hb hsz o1 o2 o3 KA0_6 KX0_6
         have KK4 : w7.cell? ⟨gX0, 0, none⟩ = some (.slice AX nX cX) ∧ w7.cell? ⟨gX0, 1, none⟩ = some (.slice BX mX dX) ∧ w7.cell? ⟨gX0, 2, none⟩ = some (.slice DX qX eX) ∧ w7.cell? ⟨gX0, 3, none⟩ = some (.int .i64 K) ∧ w7.cell? ⟨gX0, 4, none⟩ = some (.int .i64 N) ∧ w7.cell? ⟨gA0, 0, none⟩ = some (.slice A n c) ∧ w7.cell? ⟨gA0, 1, none⟩ = some (.slice B m d) ∧ w7.cell? ⟨gA0, 2, none⟩ = some (.slice D q e) ∧ w7.cell? ⟨gA0, 3, none⟩ = some (.int .i64 K) ∧ w7.cell? ⟨gA0, 4, none⟩ = some (.int .i64 N) := by obtain ⟨a0, a1, a2, a3, a4⟩ := cells5 KX0_7.out; obtain ⟨b0, b1, b2, b3, b4⟩ := cells5 KA0_7.out; exact ⟨a0, a1, a2, a3, a4, b0, b1, b2, b3, b4⟩)
      | (go_at_call 45
         with_reducible refine (eqSession_yes AX BX DX AY BY DY nX cX mX dX qX eX nY cY mY dY qY eY K N xs ts zs _ QX.out.1 QX.out.2.1 QX.out.2.2 QY.out.1 QY.out.2.1 QY.out.2.2 HLN.out.1 HLN.out.2.1 HLN.out.2.2.1 HLN.out.2.2.2).mono ?_
         rintro r w8 ⟨rfl, hb⟩
         have KA0_8 := Lib.hid (KA0_7.out.below hb KA0_7.out.lt)
         have KX0_8 := Lib.hid (KX0_7.out.below hb KX0_7.out.lt)
         have HB8 := Lib.hid (HB7.out.trans (hb.mono HB7.out.size))
         clear HB7 hb KA0_7 KX0_7
         have KK5 : w8.cell? ⟨gX0, 0, none⟩ = some (.slice AX nX cX) ∧ w8.cell? ⟨gX0, 1, none⟩ = some (.slice BX mX dX) ∧ w8.cell? ⟨gX0, 2, none⟩ = some (.slice DX qX eX) ∧ w8.cell? ⟨gX0, 3, none⟩ = some (.int .i64 K) ∧ w8.cell? ⟨gX0, 4, none⟩ = some (.int .i64 N) ∧ w8.cell? ⟨gA0, 0, none⟩ = some (.slice A n c) ∧ w8.cell? ⟨gA0, 1, none⟩ = some (.slice B m d) ∧ w8.cell? ⟨gA0, 2, none⟩ = some (.slice D q e) ∧ w8.cell? ⟨gA0, 3, none⟩ = some (.int .i64 K) ∧ w8.cell? ⟨gA0, 4, none⟩ = some (.int .i64 N) := by obtain ⟨a0, a1, a2, a3, a4⟩ := cells5 KX0_8.out; obtain ⟨b0, b1, b2, b3, b4⟩ := cells5 KA0_8.out; exact ⟨a0, a1, a2, a3, a4, b0, b1, b2, b3, b4⟩))
  clear HQ0 HQD HPD KK4 KK5 QX QY
  go_wp2
  go_ret
  exact ⟨rfl, HBA.out.trans (HB8.out.mono HFIN.out)⟩

set_option maxRecDepth 100000 in
theorem lifted_SessionOk (os : Os) (started : os.Started) (H : Type) (enc : TypeId × Value → H) :
    ReturnsInHanded {} Try.checked os 11 .any (Rows.fnExactSessionOkSpec.pre6 enc Try.prog Try.f11 Rows.fnExactSessionOkRow.domain false) (Rows.fnExactSessionOkSpec.post enc Try.prog Try.f11 false true false false) := by
  refine returnsInHanded_of_change (C := Try.checked) own started (by kernel_rfl) Try.func11
    (ChangeSpec.witness6 (enc := enc) (C := Try.checked) false ⟨#[], #[.agg #[.slice none 0 0, .slice none 0 0, .slice none 0 0, .int .i64 0, .int .i64 0]], []⟩ 8 (by kernel_rfl) (by kernel_rfl) (by kernel_rfl) (by kernel_rfl)) ?_
  intro W base args ds gs before hval0 hW hcnd _
  have hval : ∀ (j : Nat) t v, Try.f11.params[j]? = some t → args[j]? = some v → Value.okWide Try.prog W .any base t v := hval0
  have hW' := hW
  obtain ⟨p, q, hA0, hV, rfl, hfz, hnd⟩ := hW
  have hA : DataW.TrodAll enc Try.prog W 0 (fun _ => true) true Try.f11.params.toList args.toList ds p := hA0
  rw [Try.params11] at hA hval
  obtain ⟨v0, vs0, d0, ds0, p0, q0, hargs, rfl, rfl, h0, r0⟩ := trodAll_cons hA
  obtain ⟨rfl, rfl, rfl⟩ := trodAll_nil r0
  obtain rfl : args = #[v0] := by cases args; simp_all
  obtain ⟨rfl, rfl⟩ := trodVars_none hV
  have ok0 := hval 0 65 v0 rfl rfl
  obtain ⟨cs0, rfl, hsz0⟩ : ∃ cs : Array Value, v0 = .agg cs ∧ cs.size = 5 := by
    unfold Value.okWide at ok0
    rw [Try.underlying65] at ok0
    obtain ⟨cs, e, hz, _⟩ := ok0
    exact ⟨cs, e, by rw [hz]; kernel_rfl⟩
  clear ok0
  have k0 := h0
  have lt0 : ∀ x ∈ p0, x.block < W.heap.size := by obtain ⟨m, hm⟩ := k0; exact DataW.trod_lt m _ _ _ hm
  obtain ⟨A, B, D, n, c, m, d, q, e, K, N, xs, ts, zs, rfl, sA, bA, sB, bB, bE, sD, bD⟩ := SX.of_trod hsz0 h0
  clear hA0 hval0
  refine (walk_SessionOk A B D n c m d q e K N xs ts zs W sA sB sD bA bB bE bD).mono fun e W' ⟨he, bel⟩ => ?_
  subst he
  exact ⟨_, rfl, _, _, _, [], _, [], hW', trodAll_mk1 (shut_bool Try.underlying4 _), (trodAll_cons_mk (Below.trod laidOut (by kernel_rfl) (of_decide_eq_true (by kernel_rfl)) k0 bel lt0) trodAll_mk0), rfl, bel.frame _, fun h => by cases h⟩

theorem fnExactSessionOk_holds : Rows.FnExactSessionOkSaid :=
  OpenClaim.holds_of_wide 11 Try.f11 rfl rfl rfl rfl rfl rfl rfl ⟨rfl, rfl, rfl, rfl, rfl⟩ rfl rfl rfl rfl rfl (by kernel_rfl) Try.func11 (by kernel_rfl)
    (of_decide_eq_true (by kernel_rfl)) (by unfold Func.isWrapper; first | (rw [if_pos (by decide +kernel)]; kernel_rfl) | (rw [if_neg (by decide +kernel)]; exact ⟨rfl, rfl⟩))
    (fun os started H enc _ => lifted_SessionOk os started H enc)
end Go.Proofs.Ytfaegfhbbkicgaa
