/-
  Texts SesT to SesF, merged. Conditions: as each says.
-/
import Derived.Deep.SlicePairs
import Derived.Test.YtfaegfhbbkicgaaPkC3
/-
  A session of the laws made into the program's. Conditions: lengths below 2^40.
-/


namespace Go.Proofs.Ytfaegfhbbkicgaa
open Go.RowKit

namespace Cls
theorem OwnTC.wideS {w : World} {lo hi lo' hi' n c : Nat} {A : Option Addr} {ts : List Tm} (h : OwnTC w lo hi A n c ts) (h1 : lo' ≤ lo) (h2 : hi ≤ hi') : OwnTC w lo' hi' A n c ts := by
  obtain ⟨E, e1, e2, e3, e4, e5, e6⟩ := h
  refine ⟨E, e1, ⟨e2.1, ?_⟩, fun k hk => Nat.lt_of_lt_of_le (e3 k hk) h2, fun j hj => (e4 j hj).wide h1 h2, e5, e6⟩
  rcases e2.2 with hn | ⟨g, cap, cur, e, hl, rest⟩
  · exact .inl hn
  · exact .inr ⟨g, cap, cur, e, Nat.le_trans h1 hl, rest⟩
end Cls
set_option maxRecDepth 100000 in
set_option maxHeartbeats 4000000 in
theorem toSession_any (A B D : Option Addr) (n c m d q e : Nat) (K N : Int) (xs : List Int) (ts : List Tm) (zs : List Int) (w : World) (hA : SI w A n xs) (hB : TS w B m ts) (hD : SI w D q zs) (hn : n ≤ 1099511627776) (hm : m ≤ 1099511627776) (hme : ∀ k, k < m → (tm ts k).1.length ≤ 1099511627776) (hq : q ≤ 1099511627776) :
    Calls Try.prog 50 #[.agg #[.slice A n c, .slice B m d, .slice D q e, .int .i64 K, .int .i64 N]] w fun e0 w' => FreshSs w w' e0 xs ts zs K N := by
  obtain ⟨w1, hw1⟩ : ∃ w1, w1 = ((w.alloc (.cells #[.slice A n c, .slice B m d, .slice D q e, .int .i64 K, .int .i64 N] 65)).alloc (.cells #[.slice none 0 0, .slice none 0 0, .slice none 0 0, .int .i64 0, .int .i64 0] 58)).alloc (.cells #[.slice none 0 0, .slice none 0 0, .slice none 0 0, .int .i64 0, .int .i64 0] 58) := ⟨_, rfl⟩
  obtain ⟨g, hg⟩ : ∃ g, g = w.heap.size := ⟨_, rfl⟩
  have KA0 : Hid (Blk w1 g 65 #[.slice A n c, .slice B m d, .slice D q e, .int .i64 K, .int .i64 N]) := Lib.hid (by rw [hw1, hg]; exact ((Blk.new w _ _).alloc _).alloc _)
  have KB0 : Hid (Blk w1 (g + 1) 58 #[.slice none 0 0, .slice none 0 0, .slice none 0 0, .int .i64 0, .int .i64 0]) := Lib.hid (by rw [hw1, hg]; have := (Blk.new (w.alloc (.cells #[.slice A n c, .slice B m d, .slice D q e, .int .i64 K, .int .i64 N] 65)) 58 #[.slice none 0 0, .slice none 0 0, .slice none 0 0, .int .i64 0, .int .i64 0]).alloc (.cells #[.slice none 0 0, .slice none 0 0, .slice none 0 0, .int .i64 0, .int .i64 0] 58); simpa using this)
  have KC0 : Hid (Blk w1 (g + 1 + 1) 58 #[.slice none 0 0, .slice none 0 0, .slice none 0 0, .int .i64 0, .int .i64 0]) := Lib.hid (by rw [hw1, hg]; have := Blk.new ((w.alloc (.cells #[.slice A n c, .slice B m d, .slice D q e, .int .i64 K, .int .i64 N] 65)).alloc (.cells #[.slice none 0 0, .slice none 0 0, .slice none 0 0, .int .i64 0, .int .i64 0] 58)) 58 #[.slice none 0 0, .slice none 0 0, .slice none 0 0, .int .i64 0, .int .i64 0]; simpa using this)
  have hb1 : Below w.heap.size w w1 := by rw [hw1]; go_grown
  have BL0 := Lib.hid hb1
  have HSZ : Hid (w1.heap.size = g + 3) := Lib.hid (by rw [hw1, hg]; simp)
  have HW := Lib.hid hw1
  have HG := Lib.hid hg
  have HC0 := Lib.hid (fun u (hu : Below w.heap.size w u) => toIntS_fr A n c xs u (hA.below hu (Nat.le_refl _)) hn)
  have HC1 := Lib.hid (fun u (hu : Below w.heap.size w u) => Cls.toTermS_anyC B m d ts u (hB.below hu (Nat.le_refl _)) hm hme)
  have HC2 := Lib.hid (fun u (hu : Below w.heap.size w u) => toIntS_fr D q e zs u (hD.below hu (Nat.le_refl _)) hq)
  have GS0 : Hid (g + 3 ≤ w1.heap.size) := Lib.hid (by rw [HSZ.out]; exact Nat.le_refl _)
  clear hw1 hg hb1 hA hB hD
  go_enter Try.func50, Try.ntmps50
  go_upto_region 2 with fail
  rw [← HW.out, ← HG.out]
  have hcl : w1.cell? ⟨g, 0, none⟩ = some (.slice A n c) := KA0.out.cell 0
  go_upto_region 3 with (first | (go_at_call 24; (with_reducible refine (HC0.out _ BL0.out).mono ?_); rintro e0 u0 ⟨A1, n1, c1, rfl, ho, hb⟩; have KAu := Lib.hid (KA0.out.below hb KA0.out.lt); have KBu := Lib.hid (KB0.out.below hb KB0.out.lt); have KCu := Lib.hid (KC0.out.below hb KC0.out.lt); have BLu := Lib.hid (BL0.out.trans (hb.mono BL0.out.size)); have GSu : Hid (g + 3 ≤ u0.heap.size) := Lib.hid (Nat.le_trans GS0.out hb.size); have OWu0 : Hid (Own u0 (g + 3) u0.heap.size A1 n1 c1 xs) := Lib.hid (ho.wide GS0.out (Nat.le_refl _)); have hd1 : u0.cell? ⟨(g + 1 + 1), 0, none⟩ = some (.slice none 0 0) := KCu.out.cell 0; have he1 := KCu.out.frozen 0; clear ho hb))
  clear hcl hd1 he1 KA0 KB0 KC0 BL0 GS0 
  obtain ⟨v1, hv⟩ : ∃ v, v = u0.setCell ⟨(g + 1 + 1), 0, none⟩ (.slice A1 n1 c1) := ⟨_, rfl⟩
  have hgr : u0.grownBy v1 (some (g + 1 + 1)) := by rw [hv]; exact grown_setP _ _ _
  have hwi : Within (g + 2) (g + 3) u0 v1 := Within.of_grown hgr (by rintro k ⟨⟩; omega)
  have KA1 : Hid (Blk v1 g 65 #[.slice A n c, .slice B m d, .slice D q e, .int .i64 K, .int .i64 N]) := Lib.hid (by rw [hv]; exact KAu.out.far (by show g ≠ g + 1 + 1; omega) _)
  have KB1 : Hid (Blk v1 (g + 1) 58 #[.slice none 0 0, .slice none 0 0, .slice none 0 0, .int .i64 0, .int .i64 0]) := Lib.hid (by rw [hv]; exact KBu.out.far (by show g + 1 ≠ g + 1 + 1; omega) _)
  have KC1 : Hid (Blk v1 (g + 1 + 1) 58 #[.slice A1 n1 c1, .slice none 0 0, .slice none 0 0, .int .i64 0, .int .i64 0]) := Lib.hid (by rw [hv]; exact KCu.out.set_ 0 _)
  have BL1 : Hid (Below w.heap.size w v1) := Lib.hid (BLu.out.grown hgr BLu.out.size (by rintro k ⟨⟩; have := HG.out; omega))
  have GS1 : Hid (g + 3 ≤ v1.heap.size) := Lib.hid (Nat.le_trans GSu.out hgr.size)
  have OW0_1 : Hid (Own v1 (g + 3) v1.heap.size A1 n1 c1 xs) := Lib.hid ((OWu0.out.within hwi (.inr (Nat.le_refl _))).wide (Nat.le_refl _) hgr.size)
  rw [← hv]
  clear hv hgr hwi KAu KBu KCu BLu GSu OWu0
  have hcl : v1.cell? ⟨g, 1, none⟩ = some (.slice B m d) := KA1.out.cell 1
  go_upto_region 4 with (first | (go_at_call 109; (with_reducible refine (HC1.out _ BL1.out).mono ?_); rintro e0 u1 ⟨B1, m1, d1, rfl, ho, hb⟩; have KAu := Lib.hid (KA1.out.below hb KA1.out.lt); have KBu := Lib.hid (KB1.out.below hb KB1.out.lt); have KCu := Lib.hid (KC1.out.below hb KC1.out.lt); have BLu := Lib.hid (BL1.out.trans (hb.mono BL1.out.size)); have GSu : Hid (g + 3 ≤ u1.heap.size) := Lib.hid (Nat.le_trans GS1.out hb.size); have OWu0 : Hid (Own u1 (g + 3) u1.heap.size A1 n1 c1 xs) := Lib.hid ((OW0_1.out.below hb (Nat.le_refl _)).wide (Nat.le_refl _) hb.size); have OWu1 : Hid (Cls.OwnTC u1 (g + 3) u1.heap.size B1 m1 d1 ts) := Lib.hid (ho.wideS GS1.out (Nat.le_refl _)); have hd1 : u1.cell? ⟨(g + 1 + 1), 1, none⟩ = some (.slice none 0 0) := KCu.out.cell 1; have he1 := KCu.out.frozen 1; clear ho hb))
  clear hcl hd1 he1 KA1 KB1 KC1 BL1 GS1 OW0_1
  obtain ⟨v2, hv⟩ : ∃ v, v = u1.setCell ⟨(g + 1 + 1), 1, none⟩ (.slice B1 m1 d1) := ⟨_, rfl⟩
  have hgr : u1.grownBy v2 (some (g + 1 + 1)) := by rw [hv]; exact grown_setP _ _ _
  have hwi : Within (g + 2) (g + 3) u1 v2 := Within.of_grown hgr (by rintro k ⟨⟩; omega)
  have KA2 : Hid (Blk v2 g 65 #[.slice A n c, .slice B m d, .slice D q e, .int .i64 K, .int .i64 N]) := Lib.hid (by rw [hv]; exact KAu.out.far (by show g ≠ g + 1 + 1; omega) _)
  have KB2 : Hid (Blk v2 (g + 1) 58 #[.slice none 0 0, .slice none 0 0, .slice none 0 0, .int .i64 0, .int .i64 0]) := Lib.hid (by rw [hv]; exact KBu.out.far (by show g + 1 ≠ g + 1 + 1; omega) _)
  have KC2 : Hid (Blk v2 (g + 1 + 1) 58 #[.slice A1 n1 c1, .slice B1 m1 d1, .slice none 0 0, .int .i64 0, .int .i64 0]) := Lib.hid (by rw [hv]; exact KCu.out.set_ 1 _)
  have BL2 : Hid (Below w.heap.size w v2) := Lib.hid (BLu.out.grown hgr BLu.out.size (by rintro k ⟨⟩; have := HG.out; omega))
  have GS2 : Hid (g + 3 ≤ v2.heap.size) := Lib.hid (Nat.le_trans GSu.out hgr.size)
  have OW0_2 : Hid (Own v2 (g + 3) v2.heap.size A1 n1 c1 xs) := Lib.hid ((OWu0.out.within hwi (.inr (Nat.le_refl _))).wide (Nat.le_refl _) hgr.size)
  have OW1_2 : Hid (Cls.OwnTC v2 (g + 3) v2.heap.size B1 m1 d1 ts) := Lib.hid ((OWu1.out.within hwi (.inr (Nat.le_refl _))).wideS (Nat.le_refl _) hgr.size)
  rw [← hv]
  clear hv hgr hwi KAu KBu KCu BLu GSu OWu0 OWu1
  have hcl : v2.cell? ⟨g, 2, none⟩ = some (.slice D q e) := KA2.out.cell 2
  go_upto_region 5 with (first | (go_at_call 24; (with_reducible refine (HC2.out _ BL2.out).mono ?_); rintro e0 u2 ⟨D1, q1, e1, rfl, ho, hb⟩; have KAu := Lib.hid (KA2.out.below hb KA2.out.lt); have KBu := Lib.hid (KB2.out.below hb KB2.out.lt); have KCu := Lib.hid (KC2.out.below hb KC2.out.lt); have BLu := Lib.hid (BL2.out.trans (hb.mono BL2.out.size)); have GSu : Hid (g + 3 ≤ u2.heap.size) := Lib.hid (Nat.le_trans GS2.out hb.size); have OWu0 : Hid (Own u2 (g + 3) u2.heap.size A1 n1 c1 xs) := Lib.hid ((OW0_2.out.below hb (Nat.le_refl _)).wide (Nat.le_refl _) hb.size); have OWu1 : Hid (Cls.OwnTC u2 (g + 3) u2.heap.size B1 m1 d1 ts) := Lib.hid ((OW1_2.out.below hb (Nat.le_refl _)).wideS (Nat.le_refl _) hb.size); have OWu2 : Hid (Own u2 (g + 3) u2.heap.size D1 q1 e1 zs) := Lib.hid (ho.wide GS2.out (Nat.le_refl _)); have hd1 : u2.cell? ⟨(g + 1 + 1), 2, none⟩ = some (.slice none 0 0) := KCu.out.cell 2; have he1 := KCu.out.frozen 2; clear ho hb))
  clear hcl hd1 he1 KA2 KB2 KC2 BL2 GS2 OW0_2 OW1_2
  obtain ⟨v3, hv⟩ : ∃ v, v = u2.setCell ⟨(g + 1 + 1), 2, none⟩ (.slice D1 q1 e1) := ⟨_, rfl⟩
  have hgr : u2.grownBy v3 (some (g + 1 + 1)) := by rw [hv]; exact grown_setP _ _ _
  have hwi : Within (g + 2) (g + 3) u2 v3 := Within.of_grown hgr (by rintro k ⟨⟩; omega)
  have KA3 : Hid (Blk v3 g 65 #[.slice A n c, .slice B m d, .slice D q e, .int .i64 K, .int .i64 N]) := Lib.hid (by rw [hv]; exact KAu.out.far (by show g ≠ g + 1 + 1; omega) _)
  have KB3 : Hid (Blk v3 (g + 1) 58 #[.slice none 0 0, .slice none 0 0, .slice none 0 0, .int .i64 0, .int .i64 0]) := Lib.hid (by rw [hv]; exact KBu.out.far (by show g + 1 ≠ g + 1 + 1; omega) _)
  have KC3 : Hid (Blk v3 (g + 1 + 1) 58 #[.slice A1 n1 c1, .slice B1 m1 d1, .slice D1 q1 e1, .int .i64 0, .int .i64 0]) := Lib.hid (by rw [hv]; exact KCu.out.set_ 2 _)
  have BL3 : Hid (Below w.heap.size w v3) := Lib.hid (BLu.out.grown hgr BLu.out.size (by rintro k ⟨⟩; have := HG.out; omega))
  have GS3 : Hid (g + 3 ≤ v3.heap.size) := Lib.hid (Nat.le_trans GSu.out hgr.size)
  have OW0_3 : Hid (Own v3 (g + 3) v3.heap.size A1 n1 c1 xs) := Lib.hid ((OWu0.out.within hwi (.inr (Nat.le_refl _))).wide (Nat.le_refl _) hgr.size)
  have OW1_3 : Hid (Cls.OwnTC v3 (g + 3) v3.heap.size B1 m1 d1 ts) := Lib.hid ((OWu1.out.within hwi (.inr (Nat.le_refl _))).wideS (Nat.le_refl _) hgr.size)
  have OW2_3 : Hid (Own v3 (g + 3) v3.heap.size D1 q1 e1 zs) := Lib.hid ((OWu2.out.within hwi (.inr (Nat.le_refl _))).wide (Nat.le_refl _) hgr.size)
  rw [← hv]
  clear hv hgr hwi KAu KBu KCu BLu GSu OWu0 OWu1 OWu2
  have hc1 : v3.cell? ⟨g, 3, none⟩ = some (.int .i64 K) := KA3.out.cell 3
  have hc2 : v3.cell? ⟨(g + 1 + 1), 3, none⟩ = some (.int .i64 0) := KC3.out.cell 3
  have hf2 := KC3.out.frozen 3
  go_upto_region 6 with fail
  clear hc1 hc2 hf2
  have KAu := KA3
  have KBu := KB3
  have KCu := KC3
  have BLu := BL3
  have GSu := GS3
  have OWu0 := OW0_3
  have OWu1 := OW1_3
  have OWu2 := OW2_3
  clear KA3 KB3 KC3 BL3 GS3 OW0_3 OW1_3 OW2_3
  obtain ⟨v4, hv⟩ : ∃ v, v = v3.setCell ⟨(g + 1 + 1), 3, none⟩ (.int .i64 K) := ⟨_, rfl⟩
  have hgr : v3.grownBy v4 (some (g + 1 + 1)) := by rw [hv]; exact grown_setP _ _ _
  have hwi : Within (g + 2) (g + 3) v3 v4 := Within.of_grown hgr (by rintro k ⟨⟩; omega)
  have KA4 : Hid (Blk v4 g 65 #[.slice A n c, .slice B m d, .slice D q e, .int .i64 K, .int .i64 N]) := Lib.hid (by rw [hv]; exact KAu.out.far (by show g ≠ g + 1 + 1; omega) _)
  have KB4 : Hid (Blk v4 (g + 1) 58 #[.slice none 0 0, .slice none 0 0, .slice none 0 0, .int .i64 0, .int .i64 0]) := Lib.hid (by rw [hv]; exact KBu.out.far (by show g + 1 ≠ g + 1 + 1; omega) _)
  have KC4 : Hid (Blk v4 (g + 1 + 1) 58 #[.slice A1 n1 c1, .slice B1 m1 d1, .slice D1 q1 e1, .int .i64 K, .int .i64 0]) := Lib.hid (by rw [hv]; exact KCu.out.set_ 3 _)
  have BL4 : Hid (Below w.heap.size w v4) := Lib.hid (BLu.out.grown hgr BLu.out.size (by rintro k ⟨⟩; have := HG.out; omega))
  have GS4 : Hid (g + 3 ≤ v4.heap.size) := Lib.hid (Nat.le_trans GSu.out hgr.size)
  have OW0_4 : Hid (Own v4 (g + 3) v4.heap.size A1 n1 c1 xs) := Lib.hid ((OWu0.out.within hwi (.inr (Nat.le_refl _))).wide (Nat.le_refl _) hgr.size)
  have OW1_4 : Hid (Cls.OwnTC v4 (g + 3) v4.heap.size B1 m1 d1 ts) := Lib.hid ((OWu1.out.within hwi (.inr (Nat.le_refl _))).wideS (Nat.le_refl _) hgr.size)
  have OW2_4 : Hid (Own v4 (g + 3) v4.heap.size D1 q1 e1 zs) := Lib.hid ((OWu2.out.within hwi (.inr (Nat.le_refl _))).wide (Nat.le_refl _) hgr.size)
  rw [← hv]
  clear hv hgr hwi KAu KBu KCu BLu GSu OWu0 OWu1 OWu2
  have hc1 : v4.cell? ⟨g, 4, none⟩ = some (.int .i64 N) := KA4.out.cell 4
  have hc2 : v4.cell? ⟨(g + 1 + 1), 4, none⟩ = some (.int .i64 0) := KC4.out.cell 4
  have hf2 := KC4.out.frozen 4
  go_upto_region 7 with fail
  clear hc1 hc2 hf2
  have KAu := KA4
  have KBu := KB4
  have KCu := KC4
  have BLu := BL4
  have GSu := GS4
  have OWu0 := OW0_4
  have OWu1 := OW1_4
  have OWu2 := OW2_4
  clear KA4 KB4 KC4 BL4 GS4 OW0_4 OW1_4 OW2_4
  obtain ⟨v5, hv⟩ : ∃ v, v = v4.setCell ⟨(g + 1 + 1), 4, none⟩ (.int .i64 N) := ⟨_, rfl⟩
  have hgr : v4.grownBy v5 (some (g + 1 + 1)) := by rw [hv]; exact grown_setP _ _ _
  have hwi : Within (g + 2) (g + 3) v4 v5 := Within.of_grown hgr (by rintro k ⟨⟩; omega)
  have KA5 : Hid (Blk v5 g 65 #[.slice A n c, .slice B m d, .slice D q e, .int .i64 K, .int .i64 N]) := Lib.hid (by rw [hv]; exact KAu.out.far (by show g ≠ g + 1 + 1; omega) _)
  have KB5 : Hid (Blk v5 (g + 1) 58 #[.slice none 0 0, .slice none 0 0, .slice none 0 0, .int .i64 0, .int .i64 0]) := Lib.hid (by rw [hv]; exact KBu.out.far (by show g + 1 ≠ g + 1 + 1; omega) _)
  have KC5 : Hid (Blk v5 (g + 1 + 1) 58 #[.slice A1 n1 c1, .slice B1 m1 d1, .slice D1 q1 e1, .int .i64 K, .int .i64 N]) := Lib.hid (by rw [hv]; exact KCu.out.set_ 4 _)
  have BL5 : Hid (Below w.heap.size w v5) := Lib.hid (BLu.out.grown hgr BLu.out.size (by rintro k ⟨⟩; have := HG.out; omega))
  have GS5 : Hid (g + 3 ≤ v5.heap.size) := Lib.hid (Nat.le_trans GSu.out hgr.size)
  have OW0_5 : Hid (Own v5 (g + 3) v5.heap.size A1 n1 c1 xs) := Lib.hid ((OWu0.out.within hwi (.inr (Nat.le_refl _))).wide (Nat.le_refl _) hgr.size)
  have OW1_5 : Hid (Cls.OwnTC v5 (g + 3) v5.heap.size B1 m1 d1 ts) := Lib.hid ((OWu1.out.within hwi (.inr (Nat.le_refl _))).wideS (Nat.le_refl _) hgr.size)
  have OW2_5 : Hid (Own v5 (g + 3) v5.heap.size D1 q1 e1 zs) := Lib.hid ((OWu2.out.within hwi (.inr (Nat.le_refl _))).wide (Nat.le_refl _) hgr.size)
  rw [← hv]
  clear hv hgr hwi KAu KBu KCu BLu GSu OWu0 OWu1 OWu2
  go_wp2_with (first
    | (refine wpList_load_rowP rfl 58 (.tmp 3) rfl (g + 1 + 1) rfl 58 #[.slice A1 n1 c1, .slice B1 m1 d1, .slice D1 q1 e1, .int .i64 K, .int .i64 N] _ KC5.out Try.underlying58 rfl Try.infoSs ?_)
    | (refine wpList_store_rowP rfl 58 (.tmp 2) (.tmp 22) rfl (g + 1) #[.slice A1 n1 c1, .slice B1 m1 d1, .slice D1 q1 e1, .int .i64 K, .int .i64 N] rfl rfl 58 #[.slice none 0 0, .slice none 0 0, .slice none 0 0, .int .i64 0, .int .i64 0] KB5.out Try.infoSs rfl (by simp [Value.oneCell']) ?_; intro w5 hb5 hg5)
    | fail)
  refine bodyPost_ret (results_rowP Try.results50 _ _ _ 58 #[.slice A1 n1 c1, .slice B1 m1 d1, .slice D1 q1 e1, .int .i64 K, .int .i64 N] _ rfl hb5 Try.underlying58 rfl Try.infoSs) rfl ?_
  have l5 := hg5.size
  have hG := HG.out
  have hwi : Within (g + 1) (g + 2) v5 w5 := Within.of_grown hg5 (by rintro k ⟨⟩; omega)
  refine ⟨_, _, _, _, _, _, _, _, _, rfl, ?_, ?_, ?_, BL5.out.grown hg5 BL5.out.size (by rintro k ⟨⟩; omega)⟩
  · exact (OW0_5.out.within hwi (.inr (by omega))).wide (by omega) l5
  · exact (OW1_5.out.within hwi (.inr (by omega))).wideS (by omega) l5
  · exact (OW2_5.out.within hwi (.inr (by omega))).wide (by omega) l5
end Go.Proofs.Ytfaegfhbbkicgaa

/-
  Two sessions of equal contents compared. Conditions: lengths below 2^40.
-/

namespace Go.Proofs.Ytfaegfhbbkicgaa
open Go.RowKit

set_option maxRecDepth 100000 in
set_option maxHeartbeats 4000000 in
theorem eqSession_yes (A1 A2 A3 B1 B2 B3 : Option Addr) (n1 c1 n2 c2 n3 c3 m1 d1 m2 d2 m3 d3 : Nat) (K N : Int) (xs : List Int) (ts : List Tm) (zs : List Int) (w : World) (h1 : SI w A1 n1 xs) (h2 : TS w A2 n2 ts) (h3 : SI w A3 n3 zs) (k1 : SI w B1 m1 xs) (k2 : TS w B2 m2 ts) (k3 : SI w B3 m3 zs) (hx : xs.length ≤ 1099511627776) (ht : ts.length ≤ 1099511627776) (hte : ∀ k, k < ts.length → (tm ts k).1.length ≤ 1099511627776) (hz : zs.length ≤ 1099511627776) :
    Calls Try.prog 45 #[.agg #[.slice A1 n1 c1, .slice A2 n2 c2, .slice A3 n3 c3, .int .i64 K, .int .i64 N], .agg #[.slice B1 m1 d1, .slice B2 m2 d2, .slice B3 m3 d3, .int .i64 K, .int .i64 N]] w fun e0 w' => e0 = .returned (.bool true) ∧ Below w.heap.size w w' := by
  obtain ⟨w1, hw1⟩ : ∃ w1, w1 = ((w.alloc (.cells #[.slice A1 n1 c1, .slice A2 n2 c2, .slice A3 n3 c3, .int .i64 K, .int .i64 N] 58)).alloc (.cells #[.slice B1 m1 d1, .slice B2 m2 d2, .slice B3 m3 d3, .int .i64 K, .int .i64 N] 58)) := ⟨_, rfl⟩
  obtain ⟨g, hg⟩ : ∃ g, g = w.heap.size := ⟨_, rfl⟩
  have HK0 : Hid (Blk w1 (g) 58 #[.slice A1 n1 c1, .slice A2 n2 c2, .slice A3 n3 c3, .int .i64 K, .int .i64 N]) := Lib.hid (by rw [hw1, hg]; have := (Blk.new w 58 #[.slice A1 n1 c1, .slice A2 n2 c2, .slice A3 n3 c3, .int .i64 K, .int .i64 N]).alloc (.cells #[.slice B1 m1 d1, .slice B2 m2 d2, .slice B3 m3 d3, .int .i64 K, .int .i64 N] 58); simpa using this)
  have HK1 : Hid (Blk w1 (g + 1) 58 #[.slice B1 m1 d1, .slice B2 m2 d2, .slice B3 m3 d3, .int .i64 K, .int .i64 N]) := Lib.hid (by rw [hw1, hg]; have := Blk.new (w.alloc (.cells #[.slice A1 n1 c1, .slice A2 n2 c2, .slice A3 n3 c3, .int .i64 K, .int .i64 N] 58)) 58 #[.slice B1 m1 d1, .slice B2 m2 d2, .slice B3 m3 d3, .int .i64 K, .int .i64 N]; simpa using this)
  have hb : Below w.heap.size w w1 := by rw [hw1]; go_grown
  have HB := Lib.hid hb
  have HW := Lib.hid hw1
  have HG := Lib.hid hg
  have HSZ : Hid (w1.heap.size = g + 2) := Lib.hid (by rw [hw1, hg]; simp)
  have NA := Lib.hid (And.intro (And.intro h1.1 k1.1) (And.intro (And.intro h2.1 k2.1) (And.intro h3.1 k3.1)))
  have HL := Lib.hid (And.intro hx (And.intro ht (And.intro hte hz)))
  have l1 : n1 ≤ 1099511627776 ∧ m1 ≤ 1099511627776 := by have := h1.1; have := k1.1; omega
  have l2 : n2 ≤ 1099511627776 ∧ m2 ≤ 1099511627776 := by have := h2.1; have := k2.1; omega
  have l3 : n3 ≤ 1099511627776 ∧ m3 ≤ 1099511627776 := by have := h3.1; have := k3.1; omega
  have l4 : (∀ k, k < n2 → (tm ts k).1.length ≤ 1099511627776) ∧ (∀ k, k < m2 → (tm ts k).1.length ≤ 1099511627776) := ⟨fun k hk => hte k (by have := h2.1; omega), fun k hk => hte k (by have := k2.1; omega)⟩
  have HE := Lib.hid (fun u (hu : Below w1.heap.size w1 u) => eqIntS_any A1 B1 n1 c1 m1 d1 xs xs u ((h1.below hb (Nat.le_refl _)).below hu (Nat.le_refl _)) ((k1.below hb (Nat.le_refl _)).below hu (Nat.le_refl _)) l1.1 l1.2)
  have HF := Lib.hid (fun u (hu : Below w1.heap.size w1 u) => eqIntS_any A3 B3 n3 c3 m3 d3 zs zs u ((h3.below hb (Nat.le_refl _)).below hu (Nat.le_refl _)) ((k3.below hb (Nat.le_refl _)).below hu (Nat.le_refl _)) l3.1 l3.2)
  have HC := Lib.hid (fun u (hu : Below w1.heap.size w1 u) => Cls.eqTermS_anyC A2 B2 n2 c2 m2 d2 ts ts u ((h2.below hb (Nat.le_refl _)).below hu (Nat.le_refl _)) ((k2.below hb (Nat.le_refl _)).below hu (Nat.le_refl _)) l2.1 l2.2 l4.1 l4.2)
  rw [eqL_self] at HE HF
  rw [eqTs_self] at HC
  obtain ⟨q0, q1, q2, q3, q4⟩ := cells5 HK0.out
  obtain ⟨r0, r1, r2, r3, r4⟩ := cells5 HK1.out
  clear hw1 hg hb h1 k1 h2 k2 h3 k3 l1 l2 l3 l4 NA HL hx ht hte hz
  go_enter Try.func45, Try.ntmps45
  go_upto_region 1 with fail
  rw [← HW.out, ← HG.out]
  go_wp2_with (first
    | (go_at_call 18; (with_reducible refine (HE.out _ (Below.refl _ _)).mono ?_); rintro e0 w2 ⟨rfl, hd⟩; have HB2 := Lib.hid (hd.below w1.heap.size); clear hd q0 q1 q2 q3 q4 r0 r1 r2 r3 r4; obtain ⟨q0, q1, q2, q3, q4⟩ := cells5 (HK0.out.below HB2.out HK0.out.lt); obtain ⟨r0, r1, r2, r3, r4⟩ := cells5 (HK1.out.below HB2.out HK1.out.lt))
    | (go_at_call 103; (with_reducible refine (HC.out _ HB2.out).mono ?_); rintro e0 w3 ⟨rfl, hd⟩; have HB3 : Hid (Below w1.heap.size w1 w3) := Lib.hid (HB2.out.trans (hd.mono HB2.out.size)); clear hd q0 q1 q2 q3 q4 r0 r1 r2 r3 r4; obtain ⟨q0, q1, q2, q3, q4⟩ := cells5 (HK0.out.below HB3.out HK0.out.lt); obtain ⟨r0, r1, r2, r3, r4⟩ := cells5 (HK1.out.below HB3.out HK1.out.lt))
    | (go_at_call 18; (with_reducible refine (HF.out _ HB3.out).mono ?_); rintro e0 w4 ⟨rfl, hd⟩; have HB4 : Hid (Below w1.heap.size w1 w4) := Lib.hid (HB3.out.trans (hd.below _)); clear hd q0 q1 q2 q3 q4 r0 r1 r2 r3 r4; obtain ⟨q0, q1, q2, q3, q4⟩ := cells5 (HK0.out.below HB4.out HK0.out.lt); obtain ⟨r0, r1, r2, r3, r4⟩ := cells5 (HK1.out.below HB4.out HK1.out.lt)))
  go_ret
  exact ⟨rfl, HB.out.trans (HB4.out.mono HB.out.size)⟩
end Go.Proofs.Ytfaegfhbbkicgaa

/-
  SessionOk on both sides. Conditions: lengths below 2^40.
-/

namespace Go.Proofs.Ytfaegfhbbkicgaa
open Go.RowKit

/-- Whether this is a session: a permutation, classes, a shape in its box. -/
def sessB (xs : List Int) (ts : List Tm) (zs : List Int) (K N : Int) : Bool := isPermB xs && (classesB ts && boxB zs K N)
set_option maxRecDepth 100000 in
set_option maxHeartbeats 4000000 in
theorem specSessionOk_any (A B D : Option Addr) (n c m d q e : Nat) (K N : Int) (xs : List Int) (ts : List Tm) (zs : List Int) (w : World) (hA : SI w A n xs) (hB : TS w B m ts) (hD : SI w D q zs) (hn : n ≤ 1099511627776) (hm : m ≤ 1099511627776) (hme : ∀ k, k < m → (tm ts k).1.length ≤ 1099511627776) (hq : q ≤ 1099511627776) (hnc : n ≤ c) :
    Calls Try.prog 49 #[.agg #[.slice A n c, .slice B m d, .slice D q e, .int .i64 K, .int .i64 N]] w fun e0 w' => e0 = .returned (.bool (sessB xs ts zs K N)) ∧ Below w.heap.size w w' := by
  obtain ⟨w1, hw1⟩ : ∃ w1, w1 = (w.alloc (.cells #[.slice A n c, .slice B m d, .slice D q e, .int .i64 K, .int .i64 N] 58)) := ⟨_, rfl⟩
  obtain ⟨g, hg⟩ : ∃ g, g = w.heap.size := ⟨_, rfl⟩
  have HK0 : Hid (Blk w1 (g) 58 #[.slice A n c, .slice B m d, .slice D q e, .int .i64 K, .int .i64 N]) := Lib.hid (by rw [hw1, hg]; have := Blk.new w 58 #[.slice A n c, .slice B m d, .slice D q e, .int .i64 K, .int .i64 N]; simpa using this)
  have hb : Below w.heap.size w w1 := by rw [hw1]; go_grown
  have HB := Lib.hid hb
  have HW := Lib.hid hw1
  have HG := Lib.hid hg
  have HSZ : Hid (w1.heap.size = g + 1) := Lib.hid (by rw [hw1, hg]; simp)
  have HP := Lib.hid (specIsPerm_any A n c xs w1 (hA.below hb (Nat.le_refl _)) hnc hn)
  have HC := Lib.hid (fun u (hu : Below w1.heap.size w1 u) => specClasses_any B m d ts u ((hB.below hb (Nat.le_refl _)).below hu (Nat.le_refl _)) hm hme)
  have HX := Lib.hid (fun u (hu : Below w1.heap.size w1 u) => l4Box_any D q e zs K N u ((hD.below hb (Nat.le_refl _)).below hu (Nat.le_refl _)) hq)
  obtain ⟨q0, q1, q2, q3, q4⟩ := cells5 HK0.out
  clear hw1 hg hb hA hB hD
  cases h1 : isPermB xs with
  | false =>
    rw [h1] at HP
    have H1 := Lib.hid h1
    clear h1
    go_enter Try.func49, Try.ntmps49
    go_upto_region 1 with fail
    rw [← HW.out, ← HG.out]
    go_wp2_with (first
      | (go_at_call 107; (with_reducible refine HP.out.mono ?_); rintro e0 w2 ⟨rfl, hd⟩; have HB2 : Hid (Below w1.heap.size w1 w2) := Lib.hid (hd.below _); clear hd q0 q1 q2 q3 q4; obtain ⟨q0, q1, q2, q3, q4⟩ := cells5 (HK0.out.below HB2.out HK0.out.lt)))
    go_ret
    exact ⟨by rw [sessB, H1.out]; rfl, HB.out.trans (HB2.out.mono HB.out.size)⟩
  | true =>
    rw [h1] at HP
    have H1 := Lib.hid h1
    clear h1
    cases h2 : classesB ts with
    | false =>
      rw [h2] at HC
      have H2 := Lib.hid h2
      clear h2
      go_enter Try.func49, Try.ntmps49
      go_upto_region 1 with fail
      rw [← HW.out, ← HG.out]
      go_wp2_with (first
        | (go_at_call 107; (with_reducible refine HP.out.mono ?_); rintro e0 w2 ⟨rfl, hd⟩; have HB2 : Hid (Below w1.heap.size w1 w2) := Lib.hid (hd.below _); clear hd q0 q1 q2 q3 q4; obtain ⟨q0, q1, q2, q3, q4⟩ := cells5 (HK0.out.below HB2.out HK0.out.lt))
        | (go_at_call 108; (with_reducible refine (HC.out _ HB2.out).mono ?_); rintro e0 w3 ⟨rfl, hd⟩; have HB3 : Hid (Below w1.heap.size w1 w3) := Lib.hid (HB2.out.trans (hd.mono HB2.out.size)); clear hd q0 q1 q2 q3 q4; obtain ⟨q0, q1, q2, q3, q4⟩ := cells5 (HK0.out.below HB3.out HK0.out.lt)))
      go_ret
      exact ⟨by rw [sessB, H1.out, H2.out]; rfl, HB.out.trans (HB3.out.mono HB.out.size)⟩
    | true =>
      rw [h2] at HC
      have H2 := Lib.hid h2
      clear h2
      go_enter Try.func49, Try.ntmps49
      go_upto_region 1 with fail
      rw [← HW.out, ← HG.out]
      go_wp2_with (first
        | (go_at_call 107; (with_reducible refine HP.out.mono ?_); rintro e0 w2 ⟨rfl, hd⟩; have HB2 : Hid (Below w1.heap.size w1 w2) := Lib.hid (hd.below _); clear hd q0 q1 q2 q3 q4; obtain ⟨q0, q1, q2, q3, q4⟩ := cells5 (HK0.out.below HB2.out HK0.out.lt))
        | (go_at_call 108; (with_reducible refine (HC.out _ HB2.out).mono ?_); rintro e0 w3 ⟨rfl, hd⟩; have HB3 : Hid (Below w1.heap.size w1 w3) := Lib.hid (HB2.out.trans (hd.mono HB2.out.size)); clear hd q0 q1 q2 q3 q4; obtain ⟨q0, q1, q2, q3, q4⟩ := cells5 (HK0.out.below HB3.out HK0.out.lt))
        | (go_at_call 64; (with_reducible refine (HX.out _ HB3.out).mono ?_); rintro e0 w4 ⟨rfl, hd⟩; have HB4 : Hid (Below w1.heap.size w1 w4) := Lib.hid (HB3.out.trans (hd.below _)); clear hd q0 q1 q2 q3 q4; obtain ⟨q0, q1, q2, q3, q4⟩ := cells5 (HK0.out.below HB4.out HK0.out.lt)))
      go_ret
      exact ⟨by rw [sessB, H1.out, H2.out]; rfl, HB.out.trans (HB4.out.mono HB.out.size)⟩
set_option maxRecDepth 100000 in
set_option maxHeartbeats 4000000 in
theorem implSessionOk_any (A B D : Option Addr) (n c m d q e : Nat) (K N : Int) (xs : List Int) (ts : List Tm) (zs : List Int) (w : World) (hA : SI w A n xs) (hB : TS w B m ts) (hD : SI w D q zs) (hn : n ≤ 1099511627776) (hm : m ≤ 1099511627776) (hme : ∀ k, k < m → (tm ts k).1.length ≤ 1099511627776) (hq : q ≤ 1099511627776) :
    Calls Try.prog 51 #[.agg #[.slice A n c, .slice B m d, .slice D q e, .int .i64 K, .int .i64 N]] w fun e0 w' => e0 = .returned (.bool (sessB xs ts zs K N)) ∧ Below w.heap.size w w' := by
  obtain ⟨w1, hw1⟩ : ∃ w1, w1 = (w.alloc (.cells #[.slice A n c, .slice B m d, .slice D q e, .int .i64 K, .int .i64 N] 58)) := ⟨_, rfl⟩
  obtain ⟨g, hg⟩ : ∃ g, g = w.heap.size := ⟨_, rfl⟩
  have HK0 : Hid (Blk w1 (g) 58 #[.slice A n c, .slice B m d, .slice D q e, .int .i64 K, .int .i64 N]) := Lib.hid (by rw [hw1, hg]; have := Blk.new w 58 #[.slice A n c, .slice B m d, .slice D q e, .int .i64 K, .int .i64 N]; simpa using this)
  have hb : Below w.heap.size w w1 := by rw [hw1]; go_grown
  have HB := Lib.hid hb
  have HW := Lib.hid hw1
  have HG := Lib.hid hg
  have HSZ : Hid (w1.heap.size = g + 1) := Lib.hid (by rw [hw1, hg]; simp)
  have HP := Lib.hid (implIsPerm_any A n c xs w1 (hA.below hb (Nat.le_refl _)) hn)
  have HC := Lib.hid (fun u (hu : Below w1.heap.size w1 u) => implClasses_any B m d ts u ((hB.below hb (Nat.le_refl _)).below hu (Nat.le_refl _)) hm hme)
  have HX := Lib.hid (fun u (hu : Below w1.heap.size w1 u) => fitsInto_any D q e zs K N u ((hD.below hb (Nat.le_refl _)).below hu (Nat.le_refl _)) hq)
  obtain ⟨q0, q1, q2, q3, q4⟩ := cells5 HK0.out
  clear hw1 hg hb hA hB hD
  cases h1 : isPermB xs with
  | false =>
    rw [h1] at HP
    have H1 := Lib.hid h1
    clear h1
    go_enter Try.func51, Try.ntmps51
    go_upto_region 1 with fail
    rw [← HW.out, ← HG.out]
    go_wp2_with (first
      | (go_at_call 110; (with_reducible refine HP.out.mono ?_); rintro e0 w2 ⟨rfl, hd⟩; have HB2 : Hid (Below w1.heap.size w1 w2) := Lib.hid hd; clear hd q0 q1 q2 q3 q4; obtain ⟨q0, q1, q2, q3, q4⟩ := cells5 (HK0.out.below HB2.out HK0.out.lt)))
    go_ret
    exact ⟨by rw [sessB, H1.out]; rfl, HB.out.trans (HB2.out.mono HB.out.size)⟩
  | true =>
    rw [h1] at HP
    have H1 := Lib.hid h1
    clear h1
    cases h2 : classesB ts with
    | false =>
      rw [h2] at HC
      have H2 := Lib.hid h2
      clear h2
      go_enter Try.func51, Try.ntmps51
      go_upto_region 1 with fail
      rw [← HW.out, ← HG.out]
      go_wp2_with (first
        | (go_at_call 110; (with_reducible refine HP.out.mono ?_); rintro e0 w2 ⟨rfl, hd⟩; have HB2 : Hid (Below w1.heap.size w1 w2) := Lib.hid hd; clear hd q0 q1 q2 q3 q4; obtain ⟨q0, q1, q2, q3, q4⟩ := cells5 (HK0.out.below HB2.out HK0.out.lt))
        | (go_at_call 111; (with_reducible refine (HC.out _ HB2.out).mono ?_); rintro e0 w3 ⟨rfl, hd⟩; have HB3 : Hid (Below w1.heap.size w1 w3) := Lib.hid (HB2.out.trans (hd.mono HB2.out.size)); clear hd q0 q1 q2 q3 q4; obtain ⟨q0, q1, q2, q3, q4⟩ := cells5 (HK0.out.below HB3.out HK0.out.lt)))
      go_ret
      exact ⟨by rw [sessB, H1.out, H2.out]; rfl, HB.out.trans (HB3.out.mono HB.out.size)⟩
    | true =>
      rw [h2] at HC
      have H2 := Lib.hid h2
      clear h2
      go_enter Try.func51, Try.ntmps51
      go_upto_region 1 with fail
      rw [← HW.out, ← HG.out]
      go_wp2_with (first
        | (go_at_call 110; (with_reducible refine HP.out.mono ?_); rintro e0 w2 ⟨rfl, hd⟩; have HB2 : Hid (Below w1.heap.size w1 w2) := Lib.hid hd; clear hd q0 q1 q2 q3 q4; obtain ⟨q0, q1, q2, q3, q4⟩ := cells5 (HK0.out.below HB2.out HK0.out.lt))
        | (go_at_call 111; (with_reducible refine (HC.out _ HB2.out).mono ?_); rintro e0 w3 ⟨rfl, hd⟩; have HB3 : Hid (Below w1.heap.size w1 w3) := Lib.hid (HB2.out.trans (hd.mono HB2.out.size)); clear hd q0 q1 q2 q3 q4; obtain ⟨q0, q1, q2, q3, q4⟩ := cells5 (HK0.out.below HB3.out HK0.out.lt))
        | (go_at_call 67; (with_reducible refine (HX.out _ HB3.out).mono ?_); rintro e0 w4 ⟨rfl, hd⟩; have HB4 : Hid (Below w1.heap.size w1 w4) := Lib.hid (HB3.out.trans (hd.below _)); clear hd q0 q1 q2 q3 q4; obtain ⟨q0, q1, q2, q3, q4⟩ := cells5 (HK0.out.below HB4.out HK0.out.lt)))
      go_ret
      exact ⟨by rw [sessB, H1.out, H2.out]; rfl, HB.out.trans (HB4.out.mono HB.out.size)⟩
end Go.Proofs.Ytfaegfhbbkicgaa

/-
  Opening a slice of terms that came in. No conditions.
-/



namespace Go.Proofs.Ytfaegfhbbkicgaa
open Go.ChangeShapes Go.WideShapes Go.ChangeAt Go.RowKit

end Go.Proofs.Ytfaegfhbbkicgaa

/-
  TermFrame, for values of type Class instead of terms (made by wip/gen/gen_cls.py). Conditions: lengths below 2^40.
-/




namespace Go.Proofs.Ytfaegfhbbkicgaa.Cls
open Go.RowKit
open Go.ChangeShapes Go.WideShapes Go.ChangeAt Go.RowKit

theorem TS.of_trodC {H : Type} {enc : TypeId × Value → H} {W : World} {q : Nat} {f : Nat → Bool} {a0 : Option Addr} {len0 cap0 : Nat} {d : DataW H} {p : List MemPlace}
    (h0 : DataW.Trod enc Try.prog W q f true 63 (.slice a0 len0 cap0) d p) : ∃ ts, TS W a0 len0 ts ∧ len0 ≤ 9223372036854775807 ∧ (∀ k, k < len0 → (tm ts k).1.length ≤ 9223372036854775807) := by
  obtain ⟨fuel, hf⟩ := h0
  rcases Go.Deep.open_slice_pairs Try.underlying63 Try.underlying153 (by kernel_rfl) rfl rfl (by kernel_rfl) (by kernel_rfl) hf with ⟨hcs, _⟩ | ⟨a, len, cap, m, n, V0, V1, D0, D1, P0, P1, hcs, hb, hl, hm, hmm, _, hx⟩
  · simp [Value.cells] at hcs
    obtain ⟨rfl, rfl, rfl⟩ := hcs
    exact ⟨[], TS.nil _ _, by omega, fun k hk => absurd hk (by omega)⟩
  · simp [Value.cells] at hcs
    obtain ⟨rfl, rfl, rfl⟩ := hcs
    have hlm : len0 ≤ m := by rw [hmm]; split <;> omega
    have each : ∀ i, i < len0 → ∃ t : Tm, ∃ A' n' c', V0 i = .slice A' n' c' ∧ V1 i = .int .i64 t.2 ∧ SI W A' n' t.1 ∧ n' ≤ c' ∧ (A' = none → n' = 0 ∧ c' = 0) ∧ n' ≤ 9223372036854775807 := by
      intro i hi
      obtain ⟨h1, h2, h3, h4⟩ := hx i (by omega)
      obtain ⟨z, hz, _, _⟩ := DataW.trod_int Try.underlying3 h4
      rcases open_ints Try.underlying22 Try.underlying3 (by kernel_rfl) h3 with ⟨hcs, _⟩ | ⟨x, l, c, zs, hcs, _, hl, hm, hzs, _, hcell, _⟩
      · exact ⟨([], z), none, 0, 0, by simpa using hcs, by simpa using hz, SI.nil _ _, Nat.le_refl _, (fun _ => ⟨rfl, rfl⟩), by omega⟩
      · exact ⟨(zs.take l, z), some x, l, c, by simpa using hcs, by simpa using hz, SI.of_cells (by rw [hzs]; split <;> omega) hcell, hl, (fun h => by cases h), by unfold maxLen at hm; omega⟩
    obtain ⟨T, hT⟩ := Go.Deep.choose_lt each
    refine ⟨(List.range len0).map T, ⟨by simp, fun hn => ?_⟩, by unfold maxLen at hm; omega, fun k hk => ?_⟩
    · obtain ⟨b, o, s⟩ := a
      obtain ⟨h1, _⟩ := hx 0 (by omega)
      have hs : s = none := by simpa [Addr.add] using World.cell?_spot h1
      subst hs
      refine ⟨b, o, rfl, block_lt_of_cell (a := ⟨b, o, none⟩) (by simpa [Addr.add] using h1), fun k hk => ?_⟩
      obtain ⟨A', n', c', e0, e1, hsi, hnc, hnil, _⟩ := hT k hk
      obtain ⟨h1, h2, _, _⟩ := hx k (by omega)
      rw [add_pt] at h1 h2
      have et : tm ((List.range len0).map T) k = T k := by simp [tm, List.getD, hk]
      rw [et]
      exact ⟨A', n', c', by rw [h1, e0], by rw [← e1, ← h2]; rfl, hsi, hnc, hnil⟩
    · obtain ⟨A', n', c', _, _, hsi, _, _, hle⟩ := hT k hk
      have et : tm ((List.range len0).map T) k = T k := by simp [tm, List.getD, hk]
      rw [et, hsi.1]
      exact hle
end Go.Proofs.Ytfaegfhbbkicgaa.Cls

/-
  Opening a session that came in. No conditions.
-/




namespace Go.Proofs.Ytfaegfhbbkicgaa
open Go.ChangeShapes Go.WideShapes Go.ChangeAt Go.RowKit

theorem open_ints_ {H : Type} {enc : TypeId × Value → H} {W : World} {q : Nat} {f : Nat → Bool} {fuel : Nat} {v : Value} {y : DataW H × List MemPlace} (h : DataW.trod enc Try.prog W q f true fuel 22 [v] = some y) : ∃ A n c l, v = .slice A n c ∧ SI W A n l ∧ n ≤ 9223372036854775807 := by
  rcases open_ints Try.underlying22 Try.underlying3 (by kernel_rfl) h with ⟨hcs, _⟩ | ⟨x, l, c, zs, hcs, _, hl, hm, hzs, _, hcell, _⟩
  · exact ⟨none, 0, 0, [], by simpa using hcs, SI.nil _ _, by omega⟩
  · exact ⟨some x, l, c, zs.take l, by simpa using hcs, SI.of_cells (by rw [hzs]; split <;> omega) hcell, by unfold maxLen at hm; omega⟩
theorem SX.of_trod {H : Type} {enc : TypeId × Value → H} {W : World} {q0 : Nat} {f : Nat → Bool} {cs : Array Value} {y : DataW H} {p : List MemPlace} (hsz : cs.size = 5)
    (h0 : DataW.Trod enc Try.prog W q0 f true 65 (.agg cs) y p) : ∃ (A B D : Option Addr) (n c m d q e : Nat) (K N : Int) (xs : List Int) (ts : List Tm) (zs : List Int), cs = #[.slice A n c, .slice B m d, .slice D q e, .int .i64 K, .int .i64 N] ∧ SI W A n xs ∧ n ≤ 9223372036854775807 ∧
      TS W B m ts ∧ m ≤ 9223372036854775807 ∧ (∀ k, k < m → (tm ts k).1.length ≤ 9223372036854775807) ∧ SI W D q zs ∧ q ≤ 9223372036854775807 := by
  obtain ⟨v0, v1, v2, v3, v4, rfl⟩ : ∃ v0 v1 v2 v3 v4, cs = #[v0, v1, v2, v3, v4] := by
    obtain ⟨l⟩ := cs
    match l, hsz with
    | [a, b, c, d, e], _ => exact ⟨a, b, c, d, e, rfl⟩
  obtain ⟨fuel, hf⟩ := h0
  obtain ⟨ys, j, _, _, _, hlen, hx⟩ := DataW.trod_struct Try.underlying65 hf
  have e0 := hx 0 _ rfl
  have e1 := hx 1 _ rfl
  have e2 := hx 2 _ rfl
  have e3 := hx 3 _ rfl
  have e4 := hx 4 _ rfl
  obtain ⟨y0, y1, y2, y3, y4, rfl⟩ : ∃ y0 y1 y2 y3 y4, ys = [y0, y1, y2, y3, y4] := by
    match ys, hlen with
    | [a, b, c, d, e], _ => exact ⟨a, b, c, d, e, rfl⟩
  have ci : Try.prog.cellsOf 3 = 1 := by kernel_rfl
  have cs : Try.prog.cellsOf 22 = 1 := by kernel_rfl
  have cc : Try.prog.cellsOf 63 = 1 := by kernel_rfl
  have k0 : DataW.trod enc Try.prog W q0 f true j 22 [v0] = some y0 := by simpa [ci, cs, cc, Value.cells] using e0
  have k1 : DataW.trod enc Try.prog W q0 f true j 63 [v1] = some y1 := by simpa [ci, cs, cc, Value.cells] using e1
  have k2 : DataW.trod enc Try.prog W q0 f true j 22 [v2] = some y2 := by simpa [ci, cs, cc, Value.cells] using e2
  have k3 : DataW.trod enc Try.prog W q0 f true j 3 [v3] = some y3 := by simpa [ci, cs, cc, Value.cells] using e3
  have k4 : DataW.trod enc Try.prog W q0 f true j 3 [v4] = some y4 := by simpa [ci, cs, cc, Value.cells] using e4
  obtain ⟨A, n, c, xs, rfl, sA, bA⟩ := open_ints_ k0
  obtain ⟨D, q, e, zs, rfl, sD, bD⟩ := open_ints_ k2
  obtain ⟨z3, hz3, _, _⟩ := DataW.trod_int Try.underlying3 k3
  obtain ⟨z4, hz4, _, _⟩ := DataW.trod_int Try.underlying3 k4
  obtain rfl : v3 = .int .i64 z3 := by simpa using hz3
  obtain rfl : v4 = .int .i64 z4 := by simpa using hz4
  obtain ⟨B, m, d, rfl⟩ : ∃ B m d, v1 = .slice B m d := by
    rcases Go.Deep.open_slice_pairs Try.underlying63 Try.underlying153 (by kernel_rfl) rfl rfl (by kernel_rfl) (by kernel_rfl) k1 with ⟨hcs, _⟩ | ⟨a, len, cap, _, _, _, _, _, _, _, _, hcs, _⟩
    · exact ⟨none, 0, 0, by simpa using hcs⟩
    · exact ⟨some a, len, cap, by simpa using hcs⟩
  obtain ⟨y1a, y1b⟩ := y1
  obtain ⟨ts, sB, bB, bE⟩ := Cls.TS.of_trodC (d := y1a) (p := y1b) (cap0 := d) ⟨j, k1⟩
  exact ⟨A, B, D, n, c, m, d, q, e, z3, z4, xs, ts, zs, rfl, sA, bA, sB, bB, bE, sD, bD⟩
end Go.Proofs.Ytfaegfhbbkicgaa
