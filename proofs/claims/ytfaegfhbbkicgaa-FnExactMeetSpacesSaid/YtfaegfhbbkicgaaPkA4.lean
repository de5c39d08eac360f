/-
  Texts PosJ to MeetI, merged. Conditions: as each says.
-/
import Derived.Deep.AppendLies
import Derived.Lib.AppendZerosOnto
import Derived.Laws.CopyRow
import Derived.Deep.RegionHeld3
import Derived.Test.YtfaegfhbbkicgaaPkA3
/-
  Positions of spaces on the program's side. Conditions: lengths below 2^40.
-/



namespace Go.Proofs.Ytfaegfhbbkicgaa
open Go.RowKit

theorem flat_rg {p : Int} {C : Nat} {E : List (List Int × Int)} (hp : P7 p) (hE : ∀ e, e ∈ E → e.1.length = C ∧ Rg p e.1 ∧ 0 ≤ e.2 ∧ e.2 < C) (hl : E.length = C) : Rg p (flatK C C (E.map (·.1)) C) := fun q => by
  have hp2 := hp.two
  by_cases hq : q < C * C
  · rw [flatK_nth hq]
    split
    · rename_i h
      have hj : q / C < E.length := by omega
      rw [li_get (by simpa using hj)]
      simp only [List.getElem_map]
      exact (hE _ (List.getElem_mem hj)).2.1 _
    · omega
  · rw [nth_past (by rw [flatK_len]; omega)]; omega
end Go.Proofs.Ytfaegfhbbkicgaa

/-
  The relative position on the program's side. Conditions: lengths below 2^40.
-/




namespace Go.Proofs.Ytfaegfhbbkicgaa
open Go.RowKit

theorem rnk_nf {p : Int} {C : Nat} {xs : List Int} (hp : P7 p) (hx : Rg p xs) (hxf : (echel p (rowsC xs C C C)).length = C) {i : Nat} (hi : i ≤ C) : rnkL p (rowsC (nfX p C xs) C i C) = i := by
  have hA := rowsC_ok (p := p) (d := xs) (by have := hp.two; omega) hx C C C
  have hE := (echel_ok hp hA).1.1
  have hf : (echel p (rowsC xs C C C)).length = (rowsC xs C C C).length := by rw [hxf, rowsC_len]
  have e1 : rowsC (nfX p C xs) C i C = ((echel p (rowsC xs C C C)).map (·.1)).take i := by
    unfold nfX
    exact flat_rows (fun e he => (hE e he).1) hxf hi
  have hN : ∀ y, y ∈ ((echel p (rowsC xs C C C)).map (·.1)).take i → y.length = C ∧ Rg p y := fun y hy => by
    obtain ⟨e, he, rfl⟩ := List.mem_map.1 (List.mem_of_mem_take hy)
    exact ⟨(hE e he).1, (hE e he).2.1⟩
  have hT : ∀ y, y ∈ (rowsC xs C C C).take i → y.length = C ∧ Rg p y := fun y hy => hA y (List.mem_of_mem_take hy)
  have hs := sp_take hp hA hf (i := i) (by rw [rowsC_len]; exact hi)
  rw [e1, rank_span hp hN hT hs]
  exact rank_take hf (by rw [rowsC_len]; exact hi)
theorem nfX_facts {p : Int} {C : Nat} {xs : List Int} (hp : P7 p) (hx : Rg p xs) (hxf : (echel p (rowsC xs C C C)).length = C) : (nfX p C xs).length = C * C ∧ Rg p (nfX p C xs) := by
  have hA := rowsC_ok (p := p) (d := xs) (by have := hp.two; omega) hx C C C
  have hE := (echel_ok hp hA).1.1
  exact ⟨by unfold nfX; rw [flatK_len], by unfold nfX; exact flat_rg hp hE hxf⟩
/-- What the program reckons with both normal forms. -/
theorem rel_cm {p : Int} {C : Nat} {xs ys : List Int} (hp : P7 p) (hx : Rg p xs) (hy : Rg p ys) (hxf : (echel p (rowsC xs C C C)).length = C) (hyf : (echel p (rowsC ys C C C)).length = C) {i j : Nat} (hi : i ≤ C) (hj : j ≤ C) :
    (i : Int) + (j : Int) - (rnkL p (rowsC (nfX p C ys) C j C ++ rowsC (nfX p C xs) C i C) : Int) = cmF p C xs ys i j := by
  have hp2 := hp.two
  have hyo := rowsC_ok (p := p) (d := ys) (by omega) hy C C C
  have hyoj := rowsC_ok (p := p) (d := ys) (by omega) hy C j C
  have hEk := (echel_ok hp hyo).1.1
  have hn := nfX_facts hp hx hxf
  have hS := rowsC_ok (p := p) (d := nfX p C xs) (by omega) hn.2 C i C
  have e1 : rowsC (nfX p C ys) C j C = ((echel p (rowsC ys C C C)).map (·.1)).take j := by
    unfold nfX
    exact flat_rows (fun e he => (hEk e he).1) hyf hj
  have h1 := common_same (R := i) hp hy hyf hS (rowsC_len ..) (rnk_nf hp hx hxf hi) hj
  rw [e1, h1, cmn_nf hp hx hyoj hxf hi]
  rfl
/-- The answer when the columns as far as j of the row i are looked at. -/
def relQ (p : Int) (C : Nat) (xs ys : List Int) (i j : Nat) : List Int := if jmp p C (rowsC xs C C C) (rowsC ys C C C) i < j then relP p C xs ys (i + 1) else relP p C xs ys i
set_option maxRecDepth 100000 in
set_option maxHeartbeats 16000000 in
theorem implRelativePosition_yes (p : Int) (C : Nat) (A A' : Option Addr) (n k n' k' : Nat) (xs ys : List Int) (w : World) (hs : SI w A n xs) (hs' : SI w A' n' ys) (hn : n ≤ 1099511627776) (hn' : n' ≤ 1099511627776) (hnk : n ≤ k) (hnk' : n' ≤ k') (hyes : pairB p C C xs p C C ys = true) (hfx : flagB p C C xs = true) (hfy : flagB p C C ys = true) (hp7 : P7 p) (hC1 : 1 ≤ C) (hC7 : C ≤ 7) (_hxl : xs.length = C * C) (_hyl : ys.length = C * C) (hxr : Rg p xs) (hyr : Rg p ys) (hxf : (echel p (rowsC xs C C C)).length = C) (hyf : (echel p (rowsC ys C C C)).length = C) :
    Calls Try.prog 17 #[.agg #[.int .i64 p, .int .i64 C, .int .i64 C, .slice A n k], .agg #[.int .i64 p, .int .i64 C, .int .i64 C, .slice A' n' k']] w fun e w' => Fresh w w' e (relW p C C xs p C C ys) := by
  obtain ⟨w1, hw1⟩ : ∃ w1, w1 = ((w.alloc (.cells #[.int .i64 p, .int .i64 C, .int .i64 C, .slice A n k] 27)).alloc (.cells #[.int .i64 p, .int .i64 C, .int .i64 C, .slice A' n' k'] 27)) := ⟨_, rfl⟩
  obtain ⟨g, hg⟩ : ∃ g, g = w.heap.size := ⟨_, rfl⟩
  have HK0 : Hid (Blk w1 (g) 27 #[.int .i64 p, .int .i64 C, .int .i64 C, .slice A n k]) := Lib.hid (by rw [hw1, hg]; have := (Blk.new w 27 #[.int .i64 p, .int .i64 C, .int .i64 C, .slice A n k]).alloc (.cells #[.int .i64 p, .int .i64 C, .int .i64 C, .slice A' n' k'] 27); simpa using this)
  have HK1 : Hid (Blk w1 (g + 1) 27 #[.int .i64 p, .int .i64 C, .int .i64 C, .slice A' n' k']) := Lib.hid (by rw [hw1, hg]; have := Blk.new (w.alloc (.cells #[.int .i64 p, .int .i64 C, .int .i64 C, .slice A n k] 27)) 27 #[.int .i64 p, .int .i64 C, .int .i64 C, .slice A' n' k']; simpa using this)
  have hb : Below w.heap.size w w1 := by rw [hw1]; go_grown
  have HB := Lib.hid hb
  have HW := Lib.hid hw1
  have HG := Lib.hid hg
  have HSZ : Hid (w1.heap.size = g + 2) := Lib.hid (by rw [hw1, hg]; simp)
  have hnz := nfX_facts hp7 hxr hxf
  have hny := nfX_facts hp7 hyr hyf
  have HRC : Hid (∀ i j : Nat, i ≤ C → j ≤ C → (i : Int) + (j : Int) - (rnkL p (rowsC (nfX p C ys) C j C ++ rowsC (nfX p C xs) C i C) : Int) = cmF p C xs ys i j) := Lib.hid (fun i j hi hj => rel_cm hp7 hxr hyr hxf hyf hi hj)
  obtain ⟨z, hzX⟩ : ∃ z, z = nfX p C xs := ⟨_, rfl⟩
  obtain ⟨y, hyX⟩ : ∃ y, y = nfX p C ys := ⟨_, rfl⟩
  have HF1 := Lib.hid (flagOf_z p C C A n k xs w1 (hs.below hb (Nat.le_refl _)) hn hnk p C C z true ⟨hfx.symm, fun _ => ⟨rfl, rfl, rfl, by rw [Int.toNat_natCast]; exact hzX⟩, fun h => absurd h (by decide)⟩)
  have HF2 := Lib.hid (fun u (hu : Below w1.heap.size w1 u) => flagOf_z p C C A' n' k' ys u ((hs'.below hb (Nat.le_refl _)).below hu (Nat.le_refl _)) hn' hnk' p C C y true ⟨hfy.symm, fun _ => ⟨rfl, rfl, rfl, by rw [Int.toNat_natCast]; exact hyX⟩, fun h => absurd h (by decide)⟩)
  rw [← hzX, ← hyX] at HRC
  rw [← hzX] at hnz
  rw [← hyX] at hny
  obtain ⟨hzl, hzr⟩ := hnz
  obtain ⟨hyl2, hyr2⟩ := hny
  have hp2 := hp7.two
  have HZO : Hid (∀ i : Nat, ∀ x, x ∈ rowsC z C i C → x.length = C ∧ Rg p x) := Lib.hid (fun i => rowsC_ok (p := p) (d := z) (by omega) hzr C i C)
  have HST := Lib.hid (fun u (i : Nat) (hi : i < C) (AS : Option Addr) (cS : Nat) (Q : Option Addr) (m d : Nat) (AD : Option Addr) (nD cD : Nat) (h : SI u Q m y) (hmd : m ≤ d) (hS : LS u AS (i + 1) (rowsC z C (i + 1) C)) => stepsTo_any p C (i + 1) Q m d AD nD cD AS cS y (rowsC z C (i + 1) C) (fun j => cmF p C xs ys (i + 1) j) u hp7 h hmd hyl2 hyr2 hC1 hC7 hS (HZO.out _) (by omega) (cmF_none ..) (fun j hj => HRC.out (i + 1) j (by omega) hj))
  have HFR := Lib.hid (fun u (i : Nat) (hi : i < C) (bD oD m d : Nat) (h : SI u (some ⟨bD, oD, none⟩) m z) (hmd : m ≤ d) => firstRows_any p (C : Int) (some ⟨bD, oD, none⟩) bD oD m d C (i + 1) u (fun _ => rfl) ⟨hC1, by omega⟩ (by omega) (by have h1 := h.1; have h2 : (i + 1) * C ≤ C * C := Nat.mul_le_mul (by omega) (Nat.le_refl _); omega) hmd (by have h1 := h.1; have := nat_mul_small (r := C) (c := C) (by omega) (by omega); omega))
  have HFL := Lib.hid (fun u v (i : Nat) (hi : i < C) (bD oD m d gg lo : Nat) (hsz : SI v (some ⟨bD, oD, none⟩) m z) (hmd : m ≤ d) (h : OwnH v lo gg (i + 1) (fun j => (some ⟨bD, oD + j * C, none⟩, C, d - j * C))) (_ : u = v) => (h.ls (ls := rowsC z C (i + 1) C) (rowsC_len ..) fun j hj => by
        have h0 := hsz.1
        have h5 : (j + 1) * C ≤ (i + 1) * C := Nat.mul_le_mul (by omega) (Nat.le_refl _)
        have h6 : (i + 1) * C ≤ C * C := Nat.mul_le_mul (by omega) (Nat.le_refl _)
        rw [Nat.add_mul, Nat.one_mul] at h5
        refine ⟨by rw [rowsC_li hj]; exact hsz.mid (C := C) (c := C) (i := j) (by omega), by show C ≤ d - j * C; omega, fun h => by cases h⟩))
  have HRL := Lib.hid (fun u => hasRowsLike_any p C C p C C A A' n k n' k' u)
  rw [show (decide (p = p) && decide ((C : Int) = (C : Int))) = true by simp] at HRL
  have HGT := Lib.hid (fun (i : Nat) (hi : i < C) => stF_gt hp7 hxr hyr hxf hyf hi)
  have HPW : Hid (relW p C C xs p C C ys = relL p C xs ys) := Lib.hid (by unfold relW; rw [if_pos hyes]; simp only [Int.toNat_natCast])
  rw [HPW.out]
  have HCC : Hid (1 ≤ C * C) := Lib.hid (Nat.mul_pos hC1 hC1)
  have HZL := Lib.hid hzl
  have HYL := Lib.hid hyl2
  obtain ⟨W, hW⟩ : ∃ W, W = flgW p C C xs := ⟨_, rfl⟩
  rw [← hW] at HF1
  obtain ⟨W', hW'⟩ : ∃ W', W' = flgW p C C ys := ⟨_, rfl⟩
  rw [← hW'] at HF2
  clear hw1 hg hb hs hs' hW hW' hzX hyX hzl hzr hyl2 hyr2 hfx hfy hyes _hxl _hyl hxr hyr hxf hyf hp7 hp2
  go_enter Try.func17, Try.ntmps17
  go_upto_region 1 with fail
  rw [← HW.out, ← HG.out]
  go_upto_region 3 with (first
    | (refine wpList_load_rowP rfl 27 (.tmp 2) rfl g rfl 27 #[.int .i64 p, .int .i64 C, .int .i64 C, .slice A n k] _ HK0.out Try.underlying27 rfl Try.infoMx ?_)
    | (go_at_call 59
       with_reducible refine (HF1.out).mono ?_
       rintro e w2 ⟨P3, m3, d3, AC, nC, cC, rfl, ho2, hc2, hb2⟩
       have HO2 := Lib.hid ho2
       have HB2 := Lib.hid hb2
       clear ho2 hc2 hb2)
    | (refine wpList_store_rowP rfl 76 (.tmp 5) (.tmp 18) rfl w2.heap.size #[.int .i64 p, .int .i64 C, .int .i64 C, .slice P3 m3 d3, .slice AC nC cC] rfl rfl 76 #[.int .i64 0, .int .i64 0, .int .i64 0, .slice none 0 0, .slice none 0 0] (Blk.new _ _ _) Try.infoNf rfl (by simp [Value.oneCell']) ?_; intro w3 hb3 hg3; have hz3 : w2.heap.size < w3.heap.size := hb3.lt; have HB3 : Hid (Below w1.heap.size w1 w3) := Lib.hid ((HB2.out.alloc HB2.out.size _).grown hg3 (by have := HB2.out.size; simp; omega) (by rintro q ⟨⟩; exact HB2.out.size)); have HO3 : Hid (Own w3 w1.heap.size w2.heap.size P3 m3 d3 z) := Lib.hid ((HO2.out.below (Below.alloc_self _ _) (Nat.le_refl _)).grown hg3 (fun q hq => by injection hq with hq; omega)); have HKB := Lib.hid hb3; have HZ3 := Lib.hid hz3; have HR1 := Lib.hid (HK1.out.below HB3.out HK1.out.lt); clear hb3 hg3 hz3 HO2)
    | (refine wpList_load_rowP rfl 27 (.tmp 3) rfl (g + 1) rfl 27 #[.int .i64 p, .int .i64 C, .int .i64 C, .slice A' n' k'] _ HR1.out Try.underlying27 rfl Try.infoMx ?_)
    | (go_at_call 59
       with_reducible refine (HF2.out _ HB3.out).mono ?_
       rintro e w4 ⟨P5, m5, d5, AD, nD, cD, rfl, ho4, hc4, hb4⟩
       have HO4 := Lib.hid ho4
       have HB34 := Lib.hid hb4
       have HB4 : Hid (Below w1.heap.size w1 w4) := Lib.hid (HB3.out.trans (hb4.mono HB3.out.size))
       clear ho4 hc4 hb4)
    | (refine wpList_store_rowP rfl 76 (.tmp 7) (.tmp 23) rfl w4.heap.size #[.int .i64 p, .int .i64 C, .int .i64 C, .slice P5 m5 d5, .slice AD nD cD] rfl rfl 76 #[.int .i64 0, .int .i64 0, .int .i64 0, .slice none 0 0, .slice none 0 0] (Blk.new _ _ _) Try.infoNf rfl (by simp [Value.oneCell']) ?_; intro w5 hb5 hg5; have hz5 : w4.heap.size < w5.heap.size := hb5.lt; have HB35 : Hid (Below w3.heap.size w3 w5) := Lib.hid ((HB34.out.alloc HB34.out.size _).grown hg5 (by have := HB34.out.size; simp; omega) (by rintro q ⟨⟩; exact HB34.out.size)); have HO5 : Hid (Own w5 w3.heap.size w4.heap.size P5 m5 d5 y) := Lib.hid ((HO4.out.below (Below.alloc_self _ _) (Nat.le_refl _)).grown hg5 (fun q hq => by injection hq with hq; omega)); have HKC := Lib.hid hb5; have HZ5 := Lib.hid hz5; have HB5 : Hid (Below w1.heap.size w1 w5) := Lib.hid ((HB4.out.alloc HB4.out.size _).grown hg5 (by have := HB4.out.size; simp; omega) (by rintro q ⟨⟩; exact HB4.out.size)); clear hb5 hg5 hz5 HO4)
    | fail)
  obtain ⟨gb1, hgb1⟩ : ∃ q, q = w2.heap.size := ⟨_, rfl⟩
  obtain ⟨gb2, hgb2⟩ : ∃ q, q = w4.heap.size := ⟨_, rfl⟩
  have HK5a : Hid (Blk w5 gb1 76 #[.int .i64 p, .int .i64 C, .int .i64 C, .slice P3 m3 d3, .slice AC nC cC]) := Lib.hid (by rw [hgb1]; exact HKB.out.below HB35.out HKB.out.lt)
  have HK5b : Hid (Blk w5 gb2 76 #[.int .i64 p, .int .i64 C, .int .i64 C, .slice P5 m5 d5, .slice AD nD cD]) := Lib.hid (by rw [hgb2]; exact HKC.out)
  rw [← hgb1, ← hgb2]
  clear hgb1 hgb2
  obtain ⟨b3, rfl⟩ : ∃ b, P3 = some ⟨b, 0, none⟩ := by
    have h1 := HCC.out; have h2 := HO3.out.len; have h3 := HZL.out
    rcases HO3.out.shape_ with ⟨_, h4, _⟩ | h
    · omega
    · exact h
  obtain ⟨b5, rfl⟩ : ∃ b, P5 = some ⟨b, 0, none⟩ := by
    have h1 := HCC.out; have h2 := HO5.out.len; have h3 := HYL.out
    rcases HO5.out.shape_ with ⟨_, h4, _⟩ | h
    · omega
    · exact h
  have HS5 : Hid (SI w5 (some ⟨b3, 0, none⟩) m3 z) := Lib.hid (HO3.out.si.below HB35.out (by have := HZ3.out; omega))
  have HT5 : Hid (SI w5 (some ⟨b5, 0, none⟩) m5 y) := Lib.hid (HO5.out.si)
  have HD3 : Hid (m3 ≤ d3) := Lib.hid HO3.out.cap
  have HD5 : Hid (m5 ≤ d5) := Lib.hid HO5.out.cap
  have HFR2 := Lib.hid (fun u (hu : Below w5.heap.size w5 u) (i : Nat) (hi : i < C) => HFR.out u i hi b3 0 m3 d3 (HS5.out.below hu (Nat.le_refl _)) HD3.out)
  have HST2 := Lib.hid (fun u (hu : Below w5.heap.size w5 u) (i : Nat) (hi : i < C) (AS : Option Addr) (cS : Nat) (hS : LS u AS (i + 1) (rowsC z C (i + 1) C)) => HST.out u i hi AS cS (some ⟨b5, 0, none⟩) m5 d5 AD nD cD (HT5.out.below hu (Nat.le_refl _)) HD5.out hS)
  clear HST HFR HF1 HF2 HRC
  obtain ⟨q0, q1, q2, q3⟩ := cells4 (HK0.out.below HB5.out HK0.out.lt)
  obtain ⟨r0, r1, r2, r3⟩ := cells4 (HK1.out.below HB5.out HK1.out.lt)
  have MKS : Hid (∀ u, Below w5.heap.size w5 u → (u.cell? ⟨gb1, 0, none⟩ = some (.int .i64 p) ∧ u.cell? ⟨gb1, 1, none⟩ = some (.int .i64 C) ∧ u.cell? ⟨gb1, 2, none⟩ = some (.int .i64 C) ∧ u.cell? ⟨gb1, 3, none⟩ = some (.slice (some ⟨b3, 0, none⟩) m3 d3) ∧ u.cell? ⟨gb2, 0, none⟩ = some (.int .i64 p) ∧ u.cell? ⟨gb2, 1, none⟩ = some (.int .i64 C) ∧ u.cell? ⟨gb2, 2, none⟩ = some (.int .i64 C) ∧ u.cell? ⟨gb2, 3, none⟩ = some (.slice (some ⟨b5, 0, none⟩) m5 d5) ∧ u.cell? ⟨gb2, 4, none⟩ = some (.slice AD nD cD))) := Lib.hid (fun u hb => by have h1 := HK5a.out.below hb HK5a.out.lt; have h2 := HK5b.out.below hb HK5b.out.lt; exact ⟨h1.cell 0, h1.cell 1, h1.cell 2, h1.cell 3, h2.cell 0, h2.cell 1, h2.cell 2, h2.cell 3, h2.cell 4⟩)
  go_upto_region 5 with (first
    | (go_at_call 60
       with_reducible refine (HRL.out _).mono ?_
       rintro e w6 ⟨rfl, hb6⟩
       have HB6 := Lib.hid hb6
       clear hb6 q0 q1 q2 q3 r0 r1 r2 r3
       obtain ⟨s0, s1, s2, s3, t0, t1, t2, t3, t4⟩ := MKS.out w6 HB6.out)
    | fail)
  go_upto_region 6 with (first
    | (at_make; refine wpList_make_zero rfl (.tmp 39) (.tmp 39) rfl C rfl rfl (by omega) ?_; intro w7 ho hb; have HO7 := Lib.hid ho; have HB7 := Lib.hid hb; clear ho hb s0 s1 s2 s3 t0 t1 t2 t3 t4)
    | fail)
  obtain ⟨gw, hgw⟩ : ∃ q, q = w6.heap.size := ⟨_, rfl⟩
  have HGW := Lib.hid hgw
  rw [← hgw]
  rw [← hgw] at HO7
  clear hgw
  have HB57 : Hid (Below w5.heap.size w5 w7) := Lib.hid (HB6.out.trans (HB7.out.mono HB6.out.size))
  obtain ⟨s0, s1, s2, s3, t0, t1, t2, t3, t4⟩ := MKS.out w7 HB57.out
  obtain ⟨hi7, hhi7⟩ : ∃ q, q = w7.heap.size := ⟨_, rfl⟩
  have HHI := Lib.hid hhi7
  have HW7 : Hid (Own w7 w6.heap.size hi7 (some ⟨gw, 0, none⟩) C C (relP p C xs ys 0)) := Lib.hid (by rw [HHI.out, relP_zero, ← HGW.out]; exact HO7.out)
  clear hhi7
  go_upto_region 7 with (first
    | (at_make; refine wpList_make_zero rfl (.tmp 43) (.tmp 43) rfl C rfl rfl (by omega) ?_; intro w8 ho hb; have HO8 := Lib.hid ho; have HB8 := Lib.hid hb; clear ho hb s0 s1 s2 s3 t0 t1 t2 t3 t4)
    | fail)
  obtain ⟨gs, hgs⟩ : ∃ q, q = w7.heap.size := ⟨_, rfl⟩
  have HGS := Lib.hid hgs
  rw [← hgs]
  rw [← hgs] at HO8
  clear hgs
  have HB58 : Hid (Below w5.heap.size w5 w8) := Lib.hid (HB57.out.trans (HB8.out.mono HB57.out.size))
  have HW8 : Hid (Own w8 w6.heap.size hi7 (some ⟨gw, 0, none⟩) C C (relP p C xs ys 0)) := Lib.hid (HW7.out.below HB8.out (Nat.le_of_eq HHI.out))
  have HS8 : Hid (Own w8 hi7 w8.heap.size (some ⟨gs, 0, none⟩) C C (stF p C xs ys 0)) := Lib.hid (by rw [HHI.out, stF_zero, ← HGS.out]; exact HO8.out)
  have HH8 : Hid (hi7 ≤ w8.heap.size) := Lib.hid (by rw [HHI.out]; exact HB8.out.size)
  have HH6 : Hid (w5.heap.size ≤ w6.heap.size) := Lib.hid HB6.out.size
  have HH7 : Hid (w6.heap.size ≤ hi7) := Lib.hid (by rw [HHI.out]; exact HB7.out.size)
  clear HO7 HO8 HB7 HB8 HB57 HW7
  go_wp2_with fail
  go_loopw [10, 47] (fun bv iv wr => ∃ (i gv cv : Nat), i ≤ C ∧ iv = .int .i64 i ∧ bv = .slice (some ⟨gv, 0, none⟩) C cv ∧ Own wr w6.heap.size hi7 (some ⟨gw, 0, none⟩) C C (relP p C xs ys i) ∧ hi7 ≤ wr.heap.size ∧ Own wr hi7 wr.heap.size (some ⟨gv, 0, none⟩) C cv (stF p C xs ys i) ∧ Below w5.heap.size w5 wr)
    (fun _ iv _ => C - (intOf iv).toNat)
  case atStart => exact ⟨0, gs, C, Nat.zero_le _, rfl, rfl, HW8.out, HH8.out, HS8.out, HB58.out⟩
  case round =>
    obtain ⟨i, gv, cv, hi, rfl, rfl, how, hhi, hos, hbr⟩ := hrel
    skip
    have HOW := Lib.hid how
    have HOS := Lib.hid hos
    have HHR := Lib.hid hhi
    have HBR := Lib.hid hbr
    clear how hos hhi hbr
    by_cases hiC : i < C
    case neg =>
      obtain rfl : i = C := by omega
      go_wp2
      go_ret
      exact ⟨some ⟨gw, 0, none⟩, i, i, rfl, by have h := HOW.out; rw [relP_all] at h; exact h.wide (Nat.le_trans HB.out.size (Nat.le_trans HB5.out.size HH6.out)) HHR.out, HB.out.trans ((HB5.out.trans (HBR.out.mono HB5.out.size)).mono HB.out.size)⟩
    case pos =>
      have hiI : (i : Int) < (C : Int) := by omega
      have hwi : IntKind.i64.wrap ((i : Int) + 1) = (i : Int) + 1 := IntWalk.i64_in _ (by omega)
      have HC1 := Lib.hid (fun u hu => HFR2.out u hu i hiC)
      have HC2 := Lib.hid (fun u hu => HST2.out u hu i hiC)
      simp only [Int.natCast_add, Int.natCast_one] at HC1 HC2
      skip
      have HKd : Hid (wr.drew.cell? ⟨gb1, 0, none⟩ = some (.int .i64 p) ∧ wr.drew.cell? ⟨gb1, 1, none⟩ = some (.int .i64 C) ∧ wr.drew.cell? ⟨gb1, 2, none⟩ = some (.int .i64 C) ∧ wr.drew.cell? ⟨gb1, 3, none⟩ = some (.slice (some ⟨b3, 0, none⟩) m3 d3) ∧ wr.drew.cell? ⟨gb2, 0, none⟩ = some (.int .i64 p) ∧ wr.drew.cell? ⟨gb2, 1, none⟩ = some (.int .i64 C) ∧ wr.drew.cell? ⟨gb2, 2, none⟩ = some (.int .i64 C) ∧ wr.drew.cell? ⟨gb2, 3, none⟩ = some (.slice (some ⟨b5, 0, none⟩) m5 d5) ∧ wr.drew.cell? ⟨gb2, 4, none⟩ = some (.slice AD nD cD)) := Lib.hid (MKS.out _ (HBR.out.drew))
      have HKn := Lib.hid (MKS.out wr HBR.out)
      go_upto_region 10 with fail
      go_region_held3 (fun u => u.cell? ⟨gb1, 0, none⟩ = some (.int .i64 p) ∧ u.cell? ⟨gb1, 1, none⟩ = some (.int .i64 C) ∧ u.cell? ⟨gb1, 2, none⟩ = some (.int .i64 C) ∧ u.cell? ⟨gb1, 3, none⟩ = some (.slice (some ⟨b3, 0, none⟩) m3 d3) ∧ u.cell? ⟨gb2, 0, none⟩ = some (.int .i64 p) ∧ u.cell? ⟨gb2, 1, none⟩ = some (.int .i64 C) ∧ u.cell? ⟨gb2, 2, none⟩ = some (.int .i64 C) ∧ u.cell? ⟨gb2, 3, none⟩ = some (.slice (some ⟨b5, 0, none⟩) m5 d5) ∧ u.cell? ⟨gb2, 4, none⟩ = some (.slice AD nD cD))
        (first | with_reducible exact HKd.out | with_reducible exact HKn.out | with_reducible exact KU1 | with_reducible exact KU2)
        (first
          | (go_at_call 61
             with_reducible refine (HC2.out u1 Hc1.out _ _ HLS.out).mono ?_
             rintro e u2 ⟨A2, n2, c2, rfl, ho, hb⟩
             have Hc2 : Hid (Below w5.heap.size w5 u2) := Lib.hid (Hc1.out.trans (hb.mono Hc1.out.size))
             have Hd2 : Hid (Below wr.heap.size wr u2) := Lib.hid (Hd1.out.trans (hb.mono Hd1.out.size))
             have KU2 := MKS.out u2 Hc2.out
             have HON := Lib.hid ho
             clear ho hb)
          | (go_at_call 62
             with_reducible refine (HC1.out _ (HBR.out.drew)).mono ?_
             rintro e u1 ⟨ga, rfl, hoh, hb⟩
             have Hd1 : Hid (Below wr.heap.size wr u1) := Lib.hid (((Below.refl _ _).drew).trans hb)
             have Hc1 : Hid (Below w5.heap.size w5 u1) := Lib.hid (HBR.out.trans (Hd1.out.mono HBR.out.size))
             have KU1 := MKS.out u1 Hc1.out
             have HLS : Hid (LS u1 (some ⟨ga, 0, none⟩) (i + 1) (rowsC z C (i + 1) C)) := Lib.hid (HFL.out u1 u1 i hiC b3 0 m3 d3 ga _ (HS5.out.below Hc1.out (Nat.le_refl _)) HD3.out hoh rfl)
             clear hoh hb))
      have HLN : Hid (n2 = C) := Lib.hid (by have h := HON.out.len; simp at h; exact h.symm)
      obtain ⟨g2, rfl⟩ : ∃ q, A2 = some ⟨q, 0, none⟩ := by
        have h1 := HLN.out
        rcases HON.out.shape_ with ⟨_, h4, _⟩ | h
        · omega
        · exact h
      skip
      have hn2 := HLN.out
      rw [hn2] at HON ⊢
      clear hn2
      have HO2 : Hid (Own u2 hi7 u2.heap.size (some ⟨g2, 0, none⟩) C c2 (stF p C xs ys (i + 1))) := Lib.hid (HON.out.wide (Nat.le_trans HHR.out Hd1.out.size) (Nat.le_refl _))
      have HOW2 : Hid (Own u2 w6.heap.size hi7 (some ⟨gw, 0, none⟩) C C (relQ p C xs ys i 0)) := Lib.hid (by unfold relQ; rw [if_neg (by omega)]; exact HOW.out.below Hd2.out HHR.out)
      have HV2 : Hid (Own u2 hi7 u2.heap.size (some ⟨gv, 0, none⟩) C cv (stF p C xs ys i)) := Lib.hid ((HOS.out.below Hd2.out (Nat.le_refl _)).wide (Nat.le_refl _) Hd2.out.size)
      have HH2 : Hid (hi7 ≤ u2.heap.size) := Lib.hid (Nat.le_trans HHR.out Hd2.out.size)
      clear HON HOW HOS HKd HKn KU1 KU2 HLS HC1 HC2
      obtain ⟨J, hJe⟩ : ∃ J, J = jmp p C (rowsC xs C C C) (rowsC ys C C C) i := ⟨_, rfl⟩
      have HJE := Lib.hid hJe
      have hJ := HGT.out i hiC
      rw [← hJe] at hJ
      obtain ⟨hJC, hJJ⟩ := hJ
      have HJJ := Lib.hid hJJ
      clear hJe hJJ
      go_wp2_with fail
      go_loopw [59] (fun jv wx => ∃ j : Nat, j ≤ C ∧ jv = .int .i64 j ∧ Own wx w6.heap.size hi7 (some ⟨gw, 0, none⟩) C C (relQ p C xs ys i j) ∧ hi7 ≤ wx.heap.size ∧ Own wx hi7 wx.heap.size (some ⟨g2, 0, none⟩) C c2 (stF p C xs ys (i + 1)) ∧ Own wx hi7 wx.heap.size (some ⟨gv, 0, none⟩) C cv (stF p C xs ys i) ∧ Below w5.heap.size w5 wx)
        (fun jv _ => C - (intOf jv).toNat)
      case atStart => exact ⟨0, Nat.zero_le _, rfl, HOW2.out, HH2.out, HO2.out, HV2.out, Hc2.out⟩
      case round =>
        obtain ⟨j, hj, rfl, how, hhi, hon, hos, hbx⟩ := hrel
        skip
        clear HOW2 HH2 HO2 HV2 Hc2
        have HOW := Lib.hid how
        have HON := Lib.hid hon
        have HOS := Lib.hid hos
        have HHX := Lib.hid hhi
        have HBX := Lib.hid hbx
        clear hbx hhi
        have hwj : IntKind.i64.wrap ((j : Int) + 1) = (j : Int) + 1 := IntWalk.i64_in _ (by omega)
        by_cases hjC : j < C
        case pos =>
          have hjI : (j : Int) < (C : Int) := by omega
          have c1 := hon.cellAt hjC
          have c2 := hos.cellAt hjC
          have c3 := how.cellAt hiC
          have c4 := how.frozenAt i
          have hjj := HJJ.out j hjC
          obtain ⟨a, ha⟩ : ∃ a, a = nth (stF p C xs ys (i + 1)) j := ⟨_, rfl⟩
          obtain ⟨b, hb⟩ : ∃ b, b = nth (stF p C xs ys i) j := ⟨_, rfl⟩
          obtain ⟨cc, hcc⟩ : ∃ b, b = nth (relQ p C xs ys i j) i := ⟨_, rfl⟩
          rw [← ha, ← hb] at hjj
          rw [← ha] at c1
          rw [← hb] at c2
          rw [← hcc] at c3
          clear ha hb hcc how hon hos
          by_cases hab : b < a
          case pos =>
            obtain rfl : j = J := hjj.1 hab
            have HST : Hid ((relQ p C xs ys i j).set i (j : Int) = relQ p C xs ys i (j + 1)) := Lib.hid (by unfold relQ; rw [← HJE.out, if_neg (by omega), if_pos (by omega)]; have h := relP_step (p := p) (xs := xs) (ys := ys) hiC; rw [← HJE.out] at h; exact h)
            clear hjj
            have h1 := (HOW.out.set_ (k := i) (j : Int)).1
            have h2 := (HOW.out.set_ (k := i) (j : Int)).2
            rw [HST.out] at h1
            have hlt := HOW.out.lt gw rfl
            have hgh : w5.heap.size ≤ gw := Nat.le_trans HH6.out hlt.1
            have HR1 := Lib.hid h1
            have HR2 := Lib.hid h2
            have HR3 : Hid (gw < hi7) := Lib.hid hlt.2
            have HR4 := Lib.hid hgh
            clear h1 h2 hlt hgh
            go_wp2
            go_roundw
            case rel => exact ⟨j + 1, by omega, by go_num, HR1.out, Nat.le_trans HHX.out HR2.out.size, (HON.out.grown HR2.out (by rintro q ⟨⟩; exact .inl HR3.out)).wide (Nat.le_refl _) HR2.out.size, (HOS.out.grown HR2.out (by rintro q ⟨⟩; exact .inl HR3.out)).wide (Nat.le_refl _) HR2.out.size, HBX.out.grown HR2.out HBX.out.size (by rintro q ⟨⟩; exact HR4.out)⟩
            case measure => simp [intOf]; omega
          case neg =>
            have hjJ : j ≠ J := fun e => hab (hjj.2 e)
            have HST : Hid (relQ p C xs ys i j = relQ p C xs ys i (j + 1)) := Lib.hid (by unfold relQ; rw [← HJE.out]; split <;> split <;> first | rfl | omega)
            clear hjj hjJ
            go_wp2
            go_roundw
            case rel => exact ⟨j + 1, by omega, by go_num, by rw [← HST.out]; exact HOW.out, HHX.out, HON.out, HOS.out, HBX.out⟩
            case measure => simp [intOf]; omega
        case neg =>
          obtain rfl : j = C := by omega
          clear how hon hos
          have HQ : Hid (relQ p j xs ys i j = relP p j xs ys (i + 1)) := Lib.hid (by unfold relQ; rw [← HJE.out, if_pos hJC])
          go_wp2_with fail
          go_roundw
          case rel => exact ⟨i + 1, g2, c2, by omega, by go_num, rfl, by rw [← HQ.out]; exact HOW.out, HHX.out, HON.out, HBX.out⟩
          case measure => simp [intOf]; omega
theorem implRelativePosition_any (p r c p' r' c' : Int) (A A' : Option Addr) (n k n' k' : Nat) (xs ys : List Int) (w : World) (hs : SI w A n xs) (hs' : SI w A' n' ys) (hn : n ≤ 1099511627776) (hn' : n' ≤ 1099511627776) (hnk : n ≤ k) (hnk' : n' ≤ k') :
    Calls Try.prog 17 #[.agg #[.int .i64 p, .int .i64 r, .int .i64 c, .slice A n k], .agg #[.int .i64 p', .int .i64 r', .int .i64 c', .slice A' n' k']] w fun e w' => Fresh w w' e (relW p r c xs p' r' c' ys) := by
  cases h : pairB p r c xs p' r' c' ys with
  | false => exact implRelativePosition_no p r c p' r' c' A A' n k n' k' xs ys w hs hs' hn hn' hnk hnk' h
  | true =>
    obtain ⟨C, e1, e2, e3, e4, e5, hp7, hC1, hC7, hxl, hyl, hxr, hyr, hxf, hyf⟩ := pair_yes h
    subst e1 e2 e4 e5
    subst p'
    have hf : flagB p C C xs = true ∧ flagB p C C ys = true := by unfold pairB at h; simp only [Bool.and_eq_true] at h; exact ⟨h.1, h.2.1⟩
    exact implRelativePosition_yes p C A A' n k n' k' xs ys w hs hs' hn hn' hnk hnk' h hf.1 hf.2 hp7 hC1 hC7 hxl hyl hxr hyr hxf hyf

end Go.Proofs.Ytfaegfhbbkicgaa

/-
  Spaces that meet a flag as a shape asks: mathematics.
-/


namespace Go.Proofs.Ytfaegfhbbkicgaa
open Go.RowKit

/-- How many rows of the flag are looked at beside the row i. -/
def mfJ (R C : Nat) (sh : List Int) (i : Nat) : Nat := C - R + i + 1 - (nth sh i).toNat
def mftB (p : Int) (R C : Nat) (xs ys sh : List Int) : Bool := decide (∀ i, i < R → (i : Int) + 1 ≤ cmnR p (rowsC xs C R C) (rowsC ys C (mfJ R C sh i) C))
/-- Does a space meet a flag as a shape asks. -/
def mftW (p r c : Int) (xs : List Int) (p' r' c' : Int) (ys sh : List Int) : Bool := besideB p r c xs p' r' c' ys && (boxB sh r c && mftB p r.toNat c.toNat xs ys sh)
theorem mft_no1 {p r c : Int} {xs : List Int} {p' r' c' : Int} {ys : List Int} (sh : List Int) (h : besideB p r c xs p' r' c' ys = false) : mftW p r c xs p' r' c' ys sh = false := by unfold mftW; rw [h]; rfl
theorem mft_no2 {p r c : Int} {xs : List Int} {p' r' c' : Int} {ys sh : List Int} (h : boxB sh r c = false) : mftW p r c xs p' r' c' ys sh = false := by unfold mftW; rw [h]; simp
theorem mfJ_is {R C : Nat} {sh : List Int} (h : boxB sh R C = true) {i : Nat} (hi : i < R) : R ≤ C ∧ mfJ R C sh i ≤ C ∧ (C : Int) - R + i + 1 - nth sh i = (mfJ R C sh i : Nat) ∧ 0 ≤ nth sh i ∧ nth sh i ≤ 7 := by
  obtain ⟨h1, h2, h3, h4, h5, h6, h7⟩ := boxB_P h
  have h8 := (shape_range h5 i).1
  have h9 : nth sh i ≤ (C : Int) - R := by
    by_cases hl : i < sh.length
    · exact Int.le_trans (shape_first h5 i hl) h7
    · rw [nth_out (by omega)]; omega
  unfold mfJ
  omega
theorem mftB_no {p : Int} {R C : Nat} {xs ys sh : List Int} {i : Nat} (hi : i < R) (h : ¬ (i : Int) + 1 ≤ cmnR p (rowsC xs C R C) (rowsC ys C (mfJ R C sh i) C)) : mftB p R C xs ys sh = false := decide_eq_false fun h2 => h (h2 i hi)
theorem mftB_yes {p : Int} {R C : Nat} {xs ys sh : List Int} (h : ∀ i, i < R → (i : Int) + 1 ≤ cmnR p (rowsC xs C R C) (rowsC ys C (mfJ R C sh i) C)) : mftB p R C xs ys sh = true := decide_eq_true h

end Go.Proofs.Ytfaegfhbbkicgaa

/-
  MeetsFlag on the document's side. Conditions: lengths below 2^40.
-/






namespace Go.Proofs.Ytfaegfhbbkicgaa
open Go.RowKit

set_option maxRecDepth 100000 in
set_option maxHeartbeats 8000000 in
theorem specMeetsFlag_any (p r c p' r' c' : Int) (A A' : Option Addr) (n k n' k' : Nat) (xs ys : List Int) (AS : Option Addr) (m d : Nat) (sh : List Int) (w : World) (hs : SI w A n xs) (hs' : SI w A' n' ys) (hss : SI w AS m sh) (hm : m ≤ 1099511627776) (hn : n ≤ 1099511627776) (hn' : n' ≤ 1099511627776) (hsh : A = none ∧ n = 0 ∧ k = 0 ∨ ∃ g, A = some ⟨g, 0, none⟩) (hsh' : A' = none ∧ n' = 0 ∧ k' = 0 ∨ ∃ g, A' = some ⟨g, 0, none⟩) (hnk : n ≤ k) (hnk' : n' ≤ k') :
    Calls Try.prog 23 #[.agg #[.int .i64 p, .int .i64 r, .int .i64 c, .slice A n k], .agg #[.int .i64 p', .int .i64 r', .int .i64 c', .slice A' n' k'], .slice AS m d] w fun e w' => e = .returned (.bool (mftW p r c xs p' r' c' ys sh)) ∧ Below w.heap.size w w' := by
  obtain ⟨w1, hw1⟩ : ∃ w1, w1 = ((w.alloc (.cells #[.int .i64 p, .int .i64 r, .int .i64 c, .slice A n k] 27)).alloc (.cells #[.int .i64 p', .int .i64 r', .int .i64 c', .slice A' n' k'] 27)) := ⟨_, rfl⟩
  obtain ⟨g, hg⟩ : ∃ g, g = w.heap.size := ⟨_, rfl⟩
  have HK0 : Hid (Blk w1 (g) 27 #[.int .i64 p, .int .i64 r, .int .i64 c, .slice A n k]) := Lib.hid (by rw [hw1, hg]; have := (Blk.new w 27 #[.int .i64 p, .int .i64 r, .int .i64 c, .slice A n k]).alloc (.cells #[.int .i64 p', .int .i64 r', .int .i64 c', .slice A' n' k'] 27); simpa using this)
  have HK1 : Hid (Blk w1 (g + 1) 27 #[.int .i64 p', .int .i64 r', .int .i64 c', .slice A' n' k']) := Lib.hid (by rw [hw1, hg]; have := Blk.new (w.alloc (.cells #[.int .i64 p, .int .i64 r, .int .i64 c, .slice A n k] 27)) 27 #[.int .i64 p', .int .i64 r', .int .i64 c', .slice A' n' k']; simpa using this)
  have hb : Below w.heap.size w w1 := by rw [hw1]; go_grown
  have HB := Lib.hid hb
  have HW := Lib.hid hw1
  have HG := Lib.hid hg
  have HSZ : Hid (w1.heap.size = g + 2) := Lib.hid (by rw [hw1, hg]; simp)
  have HSA := Lib.hid (hs.below hb (Nat.le_refl _))
  have HSB := Lib.hid (hs'.below hb (Nat.le_refl _))
  have HL1 := Lib.hid hs.1
  have HL2 := Lib.hid hs'.1
  have HM1 := Lib.hid (specIsSpace_any p r c A n k xs w1 (hs.below hb (Nat.le_refl _)) hn)
  have HM2 := Lib.hid (fun w2 (hb2 : Below w1.heap.size w1 w2) => specFlagOk_any p' r' c' A' n' k' ys w2 (HSB.out.below hb2 (Nat.le_refl _)) hn')
  have HSS := Lib.hid (hss.below hb (Nat.le_refl _))
  clear hw1 hg hb hs hs' hss
  cases hu : isSpB p r c xs with
  | false =>
    rw [hu] at HM1
    have HNO : Hid (besideB p r c xs p' r' c' ys = false) := Lib.hid (by unfold besideB; simp [hu])
    clear hu
    go_enter Try.func23, Try.ntmps23
    go_upto_region 1 with fail
    rw [← HW.out, ← HG.out]
    go_wp2_with (first
      | (refine wpList_load_rowP rfl 27 (.tmp 3) rfl g rfl 27 #[.int .i64 p, .int .i64 r, .int .i64 c, .slice A n k] _ HK0.out Try.underlying27 rfl Try.infoMx ?_)
      | (go_at_call 63
         with_reducible refine (HM1.out).mono ?_
         rintro e w2 ⟨rfl, hb2⟩
         have HB2 := Lib.hid hb2
         obtain ⟨r0, r1, r2, r3⟩ := cells4 (HK1.out.below hb2 HK1.out.lt)
         clear hb2)
      | fail)
    go_ret
    exact ⟨by rw [mft_no1 sh HNO.out]; try rfl, HB.out.trans (HB2.out.mono HB.out.size)⟩
  | true =>
    rw [hu] at HM1
    cases hv : flagB p' r' c' ys with
    | false =>
      rw [hv] at HM2
      have HNO : Hid (besideB p r c xs p' r' c' ys = false) := Lib.hid (by unfold besideB; simp [hu, hv])
      clear hu hv
      go_enter Try.func23, Try.ntmps23
      go_upto_region 1 with fail
      rw [← HW.out, ← HG.out]
      go_wp2_with (first
        | (refine wpList_load_rowP rfl 27 (.tmp 3) rfl g rfl 27 #[.int .i64 p, .int .i64 r, .int .i64 c, .slice A n k] _ HK0.out Try.underlying27 rfl Try.infoMx ?_)
        | (go_at_call 63
           with_reducible refine (HM1.out).mono ?_
           rintro e w2 ⟨rfl, hb2⟩
           have HB2 := Lib.hid hb2
           obtain ⟨r0, r1, r2, r3⟩ := cells4 (HK1.out.below hb2 HK1.out.lt)
           clear hb2)
        | (go_at_call 57
           with_reducible refine (HM2.out _ HB2.out).mono ?_
           rintro e w3 ⟨rfl, hb3⟩
           have HB3 : Hid (Below w1.heap.size w1 w3) := Lib.hid (HB2.out.trans (hb3.mono HB2.out.size))
           obtain ⟨q0, q1, q2, q3⟩ := cells4 (HK0.out.below HB3.out HK0.out.lt)
           clear r0 r1 r2 r3
           obtain ⟨r0, r1, r2, r3⟩ := cells4 (HK1.out.below HB3.out HK1.out.lt)
           clear hb3)
        | fail)
      go_ret
      exact ⟨by rw [mft_no1 sh HNO.out]; try rfl, HB.out.trans (HB3.out.mono HB.out.size)⟩
    | true =>
      rw [hv] at HM2
      by_cases hp : p = p'
      case neg =>
        have HNO : Hid (besideB p r c xs p' r' c' ys = false) := Lib.hid (by unfold besideB; simp [hu, hv, hp])
        clear hu hv
        go_enter Try.func23, Try.ntmps23
        go_upto_region 1 with fail
        rw [← HW.out, ← HG.out]
        go_wp2_with (first
          | (refine wpList_load_rowP rfl 27 (.tmp 3) rfl g rfl 27 #[.int .i64 p, .int .i64 r, .int .i64 c, .slice A n k] _ HK0.out Try.underlying27 rfl Try.infoMx ?_)
          | (go_at_call 63
             with_reducible refine (HM1.out).mono ?_
             rintro e w2 ⟨rfl, hb2⟩
             have HB2 := Lib.hid hb2
             obtain ⟨r0, r1, r2, r3⟩ := cells4 (HK1.out.below hb2 HK1.out.lt)
             clear hb2)
          | (go_at_call 57
             with_reducible refine (HM2.out _ HB2.out).mono ?_
             rintro e w3 ⟨rfl, hb3⟩
             have HB3 : Hid (Below w1.heap.size w1 w3) := Lib.hid (HB2.out.trans (hb3.mono HB2.out.size))
             obtain ⟨q0, q1, q2, q3⟩ := cells4 (HK0.out.below HB3.out HK0.out.lt)
             clear r0 r1 r2 r3
             obtain ⟨r0, r1, r2, r3⟩ := cells4 (HK1.out.below HB3.out HK1.out.lt)
             clear hb3)
          | fail)
        go_ret
        exact ⟨by rw [mft_no1 sh HNO.out]; try rfl, HB.out.trans (HB3.out.mono HB.out.size)⟩
      case pos =>
        subst hp
        by_cases hc : c = c'
        case neg =>
          have HNO : Hid (besideB p r c xs p r' c' ys = false) := Lib.hid (by unfold besideB; simp [hu, hv, hc])
          clear hu hv
          go_enter Try.func23, Try.ntmps23
          go_upto_region 1 with fail
          rw [← HW.out, ← HG.out]
          go_wp2_with (first
            | (refine wpList_load_rowP rfl 27 (.tmp 3) rfl g rfl 27 #[.int .i64 p, .int .i64 r, .int .i64 c, .slice A n k] _ HK0.out Try.underlying27 rfl Try.infoMx ?_)
            | (go_at_call 63
               with_reducible refine (HM1.out).mono ?_
               rintro e w2 ⟨rfl, hb2⟩
               have HB2 := Lib.hid hb2
               obtain ⟨r0, r1, r2, r3⟩ := cells4 (HK1.out.below hb2 HK1.out.lt)
               clear hb2)
            | (go_at_call 57
               with_reducible refine (HM2.out _ HB2.out).mono ?_
               rintro e w3 ⟨rfl, hb3⟩
               have HB3 : Hid (Below w1.heap.size w1 w3) := Lib.hid (HB2.out.trans (hb3.mono HB2.out.size))
               obtain ⟨q0, q1, q2, q3⟩ := cells4 (HK0.out.below HB3.out HK0.out.lt)
               clear r0 r1 r2 r3
               obtain ⟨r0, r1, r2, r3⟩ := cells4 (HK1.out.below HB3.out HK1.out.lt)
               clear hb3)
            | fail)
          go_ret
          exact ⟨by rw [mft_no1 sh HNO.out]; try rfl, HB.out.trans (HB3.out.mono HB.out.size)⟩
        case pos =>
          subst hc
          have hyes : besideB p r c xs p r' c ys = true := by unfold besideB; simp [hu, hv]
          have HYES := Lib.hid hyes
          clear hu hv
          obtain ⟨R, C, rfl, rfl, _, rfl, _, hp7, hR7, hC1, hC7, hxl, hyl, hxr, hyr, hrk, hfull⟩ := beside_yes hyes
          clear hyes
          have hin : R * C ≤ n := by have := HL1.out; omega
          have HCM := Lib.hid (fun u (hbu : Below w1.heap.size w1 u) (j : Nat) (hj : j ≤ C) => l7Common_any p R C C R j A A' n k n' k' xs ys u hp7 (HSA.out.below hbu (Nat.le_refl _)) (HSB.out.below hbu (Nat.le_refl _)) hsh hsh' hnk hnk' hxr hyr hC7 hR7 (by omega) hin (by have := HL2.out; have h2 : j * C ≤ C * C := Nat.mul_le_mul hj (Nat.le_refl _); omega))
          have HBX := Lib.hid (fun u (hu : Below w1.heap.size w1 u) => l4Box_any AS m d sh R C u (HSS.out.below hu (Nat.le_refl _)) hm)
          cases hbx : boxB sh R C with
          | false =>
            rw [hbx] at HBX
            have HNO : Hid (mftW p R C xs p C C ys sh = false) := Lib.hid (mft_no2 hbx)
            clear hbx hxl hyl hxr hyr hrk hfull hp7
            go_enter Try.func23, Try.ntmps23
            go_upto_region 1 with fail
            rw [← HW.out, ← HG.out]
            go_wp2_with (first
              | (refine wpList_load_rowP rfl 27 (.tmp 3) rfl g rfl 27 #[.int .i64 p, .int .i64 R, .int .i64 C, .slice A n k] _ HK0.out Try.underlying27 rfl Try.infoMx ?_)
              | (go_at_call 63
                 with_reducible refine (HM1.out).mono ?_
                 rintro e w2 ⟨rfl, hb2⟩
                 have HB2 := Lib.hid hb2
                 obtain ⟨r0, r1, r2, r3⟩ := cells4 (HK1.out.below hb2 HK1.out.lt)
                 clear hb2)
              | (go_at_call 57
                 with_reducible refine (HM2.out _ HB2.out).mono ?_
                 rintro e w3 ⟨rfl, hb3⟩
                 have HB3 : Hid (Below w1.heap.size w1 w3) := Lib.hid (HB2.out.trans (hb3.mono HB2.out.size))
                 obtain ⟨q0, q1, q2, q3⟩ := cells4 (HK0.out.below HB3.out HK0.out.lt)
                 clear r0 r1 r2 r3
                 obtain ⟨r0, r1, r2, r3⟩ := cells4 (HK1.out.below HB3.out HK1.out.lt)
                 clear hb3)
              | (go_at_call 64
                 with_reducible refine (HBX.out _ HB3.out).mono ?_
                 rintro e w4 ⟨rfl, hd4⟩
                 have HB4 : Hid (Below w1.heap.size w1 w4) := Lib.hid (HB3.out.trans ((hd4.below _).mono HB3.out.size))
                 clear hd4)
              | fail)
            go_ret
            exact ⟨by rw [HNO.out]; try rfl, HB.out.trans (HB4.out.mono HB.out.size)⟩
          | true =>
            rw [hbx] at HBX
            have HJ := Lib.hid (fun (i : Nat) (hi : i < R) => mfJ_is hbx hi)
            have HPW : Hid (mftW p R C xs p C C ys sh = mftB p R C xs ys sh) := Lib.hid (by unfold mftW; rw [HYES.out, hbx]; simp only [Int.toNat_natCast, Bool.true_and])
            rw [HPW.out]
            have HAT := Lib.hid (fun u (hu : Below w1.heap.size w1 u) (i : Nat) (hi : i ≤ 7) => l4At_any AS m d sh i u (HSS.out.below hu (Nat.le_refl _)) hm (by omega))
            clear hbx hxl hyl hxr hyr hrk hfull hp7
            go_enter Try.func23, Try.ntmps23
            go_upto_region 1 with fail
            rw [← HW.out, ← HG.out]
            go_upto_region 3 with (first
              | (refine wpList_load_rowP rfl 27 (.tmp 3) rfl g rfl 27 #[.int .i64 p, .int .i64 R, .int .i64 C, .slice A n k] _ HK0.out Try.underlying27 rfl Try.infoMx ?_)
              | (go_at_call 63
                 with_reducible refine (HM1.out).mono ?_
                 rintro e w2 ⟨rfl, hb2⟩
                 have HB2 := Lib.hid hb2
                 obtain ⟨r0, r1, r2, r3⟩ := cells4 (HK1.out.below hb2 HK1.out.lt)
                 clear hb2)
              | (go_at_call 57
                 with_reducible refine (HM2.out _ HB2.out).mono ?_
                 rintro e w3 ⟨rfl, hb3⟩
                 have HB3 : Hid (Below w1.heap.size w1 w3) := Lib.hid (HB2.out.trans (hb3.mono HB2.out.size))
                 obtain ⟨q0, q1, q2, q3⟩ := cells4 (HK0.out.below HB3.out HK0.out.lt)
                 clear r0 r1 r2 r3
                 obtain ⟨r0, r1, r2, r3⟩ := cells4 (HK1.out.below HB3.out HK1.out.lt)
                 clear hb3)
              | (go_at_call 64
                 with_reducible refine (HBX.out _ HB3.out).mono ?_
                 rintro e w4 ⟨rfl, hd4⟩
                 have HB4 : Hid (Below w1.heap.size w1 w4) := Lib.hid (HB3.out.trans ((hd4.below _).mono HB3.out.size))
                 clear hd4)
              | fail)
            clear q0 q1 q2 q3 r0 r1 r2 r3
            go_wp2_with fail
            go_loopw [7] (fun iv wr => ∃ i : Nat, i ≤ R ∧ iv = .int .i64 i ∧ (∀ t, t < i → (t : Int) + 1 ≤ cmnR p (rowsC xs C R C) (rowsC ys C (mfJ R C sh t) C)) ∧ Below w1.heap.size w1 wr)
              (fun iv _ => R - (intOf iv).toNat)
            case atStart => exact ⟨0, Nat.zero_le _, rfl, fun t ht => absurd ht (Nat.not_lt_zero _), HB4.out⟩
            case round =>
              obtain ⟨i, hi, rfl, hall, hbr⟩ := hrel
              have HALL := Lib.hid hall
              have HBR := Lib.hid hbr
              obtain ⟨q0, q1, q2, q3⟩ := cells4 (HK0.out.below hbr HK0.out.lt)
              obtain ⟨r0, r1, r2, r3⟩ := cells4 (HK1.out.below hbr HK1.out.lt)
              clear hall hbr
              by_cases hiR : i < R
              case neg =>
                obtain rfl : i = R := by omega
                go_wp2
                go_ret
                exact ⟨by rw [mftB_yes HALL.out]; try rfl, HB.out.trans (HBR.out.mono HB.out.size)⟩
              case pos =>
                have hiI : (i : Int) < (R : Int) := by omega
                have hJ := HJ.out i hiR
                have HAI := Lib.hid (fun u hu => HAT.out u hu i (by omega))
                obtain ⟨J, hJe⟩ : ∃ J, J = mfJ R C sh i := ⟨_, rfl⟩
                obtain ⟨s, hse⟩ : ∃ s, s = nth sh i := ⟨_, rfl⟩
                rw [← hJe, ← hse] at hJ
                rw [← hse] at HAI
                obtain ⟨hRC, hJC, hJI, hs0, hs7⟩ := hJ
                have HCJ := Lib.hid (fun u hbu => HCM.out u hbu J hJC)
                obtain ⟨a, ha⟩ : ∃ a, a = cmnR p (rowsC xs C R C) (rowsC ys C J C) := ⟨_, rfl⟩
                have HA := Lib.hid ha
                have HJE := Lib.hid hJe
                rw [← ha] at HCJ
                have hw1 : IntKind.i64.wrap ((C : Int) - (R : Int)) = (C : Int) - (R : Int) := IntWalk.i64_in _ (by omega)
                have hw2 : IntKind.i64.wrap ((C : Int) - (R : Int) + (i : Int)) = (C : Int) - (R : Int) + (i : Int) := IntWalk.i64_in _ (by omega)
                have hw3 : IntKind.i64.wrap ((C : Int) - (R : Int) + (i : Int) + 1) = (C : Int) - (R : Int) + (i : Int) + 1 := IntWalk.i64_in _ (by omega)
                have hw4 : IntKind.i64.wrap ((C : Int) - (R : Int) + (i : Int) + 1 - s) = (J : Int) := by rw [hJI]; exact IntWalk.i64_in _ (by omega)
                have hw5 : IntKind.i64.wrap ((i : Int) + 1) = (i : Int) + 1 := IntWalk.i64_in _ (by omega)
                clear ha hJe hse hJI hs0 hs7 hRC
                have MKS : Hid (∀ u, Below w1.heap.size w1 u → (u.cell? ⟨g, 0, none⟩ = some (.int .i64 p) ∧ u.cell? ⟨g, 1, none⟩ = some (.int .i64 R) ∧ u.cell? ⟨g, 2, none⟩ = some (.int .i64 C) ∧ u.cell? ⟨g, 3, none⟩ = some (.slice A n k) ∧ u.cell? ⟨g + 1, 0, none⟩ = some (.int .i64 p) ∧ u.cell? ⟨g + 1, 1, none⟩ = some (.int .i64 C) ∧ u.cell? ⟨g + 1, 2, none⟩ = some (.int .i64 C) ∧ u.cell? ⟨g + 1, 3, none⟩ = some (.slice A' n' k'))) := Lib.hid (fun u hb => by obtain ⟨a0, a1, a2, a3⟩ := cells4 (HK0.out.below hb HK0.out.lt); obtain ⟨b0, b1, b2, b3⟩ := cells4 (HK1.out.below hb HK1.out.lt); exact ⟨a0, a1, a2, a3, b0, b1, b2, b3⟩)
                have HKd : Hid (wr.drew.cell? ⟨g, 0, none⟩ = some (.int .i64 p) ∧ wr.drew.cell? ⟨g, 1, none⟩ = some (.int .i64 R) ∧ wr.drew.cell? ⟨g, 2, none⟩ = some (.int .i64 C) ∧ wr.drew.cell? ⟨g, 3, none⟩ = some (.slice A n k) ∧ wr.drew.cell? ⟨g + 1, 0, none⟩ = some (.int .i64 p) ∧ wr.drew.cell? ⟨g + 1, 1, none⟩ = some (.int .i64 C) ∧ wr.drew.cell? ⟨g + 1, 2, none⟩ = some (.int .i64 C) ∧ wr.drew.cell? ⟨g + 1, 3, none⟩ = some (.slice A' n' k')) := Lib.hid (MKS.out wr HBR.out)
                have HKn := Lib.hid (MKS.out wr HBR.out)
                go_upto_region 6 with fail
                clear q0 q1 q2 q3 r0 r1 r2 r3
                go_region_held3 (fun u => u.cell? ⟨g, 0, none⟩ = some (.int .i64 p) ∧ u.cell? ⟨g, 1, none⟩ = some (.int .i64 R) ∧ u.cell? ⟨g, 2, none⟩ = some (.int .i64 C) ∧ u.cell? ⟨g, 3, none⟩ = some (.slice A n k) ∧ u.cell? ⟨g + 1, 0, none⟩ = some (.int .i64 p) ∧ u.cell? ⟨g + 1, 1, none⟩ = some (.int .i64 C) ∧ u.cell? ⟨g + 1, 2, none⟩ = some (.int .i64 C) ∧ u.cell? ⟨g + 1, 3, none⟩ = some (.slice A' n' k'))
                  (first | with_reducible exact HKd.out | with_reducible exact HKn.out | with_reducible exact KU1)
                  (first
                    | (go_at_call 65
                       with_reducible refine (HAI.out _ (HBR.out.drew)).mono ?_
                       rintro e u0 ⟨rfl, rfl⟩)
                    | (go_at_call 58
                       with_reducible refine (HCJ.out _ (HBR.out.drew)).mono ?_
                       rintro e u1 ⟨rfl, hb⟩
                       have Hc1 : Hid (Below w1.heap.size w1 u1) := Lib.hid (HBR.out.trans ((((Below.refl _ _).drew).trans hb).mono HBR.out.size))
                       have KU1 := MKS.out u1 Hc1.out
                       clear hb))
                by_cases hlt : a < (i : Int) + 1
                case pos =>
                  have HNO : Hid (mftB p R C xs ys sh = false) := Lib.hid (mftB_no hiR (by rw [← HJE.out, ← HA.out]; omega))
                  go_wp2
                  go_ret
                  exact ⟨by rw [HNO.out]; try rfl, HB.out.trans (Hc1.out.mono HB.out.size)⟩
                case neg =>
                  have HST : Hid (∀ t, t < i + 1 → (t : Int) + 1 ≤ cmnR p (rowsC xs C R C) (rowsC ys C (mfJ R C sh t) C)) := Lib.hid (fun t ht => by
                      by_cases h : t < i
                      · exact HALL.out t h
                      · obtain rfl : t = i := by omega
                        rw [← HJE.out, ← HA.out]; omega)
                  go_wp2
                  go_roundw
                  case rel => exact ⟨i + 1, by omega, by go_num, HST.out, Hc1.out⟩
                  case measure => simp [intOf]; omega

end Go.Proofs.Ytfaegfhbbkicgaa

/-
  MeetsFlag on the program's side. Conditions: lengths below 2^40.
-/



namespace Go.Proofs.Ytfaegfhbbkicgaa
open Go.RowKit

set_option maxRecDepth 100000 in
set_option maxHeartbeats 8000000 in
theorem implMeetsFlag_any (p r c p' r' c' : Int) (A A' : Option Addr) (n k n' k' : Nat) (xs ys : List Int) (AS : Option Addr) (m d : Nat) (sh : List Int) (w : World) (hs : SI w A n xs) (hs' : SI w A' n' ys) (hss : SI w AS m sh) (hm : m ≤ 1099511627776) (hn : n ≤ 1099511627776) (hn' : n' ≤ 1099511627776) (hnk : n ≤ k) (hnk' : n' ≤ k') :
    Calls Try.prog 25 #[.agg #[.int .i64 p, .int .i64 r, .int .i64 c, .slice A n k], .agg #[.int .i64 p', .int .i64 r', .int .i64 c', .slice A' n' k'], .slice AS m d] w fun e w' => e = .returned (.bool (mftW p r c xs p' r' c' ys sh)) ∧ Below w.heap.size w w' := by
  obtain ⟨zp, zr, zc, z, ok, hz⟩ := nf_ex p' r' c' ys
  obtain ⟨w1, hw1⟩ : ∃ w1, w1 = ((w.alloc (.cells #[.int .i64 p, .int .i64 r, .int .i64 c, .slice A n k] 27)).alloc (.cells #[.int .i64 p', .int .i64 r', .int .i64 c', .slice A' n' k'] 27)) := ⟨_, rfl⟩
  obtain ⟨g, hg⟩ : ∃ g, g = w.heap.size := ⟨_, rfl⟩
  have HK0 : Hid (Blk w1 (g) 27 #[.int .i64 p, .int .i64 r, .int .i64 c, .slice A n k]) := Lib.hid (by rw [hw1, hg]; have := (Blk.new w 27 #[.int .i64 p, .int .i64 r, .int .i64 c, .slice A n k]).alloc (.cells #[.int .i64 p', .int .i64 r', .int .i64 c', .slice A' n' k'] 27); simpa using this)
  have HK1 : Hid (Blk w1 (g + 1) 27 #[.int .i64 p', .int .i64 r', .int .i64 c', .slice A' n' k']) := Lib.hid (by rw [hw1, hg]; have := Blk.new (w.alloc (.cells #[.int .i64 p, .int .i64 r, .int .i64 c, .slice A n k] 27)) 27 #[.int .i64 p', .int .i64 r', .int .i64 c', .slice A' n' k']; simpa using this)
  have hb : Below w.heap.size w w1 := by rw [hw1]; go_grown
  have HB := Lib.hid hb
  have HW := Lib.hid hw1
  have HG := Lib.hid hg
  have HSZ : Hid (w1.heap.size = g + 2) := Lib.hid (by rw [hw1, hg]; simp)
  have HSA := Lib.hid (hs.below hb (Nat.le_refl _))
  have HSS := Lib.hid (hss.below hb (Nat.le_refl _))
  have HL1 := Lib.hid hs.1
  have HFB := Lib.hid (flagBeside_z p r c p' r' c' A A' n k n' k' xs ys w1 (hs.below hb (Nat.le_refl _)) (hs'.below hb (Nat.le_refl _)) hn hn' hnk hnk' zp zr zc z ok hz)
  obtain ⟨W, hW⟩ : ∃ W, W = flgW p' r' c' ys := ⟨_, rfl⟩
  rw [← hW] at HFB
  clear hw1 hg hb hs hs' hss hW
  cases hu : besideB p r c xs p' r' c' ys with
  | false =>
    rw [hu] at HFB
    have HNO := Lib.hid hu
    clear hu hz
    go_enter Try.func25, Try.ntmps25
    go_upto_region 1 with fail
    rw [← HW.out, ← HG.out]
    go_upto_region 2 with (first
      | (refine wpList_load_rowP rfl 27 (.tmp 3) rfl g rfl 27 #[.int .i64 p, .int .i64 r, .int .i64 c, .slice A n k] _ HK0.out Try.underlying27 rfl Try.infoMx ?_)
      | (refine wpList_load_rowP rfl 27 (.tmp 4) rfl (g + 1) rfl 27 #[.int .i64 p', .int .i64 r', .int .i64 c', .slice A' n' k'] _ HK1.out Try.underlying27 rfl Try.infoMx ?_)
      | (go_at_call 66
         with_reducible refine (HFB.out).mono ?_
         rintro e w2 ⟨P3, m3, d3, AC, nC, cC, rfl, ho2, hc2, hb2⟩
         have HO2 := Lib.hid ho2
         have HB2 := Lib.hid hb2
         clear ho2 hc2 hb2)
      | (refine wpList_store_rowP rfl 76 (.tmp 7) (.tmp 15) rfl w2.heap.size #[.int .i64 zp, .int .i64 zr, .int .i64 zc, .slice P3 m3 d3, .slice AC nC cC] rfl rfl 76 #[.int .i64 0, .int .i64 0, .int .i64 0, .slice none 0 0, .slice none 0 0] (Blk.new _ _ _) Try.infoNf rfl (by simp [Value.oneCell']) ?_; intro w3 hb3 hg3)
      | fail)
    have hz3 : w2.heap.size < w3.heap.size := hb3.lt
    have HB3 : Hid (Below w1.heap.size w1 w3) := Lib.hid ((HB2.out.alloc HB2.out.size _).grown hg3 (by have := HB2.out.size; simp; omega) (by rintro q ⟨⟩; exact HB2.out.size))
    have HO3 : Hid (Own w3 w1.heap.size w2.heap.size P3 m3 d3 z) := Lib.hid ((HO2.out.below (Below.alloc_self _ _) (Nat.le_refl _)).grown hg3 (fun q hq => by injection hq with hq; omega))
    obtain ⟨gb, hgb⟩ : ∃ q, q = w2.heap.size := ⟨_, rfl⟩
    rw [← hgb] at hb3 HO3 hz3 ⊢
    have HKB := Lib.hid hb3
    have HZ3 : Hid (gb < w3.heap.size) := Lib.hid hz3
    clear hb3 hg3 hz3 hgb HO2 HB2
    go_wp2_with fail
    go_ret
    exact ⟨by rw [mft_no1 sh HNO.out]; try rfl, HB.out.trans (HB3.out.mono HB.out.size)⟩
  | true =>
    rw [hu] at HFB
    have HYES := Lib.hid hu
    obtain ⟨R, C, rfl, rfl, rfl, rfl, rfl, hp7, hR7, hC1, hC7, hxl, hyl, hxr, hyr, hrk, hfull⟩ := beside_yes hu
    have hokk : ok = true := by rw [hz.1]; unfold besideB at hu; simp only [Bool.and_eq_true] at hu; exact hu.2.1
    obtain ⟨rfl, rfl, rfl, rfl⟩ := hz.2.1 hokk
    simp only [Int.toNat_natCast, nfX] at HFB
    have hp2 := hp7.two
    have hro := rowsC_ok (p := zp) (d := xs) (by omega) hxr C R C
    have hyo := rowsC_ok (p := zp) (d := ys) (by omega) hyr C C C
    have hEk := (echel_ok hp7 hyo).1.1
    obtain ⟨X, hX⟩ : ∃ X, X = flatK C C ((echel zp (rowsC ys C C C)).map (·.1)) C := ⟨_, rfl⟩
    rw [← hX] at HFB
    have hXl : X.length = C * C := by rw [hX, flatK_len]
    have hXr : Rg zp X := by rw [hX]; exact flat_rg hp7 hEk hfull
    have hcm : ∀ i, i ≤ C → (R : Int) + (i : Int) - (rnkL zp (rowsC X C i C ++ rowsC xs C R C) : Int) = cmnR zp (rowsC xs C R C) (rowsC ys C i C) := fun i hi => by rw [hX, flat_rows (fun e he => (hEk e he).1) hfull hi]; exact common_same hp7 hyr hfull hro (rowsC_len ..) hrk hi
    have HCW := Lib.hid (fun u (P : Option Addr) (m d : Nat) (AC : Option Addr) (nC cC : Nat) (AS : Option Addr) (cS : Nat) (i : Nat) (hi : i ≤ C) (h : SI u P m X) (hmd : m ≤ d) (hS : LS u AS R (rowsC xs C R C)) => (by have := commonWith_any zp C R i P m d AC nC cC AS cS X (rowsC xs C R C) u hp7 h hmd hXl hXr hC1 hC7 hS hro hR7 hi; rw [hcm i hi] at this; exact this : Calls Try.prog 69 #[.agg #[.int .i64 zp, .int .i64 C, .int .i64 C, .slice P m d, .slice AC nC cC], .slice AS R cS, .int .i64 i] u fun e w' => e = .returned (.int .i64 (cmnR zp (rowsC xs C R C) (rowsC ys C i C))) ∧ Below u.heap.size u w'))
    have HAR := Lib.hid (fun u (hu : Below w1.heap.size w1 u) => allRows_any zp R C A n k xs u (HSA.out.below hu (Nat.le_refl _)) ⟨hC1, by omega⟩ (by omega) hxl hnk)
    have HFI := Lib.hid (fun u (hu : Below w1.heap.size w1 u) => fitsInto_any AS m d sh R C u (HSS.out.below hu (Nat.le_refl _)) hm)
    obtain ⟨z, hzX⟩ : ∃ z, z = X := ⟨_, rfl⟩
    rw [← hzX] at HFB HCW
    clear hu hz hokk hX hXl hXr hcm hro hyo hEk hrk hfull hxl hyl hxr hyr hzX
    cases hbx : boxB sh R C with
    | false =>
      rw [hbx] at HFI
      have HNO : Hid (mftW zp R C xs zp C C ys sh = false) := Lib.hid (mft_no2 hbx)
      clear hbx
      go_enter Try.func25, Try.ntmps25
      go_upto_region 1 with fail
      rw [← HW.out, ← HG.out]
      go_upto_region 2 with (first
        | (refine wpList_load_rowP rfl 27 (.tmp 3) rfl g rfl 27 #[.int .i64 zp, .int .i64 R, .int .i64 C, .slice A n k] _ HK0.out Try.underlying27 rfl Try.infoMx ?_)
        | (refine wpList_load_rowP rfl 27 (.tmp 4) rfl (g + 1) rfl 27 #[.int .i64 zp, .int .i64 C, .int .i64 C, .slice A' n' k'] _ HK1.out Try.underlying27 rfl Try.infoMx ?_)
        | (go_at_call 66
           with_reducible refine (HFB.out).mono ?_
           rintro e w2 ⟨P3, m3, d3, AC, nC, cC, rfl, ho2, hc2, hb2⟩
           have HO2 := Lib.hid ho2
           have HB2 := Lib.hid hb2
           clear ho2 hc2 hb2)
        | (refine wpList_store_rowP rfl 76 (.tmp 7) (.tmp 15) rfl w2.heap.size #[.int .i64 zp, .int .i64 C, .int .i64 C, .slice P3 m3 d3, .slice AC nC cC] rfl rfl 76 #[.int .i64 0, .int .i64 0, .int .i64 0, .slice none 0 0, .slice none 0 0] (Blk.new _ _ _) Try.infoNf rfl (by simp [Value.oneCell']) ?_; intro w3 hb3 hg3)
        | fail)
      have hz3 : w2.heap.size < w3.heap.size := hb3.lt
      have HB3 : Hid (Below w1.heap.size w1 w3) := Lib.hid ((HB2.out.alloc HB2.out.size _).grown hg3 (by have := HB2.out.size; simp; omega) (by rintro q ⟨⟩; exact HB2.out.size))
      have HO3 : Hid (Own w3 w1.heap.size w2.heap.size P3 m3 d3 z) := Lib.hid ((HO2.out.below (Below.alloc_self _ _) (Nat.le_refl _)).grown hg3 (fun q hq => by injection hq with hq; omega))
      obtain ⟨gb, hgb⟩ : ∃ q, q = w2.heap.size := ⟨_, rfl⟩
      rw [← hgb] at hb3 HO3 hz3 ⊢
      have HKB := Lib.hid hb3
      have HZ3 : Hid (gb < w3.heap.size) := Lib.hid hz3
      clear hb3 hg3 hz3 hgb HO2 HB2
      obtain ⟨q0, q1, q2, q3⟩ := cells4 (HK0.out.below HB3.out HK0.out.lt)
      go_wp2_with (first
        | (go_at_call 67
           with_reducible refine (HFI.out _ HB3.out).mono ?_
           rintro e w4 ⟨rfl, hd4⟩
           have HB34 : Hid (Below w3.heap.size w3 w4) := Lib.hid (hd4.below _)
           have HB4 : Hid (Below w1.heap.size w1 w4) := Lib.hid (HB3.out.trans (HB34.out.mono HB3.out.size))
           clear hd4 q0 q1 q2 q3
           obtain ⟨q0, q1, q2, q3⟩ := cells4 (HK0.out.below HB4.out HK0.out.lt))
        | fail)
      go_ret
      exact ⟨by rw [HNO.out]; try rfl, HB.out.trans (HB4.out.mono HB.out.size)⟩
    | true =>
      rw [hbx] at HFI
      have HJ := Lib.hid (fun (i : Nat) (hi : i < R) => mfJ_is hbx hi)
      have HPW : Hid (mftW zp R C xs zp C C ys sh = mftB zp R C xs ys sh) := Lib.hid (by unfold mftW; rw [HYES.out, hbx]; simp only [Int.toNat_natCast, Bool.true_and])
      rw [HPW.out]
      have hm7 : m ≤ 7 := by have h := boxB_P hbx; have h2 := HSS.out.1; have := h.2.2.2.2.2.1; omega
      have HRW := Lib.hid (fun u (hu : Below w1.heap.size w1 u) => rowLengthsOf_any AS m d sh u (HSS.out.below hu (Nat.le_refl _)) (by omega))
      have HPAD : Hid (∀ i, i < 16 → nth (padN 16 sh) i = nth sh i) := Lib.hid (fun i _ => padN_nth 16 sh i)
      clear hbx
      go_enter Try.func25, Try.ntmps25
      go_upto_region 1 with fail
      rw [← HW.out, ← HG.out]
      go_upto_region 2 with (first
        | (refine wpList_load_rowP rfl 27 (.tmp 3) rfl g rfl 27 #[.int .i64 zp, .int .i64 R, .int .i64 C, .slice A n k] _ HK0.out Try.underlying27 rfl Try.infoMx ?_)
        | (refine wpList_load_rowP rfl 27 (.tmp 4) rfl (g + 1) rfl 27 #[.int .i64 zp, .int .i64 C, .int .i64 C, .slice A' n' k'] _ HK1.out Try.underlying27 rfl Try.infoMx ?_)
        | (go_at_call 66
           with_reducible refine (HFB.out).mono ?_
           rintro e w2 ⟨P3, m3, d3, AC, nC, cC, rfl, ho2, hc2, hb2⟩
           have HO2 := Lib.hid ho2
           have HB2 := Lib.hid hb2
           clear ho2 hc2 hb2)
        | (refine wpList_store_rowP rfl 76 (.tmp 7) (.tmp 15) rfl w2.heap.size #[.int .i64 zp, .int .i64 C, .int .i64 C, .slice P3 m3 d3, .slice AC nC cC] rfl rfl 76 #[.int .i64 0, .int .i64 0, .int .i64 0, .slice none 0 0, .slice none 0 0] (Blk.new _ _ _) Try.infoNf rfl (by simp [Value.oneCell']) ?_; intro w3 hb3 hg3)
        | fail)
      have hz3 : w2.heap.size < w3.heap.size := hb3.lt
      have HB3 : Hid (Below w1.heap.size w1 w3) := Lib.hid ((HB2.out.alloc HB2.out.size _).grown hg3 (by have := HB2.out.size; simp; omega) (by rintro q ⟨⟩; exact HB2.out.size))
      have HO3 : Hid (Own w3 w1.heap.size w2.heap.size P3 m3 d3 z) := Lib.hid ((HO2.out.below (Below.alloc_self _ _) (Nat.le_refl _)).grown hg3 (fun q hq => by injection hq with hq; omega))
      obtain ⟨gb, hgb⟩ : ∃ q, q = w2.heap.size := ⟨_, rfl⟩
      rw [← hgb] at hb3 HO3 hz3 ⊢
      have HKB := Lib.hid hb3
      have HZ3 : Hid (gb < w3.heap.size) := Lib.hid hz3
      clear hb3 hg3 hz3 hgb HO2 HB2
      obtain ⟨q0, q1, q2, q3⟩ := cells4 (HK0.out.below HB3.out HK0.out.lt)
      go_upto_region 4 with (first
        | (go_at_call 67
           with_reducible refine (HFI.out _ HB3.out).mono ?_
           rintro e w4 ⟨rfl, hd4⟩
           have HB34 : Hid (Below w3.heap.size w3 w4) := Lib.hid (hd4.below _)
           have HB4 : Hid (Below w1.heap.size w1 w4) := Lib.hid (HB3.out.trans (HB34.out.mono HB3.out.size))
           clear hd4 q0 q1 q2 q3
           obtain ⟨q0, q1, q2, q3⟩ := cells4 (HK0.out.below HB4.out HK0.out.lt))
        | fail)
      go_upto_region 5 with (first
        | (go_at_call 68
           with_reducible refine (HRW.out _ HB4.out).mono ?_
           rintro e w5 ⟨rfl, hb5⟩
           have HB45 := Lib.hid hb5
           have HB5 : Hid (Below w1.heap.size w1 w5) := Lib.hid (HB4.out.trans (hb5.mono HB4.out.size))
           have HB35 : Hid (Below w3.heap.size w3 w5) := Lib.hid (HB34.out.trans (hb5.mono HB34.out.size))
           clear hb5)
        | (refine wpList_store_rowP rfl 82 (.tmp 9) (.tmp 29) rfl w5.heap.size (arrD (padN 16 sh)) rfl rfl 82 zero16 (Blk.new _ _ _) Try.infoRows rfl (arrD_one _) ?_; intro w6 hb6 hg6)
        | fail)
      have HB36 : Hid (Below w3.heap.size w3 w6) := Lib.hid ((HB35.out.alloc HB35.out.size _).grown hg6 (by have := HB35.out.size; simp; omega) (by rintro q ⟨⟩; exact HB35.out.size))
      obtain ⟨gr, hgr⟩ : ∃ q, q = w5.heap.size := ⟨_, rfl⟩
      rw [← hgr] at hb6 ⊢
      have HKR := Lib.hid hb6
      have HGR := Lib.hid hgr
      have HZ6 : Hid (w3.heap.size ≤ w6.heap.size) := Lib.hid HB36.out.size
      have HLR : Hid (gr < w6.heap.size) := Lib.hid hb6.lt
      clear hb6 hg6 hgr q0 q1 q2 q3
      have HB6 : Hid (Below w1.heap.size w1 w6) := Lib.hid (HB3.out.trans (HB36.out.mono HB3.out.size))
      obtain ⟨q0, q1, q2, q3⟩ := cells4 (HK0.out.below HB6.out HK0.out.lt)
      go_wp2_with fail
      go_loopw [32] (fun iv wr => ∃ i : Nat, i ≤ R ∧ iv = .int .i64 i ∧ (∀ t, t < i → (t : Int) + 1 ≤ cmnR zp (rowsC xs C R C) (rowsC ys C (mfJ R C sh t) C)) ∧ Below w6.heap.size w6 wr)
        (fun iv _ => R - (intOf iv).toNat)
      case atStart => exact ⟨0, Nat.zero_le _, rfl, fun t ht => absurd ht (Nat.not_lt_zero _), Below.refl _ _⟩
      case round =>
        clear q0 q1 q2 q3
        obtain ⟨i, hi, rfl, hall, hbr⟩ := hrel
        have HALL := Lib.hid hall
        have HBR6 := Lib.hid hbr
        have HBR : Hid (Below w1.heap.size w1 wr) := Lib.hid (HB6.out.trans (hbr.mono HB6.out.size))
        clear hall hbr
        by_cases hiR : i < R
        case neg =>
          obtain rfl : i = R := by omega
          go_wp2
          go_ret
          exact ⟨by rw [mftB_yes HALL.out]; try rfl, HB.out.trans (HBR.out.mono HB.out.size)⟩
        case pos =>
          have hiI : (i : Int) < (R : Int) := by omega
          have hi16 : i < 16 := by omega
          have hi16I : (i : Int) < 16 := by omega
          have hJ := HJ.out i hiR
          obtain ⟨J, hJe⟩ : ∃ J, J = mfJ R C sh i := ⟨_, rfl⟩
          obtain ⟨s, hse⟩ : ∃ s, s = nth sh i := ⟨_, rfl⟩
          rw [← hJe, ← hse] at hJ
          obtain ⟨hRC, hJC, hJI, hs0, hs7⟩ := hJ
          have HRI : Hid ((arrD (padN 16 sh))[i]? = some (.int .i64 s)) := Lib.hid (by rw [arrD_get _ _ hi16, HPAD.out i hi16, hse])
          obtain ⟨a, ha⟩ : ∃ a, a = cmnR zp (rowsC xs C R C) (rowsC ys C J C) := ⟨_, rfl⟩
          have HA := Lib.hid ha
          have HJE := Lib.hid hJe
          have HCJ := Lib.hid (fun u AS cS h hS => HCW.out u P3 m3 d3 AC nC cC AS cS J hJC h HO3.out.cap hS)
          rw [← ha] at HCJ
          have hw1 : IntKind.i64.wrap ((C : Int) - (R : Int)) = (C : Int) - (R : Int) := IntWalk.i64_in _ (by omega)
          have hw2 : IntKind.i64.wrap ((C : Int) - (R : Int) + (i : Int)) = (C : Int) - (R : Int) + (i : Int) := IntWalk.i64_in _ (by omega)
          have hw3 : IntKind.i64.wrap ((C : Int) - (R : Int) + (i : Int) + 1) = (C : Int) - (R : Int) + (i : Int) + 1 := IntWalk.i64_in _ (by omega)
          have hw4 : IntKind.i64.wrap ((C : Int) - (R : Int) + (i : Int) + 1 - s) = (J : Int) := by rw [hJI]; exact IntWalk.i64_in _ (by omega)
          have hw5 : IntKind.i64.wrap ((i : Int) + 1) = (i : Int) + 1 := IntWalk.i64_in _ (by omega)
          clear ha hJe hse hJI hs0 hs7 hRC hJC
          have MKS : Hid (∀ u, Below w6.heap.size w6 u → (u.cell? ⟨g, 0, none⟩ = some (.int .i64 zp) ∧ u.cell? ⟨g, 1, none⟩ = some (.int .i64 R) ∧ u.cell? ⟨g, 2, none⟩ = some (.int .i64 C) ∧ u.cell? ⟨g, 3, none⟩ = some (.slice A n k) ∧ u.cell? ⟨gb, 0, none⟩ = some (.int .i64 zp) ∧ u.cell? ⟨gb, 1, none⟩ = some (.int .i64 C) ∧ u.cell? ⟨gb, 2, none⟩ = some (.int .i64 C) ∧ u.cell? ⟨gb, 3, none⟩ = some (.slice P3 m3 d3) ∧ u.cell? ⟨gb, 4, none⟩ = some (.slice AC nC cC) ∧ u.cell? ⟨gr, i, none⟩ = some (.int .i64 s))) := Lib.hid (fun u hb => by obtain ⟨a0, a1, a2, a3⟩ := cells4 (HK0.out.below (HB6.out.trans (hb.mono HB6.out.size)) HK0.out.lt); have h2 := (HKB.out.below HB36.out HKB.out.lt).below hb (Nat.lt_of_lt_of_le HZ3.out HZ6.out); have h3 := (HKR.out.below hb HKR.out.lt).cell i; rw [HRI.out] at h3; exact ⟨a0, a1, a2, a3, h2.cell 0, h2.cell 1, h2.cell 2, h2.cell 3, h2.cell 4, h3⟩)
          have HKd : Hid (wr.drew.cell? ⟨g, 0, none⟩ = some (.int .i64 zp) ∧ wr.drew.cell? ⟨g, 1, none⟩ = some (.int .i64 R) ∧ wr.drew.cell? ⟨g, 2, none⟩ = some (.int .i64 C) ∧ wr.drew.cell? ⟨g, 3, none⟩ = some (.slice A n k) ∧ wr.drew.cell? ⟨gb, 0, none⟩ = some (.int .i64 zp) ∧ wr.drew.cell? ⟨gb, 1, none⟩ = some (.int .i64 C) ∧ wr.drew.cell? ⟨gb, 2, none⟩ = some (.int .i64 C) ∧ wr.drew.cell? ⟨gb, 3, none⟩ = some (.slice P3 m3 d3) ∧ wr.drew.cell? ⟨gb, 4, none⟩ = some (.slice AC nC cC) ∧ wr.drew.cell? ⟨gr, i, none⟩ = some (.int .i64 s)) := Lib.hid (MKS.out _ (HBR6.out.drew))
          have HKn := Lib.hid (MKS.out _ (HBR6.out))
          go_upto_region 8 with fail
          go_region_held3 (fun u => u.cell? ⟨g, 0, none⟩ = some (.int .i64 zp) ∧ u.cell? ⟨g, 1, none⟩ = some (.int .i64 R) ∧ u.cell? ⟨g, 2, none⟩ = some (.int .i64 C) ∧ u.cell? ⟨g, 3, none⟩ = some (.slice A n k) ∧ u.cell? ⟨gb, 0, none⟩ = some (.int .i64 zp) ∧ u.cell? ⟨gb, 1, none⟩ = some (.int .i64 C) ∧ u.cell? ⟨gb, 2, none⟩ = some (.int .i64 C) ∧ u.cell? ⟨gb, 3, none⟩ = some (.slice P3 m3 d3) ∧ u.cell? ⟨gb, 4, none⟩ = some (.slice AC nC cC) ∧ u.cell? ⟨gr, i, none⟩ = some (.int .i64 s))
            (first | with_reducible exact HKd.out | with_reducible exact HKn.out | with_reducible exact KU1 | with_reducible exact KU2)
            (first
              | (go_at_call 69
                 with_reducible refine (HCJ.out u1 _ _ HSX.out HLS.out).mono ?_
                 rintro e u2 ⟨rfl, hb⟩
                 have HW2 : Hid (Below w6.heap.size w6 u2) := Lib.hid (HW1.out.trans (hb.mono HW1.out.size))
                 have KU2 := MKS.out u2 HW2.out
                 clear hb)
              | (go_at_call 70
                 with_reducible refine (HAR.out _ (HBR.out.drew)).mono ?_
                 rintro e u1 ⟨ga, rfl, hls, hb⟩
                 have HW1 : Hid (Below w6.heap.size w6 u1) := Lib.hid (HBR6.out.drew.trans (hb.mono HBR6.out.size))
                 have KU1 := MKS.out u1 HW1.out
                 have HLS := Lib.hid hls
                 have HSX : Hid (SI u1 P3 m3 z) := Lib.hid ((HO3.out.si.below HB36.out (Nat.le_refl _)).below HW1.out (Nat.le_refl _))
                 have HLS := Lib.hid hls
                 clear hls hb))
          have HW2w : Hid (Below w1.heap.size w1 u2) := Lib.hid (HB6.out.trans (HW2.out.mono HB6.out.size))
          by_cases hlt : a < (i : Int) + 1
          case pos =>
            have HNO : Hid (mftB zp R C xs ys sh = false) := Lib.hid (mftB_no hiR (by rw [← HJE.out, ← HA.out]; omega))
            go_wp2
            go_ret
            exact ⟨by rw [HNO.out]; try rfl, HB.out.trans (HW2w.out.mono HB.out.size)⟩
          case neg =>
            have HST : Hid (∀ t, t < i + 1 → (t : Int) + 1 ≤ cmnR zp (rowsC xs C R C) (rowsC ys C (mfJ R C sh t) C)) := Lib.hid (fun t ht => by
                by_cases h : t < i
                · exact HALL.out t h
                · obtain rfl : t = i := by omega
                  rw [← HJE.out, ← HA.out]; omega)
            go_wp2
            go_roundw
            case rel => exact ⟨i + 1, by omega, by go_num, HST.out, HW2.out⟩
            case measure => simp [intOf]; omega

end Go.Proofs.Ytfaegfhbbkicgaa

/-
  What two spaces have in common: mathematics. Conditions: p is 2, 3, 5 or 7.
-/


namespace Go.Proofs.Ytfaegfhbbkicgaa
open Go.RowKit

theorem nth_dropM (e : List Int) (m k : Nat) : nth (e.drop m) k = nth e (m + k) := by simp [nth, List.getD]
/-- Zeros at the first n columns, and then u. -/
def shU (n : Nat) (u : Nat → Int) : Nat → Int := fun k => if k < n then 0 else u (k - n)
theorem shU_at (n : Nat) (u : Nat → Int) (k : Nat) : shU n u (n + k) = u k := by
  unfold shU; rw [if_neg (by omega)]; congr 1; omega
/-- The rows that begin at column n or later. -/
def lateF (n : Nat) (R : List ((Nat → Int) × Nat)) : List (Nat → Int) := (R.filter fun x => decide (n ≤ x.2)).map fun x k => x.1 (n + k)
theorem late_sp {p : Int} {n m : Nat} : ∀ {R : List ((Nat → Int) × Nat)}, Ech p (n + m) R → ∀ u : Nat → Int, Sp p m (lateF n R) u ↔ Sp p (n + m) (R.map (·.1)) (shU n u)
  | [], _, u => by
    constructor
    · intro h k hk
      unfold shU
      split
      · exact Int.dvd_zero _
      · exact h _ (by omega)
    · intro h k hk
      have h1 := h (n + k) (by omega)
      rwa [shU_at] at h1
  | (e, c) :: R, h, u => by
    obtain ⟨hc, he, hbe, hz, hR⟩ := h
    by_cases hcn : n ≤ c
    · have e1 : lateF n ((e, c) :: R) = (fun k => e (n + k)) :: lateF n R := by simp [lateF, hcn]
      rw [e1]
      have hd : ∀ a : Int, ∀ k, k < n + m → p ∣ shU n (fun k => u k - a * e (n + k)) k - (shU n u k - a * e k) := fun a k hk => by
        unfold shU
        by_cases hkn : k < n
        · rw [if_pos hkn, if_pos hkn]
          have h1 := Int.dvd_mul_of_dvd_right (b := a) (hbe k (by omega))
          have e2 : 0 - (0 - a * e k) = a * e k := by omega
          rw [e2]; exact h1
        · rw [if_neg hkn, if_neg hkn]
          have e3 : n + (k - n) = k := by omega
          show p ∣ u (k - n) - a * e (n + (k - n)) - (u (k - n) - a * e k)
          rw [e3, Int.sub_self]
          exact Int.dvd_zero _
      constructor
      · rintro ⟨a, h⟩
        refine ⟨a, ((late_sp hR _).1 h).congr (hd a)⟩
      · rintro ⟨a, h⟩
        refine ⟨a, (late_sp hR _).2 (h.congr fun k hk => ?_)⟩
        have h1 := hd a k hk
        have e2 : shU n u k - a * e k - shU n (fun k => u k - a * e (n + k)) k = -(shU n (fun k => u k - a * e (n + k)) k - (shU n u k - a * e k)) := by omega
        rw [e2]; exact Int.dvd_neg.2 h1
    · have e1 : lateF n ((e, c) :: R) = lateF n R := by simp [lateF, hcn]
      rw [e1, late_sp hR u]
      constructor
      · intro h
        exact ⟨0, h.of_eq fun k _ => by show _ = shU n u k - 0 * e k; rw [Int.zero_mul]; omega⟩
      · rintro ⟨a, h⟩
        have h1 : p ∣ shU n u c - a * e c := Sp.zero_at hc (v := fun k => shU n u k - a * e k) (fun r hr => by
          obtain ⟨x, hx, rfl⟩ := List.mem_map.1 hr
          exact hz x hx) h
        have h2 : shU n u c = 0 := by unfold shU; rw [if_pos (by omega)]
        rw [h2] at h1
        have ha : p ∣ a := by
          have h3 := Int.dvd_mul_of_dvd_right (b := a) he
          have h4 := Int.dvd_add h1 h3
          have e3 : 0 - a * e c + a * (e c - 1) = -a := by rw [Int.mul_sub]; omega
          rw [e3] at h4
          exact Int.dvd_neg.1 h4
        refine h.congr fun k _ => ?_
        have e4 : shU n u k - a * e k - shU n u k = -(a * e k) := by omega
        show p ∣ shU n u k - a * e k - shU n u k
        rw [e4]; exact Int.dvd_neg.2 (Int.dvd_mul_of_dvd_left ha)
/-- Reduced rows of one span are one list. -/
theorem desc_uniq {p : Int} {n : Nat} (hp : P7 p) {D F : List (List Int × Int)} (hD : EOk p n D) (hF : EOk p n F) (dD : (D.map (·.2)).Pairwise fun a b => b < a) (dF : (F.map (·.2)).Pairwise fun a b => b < a)
    (h : ∀ v, Sp p n (vec D) v ↔ Sp p n (vec F) v) : D = F := by
  have hp2 := hp.two
  have hs := Ech.same_cols hp2 hD.2 hF.2 (fun v => by rw [prs_vec, prs_vec]; exact h v)
  have hin : ∀ {A B : List (List Int × Int)}, EOk p n A → EOk p n B → (∀ c, c ∈ (prs A).map (·.2) → c ∈ (prs B).map (·.2)) → ∀ c : Int, c ∈ A.map (·.2) → c ∈ B.map (·.2) := fun {A B} hA hB hab c hc => by
    obtain ⟨e, he, rfl⟩ := List.mem_map.1 hc
    have h1 := hab e.2.toNat (List.mem_map.2 ⟨(nth e.1, e.2.toNat), List.mem_map.2 ⟨e, he, rfl⟩, rfl⟩)
    obtain ⟨x, hx, hx2⟩ := List.mem_map.1 h1
    obtain ⟨f, hf, rfl⟩ := List.mem_map.1 hx
    have h2 : f.2.toNat = e.2.toNat := hx2
    have h3 := (hA.1 e he).2.2.1
    have h4 := (hB.1 f hf).2.2.1
    exact List.mem_map.2 ⟨f, hf, by show f.2 = e.2; omega⟩
  have hcols : ∀ c : Int, c ∈ D.map (·.2) ↔ c ∈ F.map (·.2) := fun c => ⟨hin hD hF (fun c hc => (hs c).1 hc) c, hin hF hD (fun c hc => (hs c).2 hc) c⟩
  have hrev : (D.map (·.2)).reverse = (F.map (·.2)).reverse := asc_uniq _ _ (List.pairwise_reverse.2 dD) (List.pairwise_reverse.2 dF) fun x => by rw [List.mem_reverse, List.mem_reverse]; exact hcols x
  have hce : D.map (·.2) = F.map (·.2) := List.reverse_inj.1 hrev
  have hlen : D.length = F.length := by have := congrArg List.length hce; simpa using this
  have hval : ∀ {A : List (List Int × Int)}, EOk p n A → (A.map (·.2)).Pairwise (fun a b => b < a) → ∀ i a (hi : i < A.length) (ha : a < A.length), p ∣ nth A[i].1 A[a].2.toNat - (if a = i then 1 else 0) := fun {A} hA dA i a hi ha => by
    have hd2 := List.pairwise_iff_getElem.1 dA
    by_cases hai : a = i
    · subst hai
      rw [if_pos rfl]
      exact (hA.2.at_ (x := (nth A[a].1, A[a].2.toNat)) (List.mem_map.2 ⟨A[a], List.getElem_mem ha, rfl⟩)).2.1
    · rw [if_neg hai, Int.sub_zero]
      rcases Nat.lt_or_gt_of_ne hai with h8 | h8
      · have h9 := List.pairwise_iff_getElem.1 hA.2.pair a i (by simpa [prs] using ha) (by simpa [prs] using hi) h8
        simpa [prs] using h9
      · have h9 := hd2 i a (by simpa using hi) (by simpa using ha) h8
        simp only [List.getElem_map] at h9
        have h10 := (hA.1 _ (List.getElem_mem hi)).2.2
        have h11 := (hA.1 _ (List.getElem_mem ha)).2.2
        exact (hA.2.at_ (x := (nth A[i].1, A[i].2.toNat)) (List.mem_map.2 ⟨A[i], List.getElem_mem hi, rfl⟩)).2.2 A[a].2.toNat (by show A[a].2.toNat < A[i].2.toNat; omega)
  refine List.ext_getElem hlen fun i h1 h2 => ?_
  have hcol : ∀ a (ha : a < D.length), D[a].2 = (F[a]'(by omega)).2 := fun a ha => by
    have e1 : (D.map (·.2))[a]'(by simpa using ha) = (F.map (·.2))[a]'(by simp; omega) := by simp only [hce]
    simpa using e1
  have hDi := hD.1 _ (List.getElem_mem h1)
  have hFi := hF.1 _ (List.getElem_mem h2)
  refine Prod.ext ?_ (hcol i h1)
  have hu := Ech.uniq hp2 hD.2 (u := nth D[i].1) (v := nth F[i].1) (by rw [prs_vec]; exact Sp.mem (List.mem_map.2 ⟨_, List.getElem_mem h1, rfl⟩)) (by rw [prs_vec, h]; exact Sp.mem (List.mem_map.2 ⟨_, List.getElem_mem h2, rfl⟩)) (fun y hy => by
    obtain ⟨e, he, rfl⟩ := List.mem_map.1 hy
    obtain ⟨a, ha, rfl⟩ := List.mem_iff_getElem.1 he
    have v1 := hval hD dD i a h1 ha
    have v2 := hval hF dF i a h2 (by omega)
    rw [← hcol a ha] at v2
    have v3 := Int.dvd_sub v1 v2
    have e5 : nth D[i].1 D[a].2.toNat - (if a = i then 1 else 0) - (nth F[i].1 D[a].2.toNat - (if a = i then 1 else 0)) = nth D[i].1 D[a].2.toNat - nth F[i].1 D[a].2.toNat := by omega
    rw [e5] at v3
    exact v3)
  refine nth_ext (by rw [hDi.1, hFi.1]) fun j hj => ?_
  rw [hDi.1] at hj
  exact eq_of_dvd (hDi.2.1 j) (hFi.2.1 j) (hu j hj)
theorem redD_sp {p : Int} {n : Nat} {rows : List (List Int)} (hp : P7 p) (hr : ∀ x, x ∈ rows → x.length = n ∧ Rg p x) (v : Nat → Int) : Sp p n (vec (redD p n rows)) v ↔ Sp p n (rows.map nth) v := by
  have hE := echel_ok hp hr
  have hD := DscI.all hp hE.1 n (Nat.le_refl _)
  have h1 := (echel_ok (p := p) (n := n) hp (rows := dscR (echel p rows) n n) fun x hx => by
    obtain ⟨e, he, rfl⟩ := hD.rows x hx
    exact ⟨(hE.1.1 e he).1, (hE.1.1 e he).2.1⟩).2 v
  show Sp p n (vec (echel p (dscR (echel p rows) n n))) v ↔ _
  rw [h1, ← hE.2 v]
  refine Sp.same (fun q hq => ?_) (fun q hq => ?_) v
  · obtain ⟨x, hx, rfl⟩ := List.mem_map.1 hq
    obtain ⟨e, he, rfl⟩ := hD.rows x hx
    exact Sp.mem (List.mem_map.2 ⟨e, he, rfl⟩)
  · obtain ⟨e, he, rfl⟩ := List.mem_map.1 hq
    exact Sp.mem (List.mem_map.2 ⟨e.1, hD.has e he (by have := (hE.1.1 e he).2.2.1; have := (hE.1.1 e he).2.2.2; omega), rfl⟩)
/-- Lists of rows with the same sums have the same reduced rows. -/
theorem span_same {p : Int} {n : Nat} {A B : List (List Int)} (hp : P7 p) (hA : ∀ x, x ∈ A → x.length = n ∧ Rg p x) (hB : ∀ x, x ∈ B → x.length = n ∧ Rg p x) (h : ∀ v, Sp p n (A.map nth) v ↔ Sp p n (B.map nth) v) :
    redD p n A = redD p n B :=
  desc_uniq hp (redD_ok hp hA) (redD_ok hp hB) (DscI.all hp (echel_ok hp hA).1 n (Nat.le_refl _)).desc (DscI.all hp (echel_ok hp hB).1 n (Nat.le_refl _)).desc fun v => by rw [redD_sp hp hA, redD_sp hp hB]; exact h v
/-- The rows whose sums with zeros in front are what both have in common. -/
def dupR (C : Nat) (A B : List (List Int)) : List (List Int) := A.map (fun x => x ++ x) ++ B.map (fun y => y ++ List.replicate C 0)
theorem rg_cat {p : Int} {x y : List Int} (h1 : Rg p x) (h2 : Rg p y) : Rg p (x ++ y) := h1.app h2
theorem rg_zeros {p : Int} (hp : 0 < p) (n : Nat) : Rg p (List.replicate n 0) := fun j => by
  have : nth (List.replicate n (0 : Int)) j = 0 := by
    unfold nth; rw [List.getD_eq_getElem?_getD, List.getElem?_replicate]; split <;> rfl
  omega
theorem dupR_ok {p : Int} {C : Nat} {A B : List (List Int)} (hp : P7 p) (hA : ∀ x, x ∈ A → x.length = C ∧ Rg p x) (hB : ∀ x, x ∈ B → x.length = C ∧ Rg p x) : ∀ x, x ∈ dupR C A B → x.length = C + C ∧ Rg p x := fun x hx => by
  have hp2 := hp.two
  rcases List.mem_append.1 hx with h | h
  · obtain ⟨y, hy, rfl⟩ := List.mem_map.1 h
    exact ⟨by rw [List.length_append, (hA y hy).1], rg_cat (hA y hy).2 (hA y hy).2⟩
  · obtain ⟨y, hy, rfl⟩ := List.mem_map.1 h
    exact ⟨by rw [List.length_append, (hB y hy).1, List.length_replicate], rg_cat (hB y hy).2 (rg_zeros (by omega) C)⟩
/-- What the program keeps: the second halves of the rows that begin there. -/
def lateR (C : Nat) (E : List (List Int × Int)) : List (List Int) := (E.filter fun e => decide ((C : Int) ≤ e.2)).map fun e => e.1.drop C
theorem lateR_ok {p : Int} {C m : Nat} {E : List (List Int × Int)} (hE : EOk p (C + m) E) : ∀ x, x ∈ lateR C E → x.length = m ∧ Rg p x := fun x hx => by
  obtain ⟨e, he, rfl⟩ := List.mem_map.1 hx
  have h := hE.1 e (List.mem_filter.1 he).1
  refine ⟨by rw [List.length_drop, h.1]; omega, fun j => ?_⟩
  rw [nth_dropM]; exact h.2.1 _
theorem lateR_sp {p : Int} {C m : Nat} {E : List (List Int × Int)} (hE : EOk p (C + m) E) (u : Nat → Int) : Sp p m ((lateR C E).map nth) u ↔ Sp p (C + m) (vec E) (shU C u) := by
  rw [← prs_vec, ← late_sp hE.2 u]
  have e1 : (lateR C E).map nth = lateF C (prs E) := by
    have hc := hE.1
    clear hE
    induction E with
    | nil => rfl
    | cons e E ih =>
      have h1 := hc e (List.mem_cons_self ..)
      have ih' := ih fun f hf => hc f (List.mem_cons_of_mem _ hf)
      unfold lateR lateF prs at ih' ⊢
      simp only [List.map_cons, List.filter_cons]
      by_cases hce : (C : Int) ≤ e.2
      · rw [if_pos (by simpa using hce), if_pos (by simp; omega), List.map_cons, List.map_cons, List.map_cons]
        refine List.cons_eq_cons.2 ⟨?_, ih'⟩
        funext k
        rw [nth_dropM]
      · rw [if_neg (by simpa using hce), if_neg (by simp; omega)]
        exact ih'
  rw [e1]
/-- Two echelon forms of the same rows: what is kept of each has the same reduced rows. -/
theorem late_same {p : Int} {C m : Nat} (hp : P7 p) {E : List (List Int × Int)} {K : List (List Int)} {R : List ((Nat → Int) × Nat)} (hE : EOk p (C + m) E) (hR : Ech p (C + m) R) (h : ∀ v, Sp p (C + m) (vec E) v ↔ Sp p (C + m) (R.map (·.1)) v)
    (hK : ∀ x, x ∈ K → x.length = m ∧ Rg p x) (hKR : ∀ v, Sp p m (K.map nth) v ↔ Sp p m (lateF C R) v) : redD p m K = redD p m (lateR C E) :=
  span_same hp hK (lateR_ok hE) fun v => by rw [hKR, late_sp hR, lateR_sp hE, h]
end Go.Proofs.Ytfaegfhbbkicgaa

/-
  What two spaces have in common, as both sides put it down: mathematics. Conditions: p is 2, 3, 5 or 7.
-/



namespace Go.Proofs.Ytfaegfhbbkicgaa
open Go.RowKit

theorem flat_len {m : Nat} : ∀ {L : List (List Int)}, (∀ x, x ∈ L → x.length = m) → L.flatten.length = L.length * m
  | [], _ => by simp
  | x :: L, h => by
    rw [List.flatten_cons, List.length_append, flat_len (fun y hy => h y (List.mem_cons_of_mem _ hy)), h x (List.mem_cons_self ..), List.length_cons, Nat.add_mul, Nat.one_mul]
    omega
theorem nth_appL {x y : List Int} {j : Nat} (h : j < x.length) : nth (x ++ y) j = nth x j := by
  unfold nth; rw [List.getD_eq_getElem?_getD, List.getD_eq_getElem?_getD, List.getElem?_append_left h]
theorem nth_appR {x y : List Int} {j : Nat} (h : x.length ≤ j) : nth (x ++ y) j = nth y (j - x.length) := by
  unfold nth; rw [List.getD_eq_getElem?_getD, List.getD_eq_getElem?_getD, List.getElem?_append_right h]
theorem flat_nth {m : Nat} : ∀ {L : List (List Int)}, (∀ x, x ∈ L → x.length = m) → ∀ i c, i < L.length → c < m → nth L.flatten (i * m + c) = nth (li L i) c
  | [], _, i, c, hi, _ => absurd hi (Nat.not_lt_zero _)
  | x :: L, h, i, c, hi, hc => by
    have hx := h x (List.mem_cons_self ..)
    rw [List.flatten_cons]
    cases i with
    | zero => rw [Nat.zero_mul, Nat.zero_add, nth_appL (by omega)]; rfl
    | succ i =>
      rw [Nat.add_mul, Nat.one_mul, nth_appR (by omega), show i * m + m + c - x.length = i * m + c by omega, flat_nth (fun y hy => h y (List.mem_cons_of_mem _ hy)) i c (by simp at hi; omega) hc]
      rfl
theorem flat_rg0 {p : Int} (hp : 0 < p) : ∀ {L : List (List Int)}, (∀ x, x ∈ L → Rg p x) → Rg p L.flatten
  | [], _ => fun j => by rw [nth_past (by simp)]; omega
  | x :: L, h => by
    rw [List.flatten_cons]
    exact (h x (List.mem_cons_self ..)).app (flat_rg0 hp fun y hy => h y (List.mem_cons_of_mem _ hy))
theorem flat_snoc (L : List (List Int)) (x : List Int) : (L ++ [x]).flatten = L.flatten ++ x := by simp
theorem flat_take {L : List (List Int)} {i : Nat} (h : i < L.length) : (L.take (i + 1)).flatten = (L.take i).flatten ++ li L i := by rw [take_li' h, flat_snoc]
theorem rowsC_flat {m : Nat} {L : List (List Int)} (h : ∀ x, x ∈ L → x.length = m) : rowsC L.flatten m L.length m = L := by
  refine li_ext (by rw [rowsC_len]) fun i hi => ?_
  rw [rowsC_len] at hi
  have hx : (li L i).length = m := by rw [li_get hi]; exact h _ (List.getElem_mem hi)
  rw [rowsC_li hi]
  refine nth_ext (by rw [rowC_len, hx]) fun c hc => ?_
  rw [rowC_len] at hc
  rw [rowC_nth hc, flat_nth h i c hi hc]
theorem dupR_len {C R R' : Nat} {xs ys : List Int} : (dupR C (rowsC xs C R C) (rowsC ys C R' C)).length = R + R' := by simp [dupR, rowsC_len]
theorem li_appL {A B : List (List Int)} {i : Nat} (h : i < A.length) : li (A ++ B) i = li A i := by
  rw [li_get (by rw [List.length_append]; omega), li_get h, List.getElem_append_left h]
theorem li_appR {A B : List (List Int)} {i : Nat} (h : i < B.length) : li (A ++ B) (A.length + i) = li B i := by
  rw [li_get (by rw [List.length_append]; omega), li_get h, List.getElem_append_right (by omega)]
  congr 1; omega
theorem li_mapL {f : List Int → List Int} {A : List (List Int)} {i : Nat} (h : i < A.length) : li (A.map f) i = f (li A i) := by
  rw [li_get (by simpa using h), li_get h]; simp
theorem dupR_first {C R R' : Nat} {xs ys : List Int} {i : Nat} (h : i < R) : li (dupR C (rowsC xs C R C) (rowsC ys C R' C)) i = rowC xs C C i ++ rowC xs C C i := by
  unfold dupR
  rw [li_appL (by simp [rowsC_len]; exact h), li_mapL (by rw [rowsC_len]; exact h), rowsC_li h]
theorem dupR_second {C R R' : Nat} {xs ys : List Int} {j : Nat} (h : j < R') : li (dupR C (rowsC xs C R C) (rowsC ys C R' C)) (R + j) = rowC ys C C j ++ List.replicate C 0 := by
  unfold dupR
  have e := li_appR (A := (rowsC xs C R C).map fun x => x ++ x) (B := (rowsC ys C R' C).map fun y => y ++ List.replicate C 0) (i := j) (by simp [rowsC_len]; exact h)
  rw [List.length_map, rowsC_len] at e
  rw [e, li_mapL (by rw [rowsC_len]; exact h), rowsC_li h]
/-- What is kept of the first i rows of a reduced form. -/
def keepK (C : Nat) (M : Nat → Nat → Int) (ps : List Int) (i : Nat) : List (List Int) := ((List.range i).filter fun t => decide ((C : Int) ≤ nth ps t)).map fun t => (List.range C).map fun q => M t (C + q)
theorem keepK_zero (C : Nat) (M : Nat → Nat → Int) (ps : List Int) : keepK C M ps 0 = [] := rfl
theorem keepK_hit {C : Nat} {M : Nat → Nat → Int} {ps : List Int} {i : Nat} (h : (C : Int) ≤ nth ps i) : keepK C M ps (i + 1) = keepK C M ps i ++ [(List.range C).map fun q => M i (C + q)] := by
  unfold keepK; rw [List.range_succ, List.filter_append, List.map_append]; simp [h]
theorem keepK_miss {C : Nat} {M : Nat → Nat → Int} {ps : List Int} {i : Nat} (h : ¬ (C : Int) ≤ nth ps i) : keepK C M ps (i + 1) = keepK C M ps i := by
  unfold keepK; rw [List.range_succ, List.filter_append, List.map_append]; simp [h]
theorem keepK_len (C : Nat) (M : Nat → Nat → Int) (ps : List Int) (i : Nat) : (keepK C M ps i).length ≤ i := by
  unfold keepK; rw [List.length_map]; exact Nat.le_trans (List.length_filter_le _ _) (by simp)
theorem keepK_ok {p : Int} {C R : Nat} {M : Nat → Nat → Int} {ps : List Int} {i : Nat} (hp : 0 < p) (h : ∀ t c, t < R → c < C + C → 0 ≤ M t c ∧ M t c < p) (hi : i ≤ R) : ∀ x, x ∈ keepK C M ps i → x.length = C ∧ Rg p x := fun x hx => by
  obtain ⟨t, ht, rfl⟩ := List.mem_map.1 hx
  have ht2 := List.mem_range.1 (List.mem_filter.1 ht).1
  refine ⟨by simp, fun j => ?_⟩
  by_cases hj : j < C
  · rw [nth_rangeMap _ hj]; exact h t (C + j) (by omega) (by omega)
  · rw [nth_past (by simp; omega)]; omega
theorem keepK_sp {p : Int} {C : Nat} {M : Nat → Nat → Int} {ps : List Int} (hps : ∀ t, t < ps.length → 0 ≤ nth ps t) (v : Nat → Int) : Sp p C ((keepK C M ps ps.length).map nth) v ↔ Sp p C (lateF C (prM M ps)) v := by
  refine Sp.same (fun r hr => ?_) (fun r hr => ?_) v
  · obtain ⟨x, hx, rfl⟩ := List.mem_map.1 hr
    obtain ⟨t, ht, rfl⟩ := List.mem_map.1 hx
    obtain ⟨h1, h2⟩ := List.mem_filter.1 ht
    have h1' := List.mem_range.1 h1
    have h2' := of_decide_eq_true h2
    refine (Sp.mem (e := fun k => M t (C + k)) (List.mem_map.2 ⟨(M t, (nth ps t).toNat), List.mem_filter.2 ⟨prM_mem.2 ⟨t, h1', rfl⟩, decide_eq_true ?_⟩, rfl⟩)).of_eq fun k hk => ?_
    · show C ≤ (nth ps t).toNat; omega
    · show M t (C + k) = _; rw [nth_rangeMap _ hk]
  · obtain ⟨x, hx, rfl⟩ := List.mem_map.1 hr
    obtain ⟨h1, h2⟩ := List.mem_filter.1 hx
    obtain ⟨t, ht, rfl⟩ := prM_mem.1 h1
    have h2' : C ≤ (nth ps t).toNat := of_decide_eq_true h2
    have h3 := hps t ht
    refine (Sp.mem (e := nth ((List.range C).map fun q => M t (C + q))) (List.mem_map.2 ⟨_, List.mem_map.2 ⟨t, List.mem_filter.2 ⟨List.mem_range.2 ht, decide_eq_true (by omega)⟩, rfl⟩, rfl⟩)).of_eq fun k hk => ?_
    rw [nth_rangeMap _ hk]
/-- What the document keeps has the same reduced rows as what the program keeps. -/
theorem meet_same {p : Int} {C N : Nat} {L : List (List Int)} {M : Nat → Nat → Int} {ps : List Int} {j : Nat} (hp : P7 p) (hL : ∀ x, x ∈ L → x.length = C + C ∧ Rg p x) (hl : L.length = N)
    (h : RedI p (C + C) N (fun i c => nth (li L i) c) M ps j) (hj : j ≤ C + C) (hend : j = C + C ∨ ps.length = N) (hM : ∀ t c, t < N → c < C + C → 0 ≤ M t c ∧ M t c < p) :
    redD p C (keepK C M ps ps.length) = redD p C (lateR C (echel p L)) := by
  have hp2 := hp.two
  refine late_same hp (echel_ok hp hL).1 (h.ech hj) (fun v => ?_) (keepK_ok (by omega) hM h.le) (keepK_sp fun t ht => (h.col t ht).1)
  have h1 := red_same hp hL hl (fun i c _ _ => rfl) h hend v
  rw [prs_vec] at h1
  exact h1
/-- What both sides answer. -/
def meetR (p : Int) (C R R' : Nat) (xs ys : List Int) : List (List Int) := lateR C (echel p (dupR C (rowsC xs C R C) (rowsC ys C R' C)))
def MeetIs (p r c : Int) (xs : List Int) (p' r' c' : Int) (ys : List Int) (zp zr zc : Int) (z : List Int) (ok : Bool) : Prop :=
  ok = twoB p r c xs p' r' c' ys ∧ (ok = true → zp = p ∧ zr = (spanN p c.toNat (meetR p c.toNat r.toNat r'.toNat xs ys) : Nat) ∧ zc = c ∧ z = spanX p c.toNat (meetR p c.toNat r.toNat r'.toNat xs ys)) ∧ (ok = false → zp = 0 ∧ zr = 0 ∧ zc = 0 ∧ z = [])
theorem meet_ex (p r c : Int) (xs : List Int) (p' r' c' : Int) (ys : List Int) : ∃ zp zr zc z ok, MeetIs p r c xs p' r' c' ys zp zr zc z ok := by
  cases h : twoB p r c xs p' r' c' ys with
  | true => exact ⟨_, _, _, _, true, h.symm, fun _ => ⟨rfl, rfl, rfl, rfl⟩, fun h' => absurd h' (by decide)⟩
  | false => exact ⟨0, 0, 0, [], false, h.symm, fun h' => absurd h' (by decide), fun _ => ⟨rfl, rfl, rfl, rfl⟩⟩
theorem meetR_ok {p : Int} {C R R' : Nat} {xs ys : List Int} (hp : P7 p) (hx : Rg p xs) (hy : Rg p ys) : ∀ x, x ∈ meetR p C R R' xs ys → x.length = C ∧ Rg p x := by
  have hp2 := hp.two
  exact lateR_ok (echel_ok hp (dupR_ok hp (rowsC_ok (by omega) hx C R C) (rowsC_ok (by omega) hy C R' C))).1
theorem MeetIs.len {p r c : Int} {xs : List Int} {p' r' c' : Int} {ys : List Int} {zp zr zc : Int} {z : List Int} {ok : Bool} (h : MeetIs p r c xs p' r' c' ys zp zr zc z ok) : z.length ≤ 1000 := by
  cases ok with
  | true =>
    obtain ⟨R, R', C, rfl, rfl, rfl, rfl, rfl, hp7, _, _, _, hC7, _, _, hx, hy⟩ := twoB_yes h.1.symm
    obtain ⟨_, _, _, rfl⟩ := h.2.1 rfl
    simp only [Int.toNat_natCast]
    unfold spanX
    rw [flatK_len]
    have h1 := spanN_le hp7 (meetR_ok (C := C) (R := R) (R' := R') hp7 hx hy)
    have h2 := nat_mul_small (r := spanN p' C (meetR p' C R R' xs ys)) (c := C) (by omega) (by omega)
    omega
  | false => obtain ⟨_, _, _, rfl⟩ := h.2.2 rfl; simp
end Go.Proofs.Ytfaegfhbbkicgaa

/-
  An append of some zeros (append of make), also where there is room, at a step of a region that draws its order. Conditions: lengths below 2^40.
-/




namespace Go.Proofs.Ytfaegfhbbkicgaa
open Go.RowKit

theorem zeroCells_int (k : Nat) : Builtin.zeroCells (Value.int .i64 0).cells k = ((List.replicate k (0 : Int)).map (Value.int .i64)).toArray := by
  have hc : (Value.int IntKind.i64 0).cells = #[.int .i64 0] := rfl
  rw [hc]
  refine Array.ext (by simp [Builtin.zeroCells]) fun i h1 h2 => ?_
  simp [Builtin.zeroCells, Nat.mod_one]
theorem run_append_zeros_own (w : World) (ty : TypeId) (lo : Nat) (A : Option Addr) (n c : Nat) (xs : List Int) (k : Nat) (hown : Own w lo w.heap.size A n c xs) (hlo : lo ≤ w.heap.size) (hk : 0 < k) (hn : n ≤ 1099511627776) (hk2 : k ≤ 1099511627776) :
    ∃ A' c' w', (Builtin.append_ #[22, 3] ty #[.slice A n c, .int .i64 (k : Int)]).run Try.prog w = .ok (.slice A' (n + k) c') w' ∧
      Own w' lo w'.heap.size A' (n + k) c' (xs ++ List.replicate k 0) ∧ w.grownBy w' (Value.slice A n c).ownBlock ∧ Below lo w w' := by
  obtain ⟨i0, hi, hz0, hz1, hz2⟩ := info_parts Try.infoInt
  have hlen : (xs.map (Value.int .i64) ++ (List.replicate k (0 : Int)).map (Value.int .i64)).length = (n + k) * 1 := by
    have := hown.len; simp; omega
  have hmx : n + k ≤ maxLen := by unfold maxLen; omega
  have grown : ∀ (old : Nat) (row : Option Nat), old < n + k →
      (w.drew.alloc (.cells ((xs.map (Value.int .i64)).toArray ++ Builtin.zeroCells (Value.int .i64 0).cells k ++ Builtin.zeroCells (Value.int .i64 0).cells (grownCap w (n + k) old 3 - (n + k))) 3)).ownsRow lo 3 1
        (.slice (some ⟨w.heap.size, 0, none⟩) (n + k) (grownCap w (n + k) old 3)) (n + k) ((xs ++ List.replicate k 0).map (Value.int .i64)) ∧
      w.grownBy (w.drew.alloc (.cells ((xs.map (Value.int .i64)).toArray ++ Builtin.zeroCells (Value.int .i64 0).cells k ++ Builtin.zeroCells (Value.int .i64 0).cells (grownCap w (n + k) old 3 - (n + k))) 3)) row := by
    intro old row ho
    have hge := grownCap_ge w (n + k) old 3
    have hcm : grownCap w (n + k) old 3 ≤ maxLen := grownCap_le_maxLen w (n + k) old 3 hmx
    have hc1 : (Value.int IntKind.i64 0).cells.size = 1 := rfl
    have hxl := hown.len
    rw [List.map_append]
    refine ⟨⟨hlen, .inr ⟨w.heap.size, _, _, rfl, hlo, heap_alloc_new w.drew _, hge, hcm, ?_, ?_⟩⟩, ⟨rfl, rfl, rfl, by simp, fun j hj _ => heap_alloc_old w.drew _ hj⟩⟩
    · simp only [Array.size_append, List.size_toArray, size_zeroCells, hc1, List.length_map, hxl]
      omega
    · rw [zeroCells_int k]
      simp only [Array.toList_append, List.append_assoc]
      rw [← List.append_assoc, ← hlen]
      exact List.take_left
  rcases hown.1.2 with ⟨e, h0⟩ | ⟨g, cap, cur, e, hbg, hg, hnc, hcm, hcs, htake⟩
  · injection e with e1 e2 e3
    subst e1; subst e3; subst h0
    have hx : xs = [] := List.eq_nil_of_length_eq_zero hown.len
    subst hx
    have hr := Lib.run_append_grow_zeros (P := Try.prog) w 22 3 ty 3 i0 (.int .i64 0) .i64 .i64 Try.underlying22 Try.underlying3 hi hz0 none 0 0 [] (run_firstCells_none w.drew i0.size 0 0 0) k hk (by omega) (by omega) (by omega) (by rw [hz2]; omega) (growslice_fits (by omega) (by rw [hz2]; omega))
    have hG := grown 0 (Value.slice none 0 0).ownBlock (by omega)
    exact ⟨_, _, _, hr, Own.of hG.1, hG.2, grow_below hG.2 hlo (fun j hj => by simp [Value.ownBlock] at hj)⟩
  · injection e with e1 e2 e3
    subst e1; subst e3
    have hbl : ∀ j, (Value.slice (some ⟨g, 0, none⟩) n c).ownBlock = some j → lo ≤ j := fun j hj => (hown.1.lt j hj).1
    by_cases hroom : n + k ≤ c
    · have hkn : ¬ k = 0 := by omega
      have hw : IntKind.i64.wrap (k : Int) = k := by rw [IntKind.wrap_i64]; omega
      have hneg : ¬ ((k : Int) < 0) := by omega
      have h48i : ¬ (281474976710656 < (k : Int) * (i0.bytes : Int)) := by rw [hz2]; omega
      have hst := run_storeCells_at Try.prog g n 3 ((List.replicate k (0 : Int)).map (Value.int .i64)) 0 cur w hg (by rw [hcs]; simp; omega) (ints_oneCell _ _)
      simp only [Nat.add_zero] at hst
      have hr : (Builtin.append_ #[22, 3] ty #[.slice (some ⟨g, 0, none⟩) n c, .int .i64 (k : Int)]).run Try.prog w =
          .ok (.slice (some ⟨g, 0, none⟩) (n + k) c) (w.setRow g (cur.toList.take n ++ (List.replicate k (0 : Int)).map (Value.int .i64) ++ cur.toList.drop (n + ((List.replicate k (0 : Int)).map (Value.int .i64)).length)).toArray) := by
        have hzc := zeroCells_int k
        simp [Builtin.append_, run_underlying Try.underlying22, run_underlying Try.underlying3, sizeOf, typeInfo, zeroValue, hi, hz0, asInt, asIntOf, hw, hneg, h48i, hroom, hz1, Addr.add_lit, hzc] at hst ⊢
        simp [hst, hkn]
      refine ⟨_, _, _, hr, Own.of ⟨by rw [List.map_append]; exact hlen, .inr ⟨g, c, _, rfl, hbg, setRow_heap w g cur _ 3 _ hg, hroom, hcm, ?_, ?_⟩⟩, ⟨rfl, rfl, rfl, by simp, fun j _ hj => setRow_other w g j _ (fun e => hj (by simp [Value.ownBlock, e]))⟩, ?_⟩
      · simp only [List.size_toArray, List.length_append, List.length_take, List.length_drop, Array.length_toList, List.length_map, List.length_replicate]
        omega
      · rw [Nat.mul_one] at htake
        rw [htake, List.map_append, ← hlen]
        exact List.take_left
      · exact grow_below ⟨rfl, rfl, rfl, by simp, fun j _ hj => setRow_other w g j _ (fun e => hj (by simp [Value.ownBlock, e]))⟩ hlo hbl
    · have holds : (Builtin.firstCells i0.size n (.slice (some ⟨g, 0, none⟩) n c)).run Try.prog w.drew = .ok (xs.map (Value.int .i64)).toArray w.drew :=
        run_firstCells_some w.drew i0.size n ⟨g, 0, none⟩ n c (xs.map (Value.int .i64)) (by rw [hz1]; simpa using hown.len) (hown.1.cells (g := g) rfl)
      have hr := Lib.run_append_grow_zeros (P := Try.prog) w 22 3 ty 3 i0 (.int .i64 0) .i64 .i64 Try.underlying22 Try.underlying3 hi hz0 (some ⟨g, 0, none⟩) n c (xs.map (Value.int .i64)) holds k hk (by omega) (by omega) (by omega) (by rw [hz2]; omega) (growslice_fits (by omega) (by rw [hz2]; omega))
      have hG := grown c (Value.slice (some ⟨g, 0, none⟩) n c).ownBlock (by omega)
      exact ⟨_, _, _, hr, Own.of hG.1, hG.2, grow_below hG.2 hlo hbl⟩
theorem step_append_zeros (w : World) {ops : Array Oper} {o : Oper} {a : Act} {K : Act → World → Prop} {Q : Exit → Act → World → Prop} {E0 : Prop} (hw : Region.wanted o (yielded ops a.tmps) = true) (s x : Operand)
    (ho : o.op = .call { callee := .builtin .append, args := #[s, x], argTypes := #[22, 3] })
    (lo : Nat) (A : Option Addr) (n c : Nat) (xs : List Int) (k : Nat) (hs : a.eval s = .slice A n c) (hx : a.eval x = .int .i64 (k : Int))
    (hown : Own w lo w.heap.size A n c xs) (hlo : lo ≤ w.heap.size) (hk : 0 < k) (hn : n ≤ 1099511627776) (hk2 : k ≤ 1099511627776)
    (h : ∀ A' c' w', Own w' lo w'.heap.size A' (n + k) c' (xs ++ List.replicate k 0) → w.grownBy w' (Value.slice A n c).ownBlock → Below lo w w' → K (a.put o.dst (.slice A' (n + k) c')) w') :
    if Region.wanted o (yielded ops a.tmps) = true then Oper.wp Try.prog o a w K Q else E0 := by
  rw [if_pos hw]
  obtain ⟨A', c', w', hr, h1, h2, h3⟩ := run_append_zeros_own w o.type lo A n c xs k hown hlo hk hn hk2
  unfold Oper.wp execOp
  simp only [ho, resolve, invoke, builtin, Sem.run_bind, Sem.run_pure, Result.andThen_ok, List.map_toArray, List.map_cons, List.map_nil, hs, hx, hr]
  exact h A' c' w' h1 h2 h3
end Go.Proofs.Ytfaegfhbbkicgaa

/-
  What two spaces have in common: the document's l7Meet. Conditions: the modulus is 2, 3, 5 or 7; sizes at most 7.
-/





namespace Go.Proofs.Ytfaegfhbbkicgaa
open Go.RowKit

theorem SI.sub {w : World} {b o n : Nat} {xs : List Int} (h : SI w (some ⟨b, o, none⟩) n xs) {lo m : Nat} (hm : lo + m ≤ n) : SI w (some ⟨b, o + lo, none⟩) m ((List.range m).map fun q => nth xs (lo + q)) := by
  refine ⟨by simp, fun hn => ?_⟩
  obtain ⟨b', o', e, hb, hc⟩ := h.2 (by omega)
  simp only [Option.some.injEq, Addr.mk.injEq] at e
  obtain ⟨rfl, rfl, _⟩ := e
  refine ⟨b, o + lo, rfl, hb, fun j hj => ?_⟩
  have := hc (lo + j) (by omega)
  rw [show o + lo + j = o + (lo + j) by omega, this, nth_rangeMap _ hj]
theorem SI.low {w w' : World} {b o n B : Nat} {xs : List Int} (h : SI w (some ⟨b, o, none⟩) n xs) (hb : Below B w w') (hB : b < B) : SI w' (some ⟨b, o, none⟩) n xs := by
  refine ⟨h.1, fun hn => ?_⟩
  obtain ⟨b', o', e, hl, hc⟩ := h.2 hn
  simp only [Option.some.injEq, Addr.mk.injEq] at e
  obtain ⟨rfl, rfl, _⟩ := e
  exact ⟨b, o, rfl, Nat.lt_of_lt_of_le hl hb.size, fun k hk => (hb.cell (p := ⟨b, o + k, none⟩) hB).trans (hc k hk)⟩
theorem meet_spanN {p : Int} {C : Nat} {A B : List (List Int)} (h : redD p C A = redD p C B) : spanN p C A = spanN p C B ∧ spanX p C A = spanX p C B := by
  unfold spanX spanN spanL; rw [h]; exact ⟨rfl, rfl⟩
set_option maxRecDepth 100000 in
set_option maxHeartbeats 16000000 in
theorem l7Meet_any (p : Int) (C R R' : Nat) (A A' : Option Addr) (n k n' k' : Nat) (xs ys : List Int) (w : World) (hp : P7 p) (hs : SI w A n xs) (hs' : SI w A' n' ys) (hnk : n ≤ k) (hnk' : n' ≤ k') (hxl : xs.length = R * C) (hyl : ys.length = R' * C) (hx : Rg p xs) (hy : Rg p ys) (hC1 : 1 ≤ C) (hC : C ≤ 7) (hR : R ≤ 7) (hR' : R' ≤ 7) :
    Calls Try.prog 72 #[.agg #[.int .i64 p, .int .i64 R, .int .i64 C, .slice A n k], .agg #[.int .i64 p, .int .i64 R', .int .i64 C, .slice A' n' k']] w fun e w' => FreshMx w w' e p (spanN p C (meetR p C R R' xs ys)) C (spanX p C (meetR p C R R' xs ys)) := by
  obtain ⟨w1, hw1⟩ : ∃ w1, w1 = (((w.alloc (.cells #[.int .i64 p, .int .i64 R, .int .i64 C, .slice A n k] 27)).alloc (.cells #[.int .i64 p, .int .i64 R', .int .i64 C, .slice A' n' k'] 27)).alloc (.cells #[.int .i64 0, .int .i64 0, .int .i64 0, .slice none 0 0] 27)) := ⟨_, rfl⟩
  obtain ⟨g, hg⟩ : ∃ g, g = w.heap.size := ⟨_, rfl⟩
  have HK0 : Hid (Blk w1 g 27 #[.int .i64 p, .int .i64 R, .int .i64 C, .slice A n k]) := Lib.hid (by rw [hw1, hg]; have := ((Blk.new w 27 #[.int .i64 p, .int .i64 R, .int .i64 C, .slice A n k]).alloc (.cells #[.int .i64 p, .int .i64 R', .int .i64 C, .slice A' n' k'] 27)).alloc (.cells #[.int .i64 0, .int .i64 0, .int .i64 0, .slice none 0 0] 27); simpa using this)
  have HK1 : Hid (Blk w1 (g + 1) 27 #[.int .i64 p, .int .i64 R', .int .i64 C, .slice A' n' k']) := Lib.hid (by rw [hw1, hg]; have := (Blk.new (w.alloc (.cells #[.int .i64 p, .int .i64 R, .int .i64 C, .slice A n k] 27)) 27 #[.int .i64 p, .int .i64 R', .int .i64 C, .slice A' n' k']).alloc (.cells #[.int .i64 0, .int .i64 0, .int .i64 0, .slice none 0 0] 27); simpa using this)
  have HK2 : Hid (Blk w1 (g + 2) 27 #[.int .i64 0, .int .i64 0, .int .i64 0, .slice none 0 0]) := Lib.hid (by rw [hw1, hg]; have := Blk.new ((w.alloc (.cells #[.int .i64 p, .int .i64 R, .int .i64 C, .slice A n k] 27)).alloc (.cells #[.int .i64 p, .int .i64 R', .int .i64 C, .slice A' n' k'] 27)) 27 #[.int .i64 0, .int .i64 0, .int .i64 0, .slice none 0 0]; simpa using this)
  have hb : Below w.heap.size w w1 := by rw [hw1]; go_grown
  have HB := Lib.hid hb
  have HW := Lib.hid hw1
  have HG := Lib.hid hg
  have HSZ : Hid (w1.heap.size = g + 3) := Lib.hid (by rw [hw1, hg]; simp)
  have hp2 := hp.two
  have HP := Lib.hid hp
  have HSA := Lib.hid (hs.below hb (Nat.le_refl _))
  have HSB := Lib.hid (hs'.below hb (Nat.le_refl _))
  have HNA : Hid (n = R * C) := Lib.hid (by have := hs.1; omega)
  have HNB : Hid (n' = R' * C) := Lib.hid (by have := hs'.1; omega)
  have hA := rowsC_ok (p := p) (d := xs) (by omega) hx C R C
  have hB := rowsC_ok (p := p) (d := ys) (by omega) hy C R' C
  obtain ⟨L, hL⟩ : ∃ L, L = dupR C (rowsC xs C R C) (rowsC ys C R' C) := ⟨_, rfl⟩
  obtain ⟨N, hN⟩ : ∃ N, N = R + R' := ⟨_, rfl⟩
  obtain ⟨D, hD⟩ : ∃ D, D = C + C := ⟨_, rfl⟩
  have hLl : L.length = N := by rw [hL, hN]; exact dupR_len
  have hLo : ∀ x, x ∈ L → x.length = D ∧ Rg p x := by rw [hL, hD]; exact dupR_ok hp hA hB
  have HL1 : Hid (∀ i, i < R → (L.take (i + 1)).flatten = ((L.take i).flatten ++ rowC xs C C i) ++ rowC xs C C i) := Lib.hid (fun i hi => by rw [flat_take (by omega), List.append_assoc]; congr 1; rw [hL]; exact dupR_first hi)
  have HL2 : Hid (∀ j, j < R' → (L.take (R + j + 1)).flatten = ((L.take (R + j)).flatten ++ rowC ys C C j) ++ List.replicate C 0) := Lib.hid (fun j hj => by rw [flat_take (by omega), List.append_assoc]; congr 1; rw [hL]; exact dupR_second hj)
  have HTL : Hid (∀ i, (L.take i).flatten.length = min i N * D) := Lib.hid (fun i => by rw [flat_len (m := D) (fun x hx => (hLo x (List.mem_of_mem_take hx)).1), List.length_take, hLl])
  have HALL : Hid (L.take N = L) := Lib.hid (by rw [← hLl]; exact List.take_length)
  have hfl : L.flatten.length = N * D := by rw [flat_len (m := D) (fun x hx => (hLo x hx).1), hLl]
  have hfr : Rg p L.flatten := flat_rg0 (by omega) fun x hx => (hLo x hx).2
  have HRED := Lib.hid (fun u (Ad : Option Addr) (nd cd : Nat) (h : SI u Ad nd L.flatten) => l7Reduce_any p N D Ad nd cd L.flatten (fun i c => nth (li L i) c) u hp h (by omega) (by omega) hfr ⟨hfl, fun i c hi hc => flat_nth (fun x hx => (hLo x hx).1) i c (by omega) hc⟩)
  have HSAME := Lib.hid (fun (M : Nat → Nat → Int) (ps : List Int) (j : Nat) (h : RedI p D N (fun i c => nth (li L i) c) M ps j) (hj : j ≤ D) (he : j = D ∨ ps.length = N) => (by subst hD; exact meet_same (C := C) (N := N) hp hLo hLl h hj he h.rg : redD p C (keepK C M ps ps.length) = redD p C (lateR C (echel p L))))
  have HKOK := Lib.hid (fun (M : Nat → Nat → Int) (ps : List Int) (h : ∀ t c, t < N → c < D → 0 ≤ M t c ∧ M t c < p) (i : Nat) (hi : i ≤ N) => (by subst hD; exact keepK_ok (R := N) (by omega) h hi : ∀ x, x ∈ keepK C M ps i → x.length = C ∧ Rg p x))
  have HMR : Hid (meetR p C R R' xs ys = lateR C (echel p L)) := Lib.hid (by unfold meetR; rw [hL])
  have hwN : IntKind.i64.wrap ((R : Int) + (R' : Int)) = (N : Int) := by rw [show (R : Int) + (R' : Int) = (N : Int) by omega]; exact IntWalk.i64_in _ (by omega)
  have hwD : IntKind.i64.wrap (2 * (C : Int)) = (D : Int) := by rw [show 2 * (C : Int) = (D : Int) by omega]; exact IntWalk.i64_in _ (by omega)
  have hn196 : n ≤ 196 := by have := HNA.out; have := nat_mul_small (r := R) (c := C) (by omega) (by omega); omega
  have hn196' : n' ≤ 196 := by have := HNB.out; have := nat_mul_small (r := R') (c := C) (by omega) (by omega); omega
  have HN := Lib.hid hN
  have HD := Lib.hid hD
  have hN14 : N ≤ 14 := by omega
  have hD14 : D ≤ 14 := by omega
  obtain ⟨q0, q1, q2, q3⟩ := cells4 HK0.out
  obtain ⟨r0, r1, r2, r3⟩ := cells4 HK1.out
  clear hw1 hg hb hs hs' hp hx hy hxl hyl hA hB hL hN hD hLl hLo hfl hfr
  go_enter Try.func72, Try.ntmps72
  go_upto_region 1 with fail
  rw [← HW.out, ← HG.out]
  go_upto_region 3 with (first
    | (refine wpList_store_rowP rfl 27 (.tmp 6) (.tmp 26) rfl (w1.heap.size + 1) #[.int .i64 p, .int .i64 N, .int .i64 D, .slice (some ⟨w1.heap.size, 0, none⟩) 0 0] rfl rfl 27 #[.int .i64 0, .int .i64 0, .int .i64 0, .slice none 0 0] (by have := Blk.new (w1.alloc (.cells #[] 3)) 27 #[.int .i64 0, .int .i64 0, .int .i64 0, .slice none 0 0]; simpa using this) Try.infoMx rfl (by simp [Value.oneCell']) ?_; intro w5 hb5 hg5; have HK5 := Lib.hid hb5; have HG5 := Lib.hid hg5; clear hb5 hg5)
    | fail)
  obtain ⟨s0, hs0⟩ : ∃ s0, s0 = w1.heap.size := ⟨_, rfl⟩
  have HO5 : Hid (Own w5 s0 w5.heap.size (some ⟨s0, 0, none⟩) 0 0 ((L.take 0).flatten) ∧ Below s0 w1 w5) := Lib.hid (by
    have h1 := Own.empty w1
    rw [← hs0] at h1 HG5
    have h2 : Own ((w1.alloc (.cells #[] 3)).alloc (.cells #[.int .i64 0, .int .i64 0, .int .i64 0, .slice none 0 0] 27)) s0 (s0 + 1) (some ⟨s0, 0, none⟩) 0 0 [] := h1.below ((Below.refl (s0 + 1) _).alloc (by simp; omega) _) (Nat.le_refl _)
    have h3 := HG5.out.size
    have h4 : Below s0 w1 ((w1.alloc (.cells #[] 3)).alloc (.cells #[.int .i64 0, .int .i64 0, .int .i64 0, .slice none 0 0] 27)) := ((Below.refl s0 w1).alloc (Nat.le_of_eq hs0) _).alloc (by simp; omega) _
    simp only [World.size_alloc] at h3
    exact ⟨(h2.grown HG5.out (fun q hq => by injection hq with hq; omega)).wide (Nat.le_refl _) (by omega), h4.grown HG5.out (by simp; omega) (by rintro q ⟨⟩; omega)⟩)
  rw [← hs0] at HK5 ⊢
  have HS0 := Lib.hid hs0
  have HK6 : Hid (Blk w5 (s0 + 1) 27 #[.int .i64 p, .int .i64 N, .int .i64 D, .slice (some ⟨s0, 0, none⟩) 0 0]) := HK5
  clear hs0 q0 q1 q2 q3 r0 r1 r2 r3 HG5 HK5
  go_wp2_with fail
  go_loopw [7] (fun iv wr => ∃ (i : Nat) (Ad : Option Addr) (nd cd : Nat), i ≤ R ∧ iv = .int .i64 i ∧ Blk wr (s0 + 1) 27 #[.int .i64 p, .int .i64 N, .int .i64 D, .slice Ad nd cd] ∧ Own wr s0 wr.heap.size Ad nd cd ((L.take i).flatten) ∧ Below s0 w1 wr)
    (fun iv _ => R - (intOf iv).toNat)
  case atStart => exact ⟨0, _, 0, 0, Nat.zero_le _, rfl, HK6.out, HO5.out.1, HO5.out.2⟩
  case round =>
    obtain ⟨i, Ad, nd, cd, hi, rfl, hkc, hod, hbr⟩ := hrel
    clear HK6 HO5
    have HKC := Lib.hid hkc
    have HOD := Lib.hid hod
    have HBR := Lib.hid hbr
    have hnd : nd ≤ 196 := by have h1 := hod.len; rw [HTL.out] at h1; have h2 := nat_mul_small (r := min i N) (c := D) (by omega) hD14; omega
    have HKG := Lib.hid (HK0.out.below hbr (by have := HSZ.out; have := HS0.out; omega))
    have HSR := Lib.hid (HSA.out.below hbr (Nat.le_of_eq HS0.out.symm))
    obtain ⟨q0, q1, q2, q3⟩ := cells4 HKG.out
    obtain ⟨k0, k1, k2, k3⟩ := cells4 hkc
    have HLO : Hid (s0 ≤ wr.heap.size) := Lib.hid (by have := hbr.size; have := HS0.out; omega)
    clear hkc hod hbr
    by_cases hlt : i < R
    case pos =>
      have hlI : (i : Int) < (R : Int) := by omega
      obtain ⟨b, o, rfl, _, _⟩ := HSR.out.2 (by rw [HNA.out]; have := idx_lt (R := R) (i := i) (C := C) (c := 0) (by omega) (by omega); omega)
      obtain ⟨N1, M1, ha1, ha2, hm⟩ := idx_wraps (i := i) (C := C) (q := C) (by omega) (by omega) (by omega)
      have hN1 : N1 = i * C := by
        have h5 := nat_mul_small (r := i) (c := C) (by omega) (by omega)
        have h6 := wrap_mul_nat (r := i) (c := C) rfl (by omega)
        rw [ha1] at h6; omega
      have hMN : M1 - N1 = C := by omega
      have hMn : i * C + C ≤ n := by
        rw [HNA.out]
        have h5 : (i + 1) * C ≤ R * C := Nat.mul_le_mul (by omega) (Nat.le_refl _)
        rw [Nat.add_mul, Nat.one_mul] at h5
        omega
      have hMk : M1 ≤ k := by omega
      have hsm := HSR.out.mid (C := C) (c := C) (i := i) hMn
      rw [← hN1] at hsm
      have HSM : Hid (SI wr (some ⟨b, o + N1, none⟩) (M1 - N1) (rowC xs C C i)) := Lib.hid (by rw [hMN]; exact hsm)
      have HBLT : Hid (b < s0) := Lib.hid (by obtain ⟨b', o', e, hb', _⟩ := HSA.out.2 (by omega); simp only [Option.some.injEq, Addr.mk.injEq] at e; rw [e.1, HS0.out]; exact hb')
      have HMN := Lib.hid hMN
      have hkN : ¬ k = N1 := by omega
      have hNM : (N1 : Int) ≤ (M1 : Int) := by omega
      have hMkI : (M1 : Int) ≤ (k : Int) := by omega
      have HCAT := Lib.hid (HL1.out i hlt)
      have HNE := Lib.hid (HOD.out.ne_blk HKC.out (by decide))
      have hM196 : M1 ≤ 392 := by have := nat_mul_small (r := i) (c := C) (by omega) (by omega); omega
      have hwi : IntKind.i64.wrap ((i : Int) + 1) = (i : Int) + 1 := IntWalk.i64_in _ (by omega)
      clear hm hN1 hMN hMn hsm k0 k1 k2 hMk
      go_wp2_with (first
        | (at_builtin; refine wpList_append_all rfl (.tmp 45) (.tmp 46) rfl s0 Ad nd cd ((L.take i).flatten) (some ⟨b, o + N1, none⟩) (M1 - N1) (k - N1) (rowC xs C C i) rfl rfl HOD.out HSM.out HLO.out (by omega) (by omega) ?_
           intro A6 c6 w6 ho6 hg6 hb6
           have HO6 := Lib.hid ho6
           have HB6 := Lib.hid hb6
           have HK6 : Hid (Blk w6 (s0 + 1) 27 #[.int .i64 p, .int .i64 N, .int .i64 D, .slice Ad nd cd]) := Lib.hid (Blk.grown HKC.out hg6 (fun e => HNE.out e.symm))
           have HSM6 : Hid (SI w6 (some ⟨b, o + N1, none⟩) (M1 - N1) (rowC xs C C i)) := Lib.hid (HSM.out.low hb6 HBLT.out)
           have HNE6 := Lib.hid (HO6.out.ne_blk HK6.out (by decide))
           have HLO6 : Hid (s0 ≤ w6.heap.size) := Lib.hid (Nat.le_trans HLO.out hb6.size)
           clear ho6 hg6 hb6)
        | (at_builtin; refine wpList_append_all rfl (.tmp 47) (.tmp 48) rfl s0 A6 (nd + (M1 - N1)) c6 ((L.take i).flatten ++ rowC xs C C i) (some ⟨b, o + N1, none⟩) (M1 - N1) (k - N1) (rowC xs C C i) rfl rfl HO6.out HSM6.out HLO6.out (by omega) (by omega) ?_
           intro A7 c7 w7 ho7 hg7 hb7
           have HO7 := Lib.hid ho7
           have HB7 : Hid (Below s0 w1 w7) := Lib.hid ((HBR.out.trans HB6.out).trans hb7)
           have HK7 : Hid (Blk w7 (s0 + 1) 27 #[.int .i64 p, .int .i64 N, .int .i64 D, .slice Ad nd cd]) := Lib.hid (Blk.grown HK6.out hg7 (fun e => HNE6.out e.symm))
           have f7 := HK7.out.frozen 3
           have e7 : w7.cell? ⟨s0 + 1, 3, none⟩ = some (.slice Ad nd cd) := HK7.out.cell 3
           clear ho7 hg7 hb7)
        | fail)
      go_roundw
      case rel => exact ⟨i + 1, A7, nd + (M1 - N1) + (M1 - N1), c7, by omega, by go_num, HK7.out.set_ 3 _, by
          have hgs := grown_setP w7 ⟨s0 + 1, 3, none⟩ (.slice A7 (nd + (M1 - N1) + (M1 - N1)) c7)
          have h5 := (HO7.out.kept hgs (fun q hq e => HO7.out.ne_blk HK7.out (by decide) (by rw [hq, e]))).wide (Nat.le_refl _) hgs.size
          rw [HCAT.out]; exact h5, by
          have hgs := grown_setP w7 ⟨s0 + 1, 3, none⟩ (.slice A7 (nd + (M1 - N1) + (M1 - N1)) c7)
          exact HB7.out.grown hgs (by have := HB7.out.size; have := HS0.out; omega) (by rintro q ⟨⟩; show s0 ≤ s0 + 1; omega)⟩
      case measure => simp [intOf]; omega
    case neg =>
      obtain rfl : i = R := by omega
      clear k0 k1 k2 k3
      go_wp2_with fail
      clear q0 q1 q2 q3
      go_loopw [9] (fun iv wr => ∃ (j : Nat) (Ad : Option Addr) (nd cd : Nat), j ≤ R' ∧ iv = .int .i64 j ∧ Blk wr (s0 + 1) 27 #[.int .i64 p, .int .i64 N, .int .i64 D, .slice Ad nd cd] ∧ Own wr s0 wr.heap.size Ad nd cd ((L.take (i + j)).flatten) ∧ Below s0 w1 wr)
        (fun iv _ => R' - (intOf iv).toNat)
      case atStart => exact ⟨0, _, nd, cd, Nat.zero_le _, rfl, HKC.out, HOD.out, HBR.out⟩
      case round =>
        clear HKC HOD HBR HKG HSR HLO hnd
        clear nd cd
        obtain ⟨j, Ad, nd, cd, hj, rfl, hkc, hod, hbr⟩ := hrel
        have HKC := Lib.hid hkc
        have HOD := Lib.hid hod
        have HBR := Lib.hid hbr
        have hnd : nd ≤ 196 := by have h1 := hod.len; rw [HTL.out] at h1; have h2 := nat_mul_small (r := min (i + j) N) (c := D) (by omega) hD14; omega
        have HKG := Lib.hid (HK1.out.below hbr (by have := HSZ.out; have := HS0.out; omega))
        have HKA := Lib.hid (HK0.out.below hbr (by have := HSZ.out; have := HS0.out; omega))
        have HSR := Lib.hid (HSB.out.below hbr (Nat.le_of_eq HS0.out.symm))
        obtain ⟨q0, q1, q2, q3⟩ := cells4 HKG.out
        obtain ⟨k0, k1, k2, k3⟩ := cells4 hkc
        have HLO : Hid (s0 ≤ wr.heap.size) := Lib.hid (by have := hbr.size; have := HS0.out; omega)
        clear hkc hod hbr
        by_cases hlt2 : j < R'
        case pos =>
          have hlI : (j : Int) < (R' : Int) := by omega
          obtain ⟨b, o, rfl, _, _⟩ := HSR.out.2 (by rw [HNB.out]; have := idx_lt (R := R') (i := j) (C := C) (c := 0) (by omega) (by omega); omega)
          obtain ⟨N1, M1, ha1, ha2, hm⟩ := idx_wraps (i := j) (C := C) (q := C) (by omega) (by omega) (by omega)
          have hN1 : N1 = j * C := by
            have h5 := nat_mul_small (r := j) (c := C) (by omega) (by omega)
            have h6 := wrap_mul_nat (r := j) (c := C) rfl (by omega)
            rw [ha1] at h6; omega
          have hMN : M1 - N1 = C := by omega
          have hMn : j * C + C ≤ n' := by
            rw [HNB.out]
            have h5 : (j + 1) * C ≤ R' * C := Nat.mul_le_mul (by omega) (Nat.le_refl _)
            rw [Nat.add_mul, Nat.one_mul] at h5
            omega
          have hMk : M1 ≤ k' := by omega
          have hsm := HSR.out.mid (C := C) (c := C) (i := j) hMn
          rw [← hN1] at hsm
          have HSM : Hid (SI wr.drew (some ⟨b, o + N1, none⟩) (M1 - N1) (rowC ys C C j)) := Lib.hid (by rw [hMN]; exact hsm)
          have HMN := Lib.hid hMN
          have hkN : ¬ k' = N1 := by omega
          have hNM : (N1 : Int) ≤ (M1 : Int) := by omega
          have hMkI : (M1 : Int) ≤ (k' : Int) := by omega
          have HCAT := Lib.hid (HL2.out j hlt2)
          have HNE := Lib.hid (HOD.out.ne_blk HKC.out (by decide))
          have HODD : Hid (Own wr.drew s0 wr.drew.heap.size Ad nd cd ((L.take (i + j)).flatten)) := HOD
          have HLOD : Hid (s0 ≤ wr.drew.heap.size) := HLO
          have hM196 : M1 ≤ 392 := by have := nat_mul_small (r := j) (c := C) (by omega) (by omega); omega
          have hwi : IntKind.i64.wrap ((j : Int) + 1) = (j : Int) + 1 := IntWalk.i64_in _ (by omega)
          clear hm hN1 hMN hMn hsm k0 k1 k2 hMk HLO
          go_wp2_with fail
          go_region_law (first
            | (refine step_append_any _ (by first | rfl | kernel_rfl | simp [Region.wanted, yielded]) (.tmp 58) (.tmp 69) (by rfl) s0 Ad nd cd ((L.take (i + j)).flatten) (some ⟨b, o + N1, none⟩) (M1 - N1) (k' - N1) (rowC ys C C j) (by first | rfl | simp [Act.eval, Act.put]) (by first | rfl | simp [Act.eval, Act.put]) HODD.out HSM.out HLOD.out (by omega) (by omega) ?_
               intro A6 c6 w6 ho6 hg6 hb6
               have HO6 := Lib.hid ho6
               have HB6 := Lib.hid hb6
               have HK6 : Hid (Blk w6 (s0 + 1) 27 #[.int .i64 p, .int .i64 N, .int .i64 D, .slice Ad nd cd]) := Lib.hid (Blk.grown (w := wr.drew) HKC.out hg6 (fun e => HNE.out e.symm))
               have HNE6 := Lib.hid (HO6.out.ne_blk HK6.out (by decide))
               have HLO6 : Hid (s0 ≤ w6.heap.size) := Lib.hid (Nat.le_trans HLOD.out hb6.size)
               have c6a : w6.cell? ⟨s0 + 1, 3, none⟩ = some (.slice Ad nd cd) := HK6.out.cell 3
               clear ho6 hg6 hb6)
            | (refine step_append_zeros _ (by first | rfl | kernel_rfl | simp [Region.wanted, yielded]) (.tmp 70) (.tmp 71) (by rfl) s0 A6 (nd + (M1 - N1)) c6 ((L.take (i + j)).flatten ++ rowC ys C C j) C (by first | rfl | simp [Act.eval, Act.put]) (by first | rfl | simp [Act.eval, Act.put]) HO6.out HLO6.out (by omega) (by omega) (by omega) ?_
               intro A7 c7 w7 ho7 hg7 hb7
               have HO7 := Lib.hid ho7
               have HB7 := Lib.hid (HB6.out.trans hb7)
               have HK7 : Hid (Blk w7 (s0 + 1) 27 #[.int .i64 p, .int .i64 N, .int .i64 D, .slice Ad nd cd]) := Lib.hid (Blk.grown HK6.out hg7 (fun e => HNE6.out e.symm))
               have f7 := HK7.out.frozen 3
               have e7 : w7.cell? ⟨s0 + 1, 3, none⟩ = some (.slice Ad nd cd) := HK7.out.cell 3
               clear ho7 hg7 hb7))
          all_goals
            (go_wp2
             go_roundw
             case rel => exact ⟨j + 1, A7, nd + (M1 - N1) + C, c7, by omega, by go_num, HK7.out.set_ 3 _, by
                 have hgs := grown_setP w7 ⟨s0 + 1, 3, none⟩ (.slice A7 (nd + (M1 - N1) + C) c7)
                 have h5 := (HO7.out.kept hgs (fun q hq e => HO7.out.ne_blk HK7.out (by decide) (by rw [hq, e]))).wide (Nat.le_refl _) hgs.size
                 rw [← Nat.add_assoc, HCAT.out]; exact h5, by
                 have hgs := grown_setP w7 ⟨s0 + 1, 3, none⟩ (.slice A7 (nd + (M1 - N1) + C) c7)
                 have h6 : Below s0 w1 wr.drew := HBR.out.drew
                 have h7 := h6.trans HB7.out
                 exact h7.grown hgs (by have := h7.size; have := HS0.out; omega) (by rintro q ⟨⟩; show s0 ≤ s0 + 1; omega)⟩
             case measure => simp [intOf]; omega)
        case neg =>
          obtain rfl : j = R' := by omega
          have HOF : Hid (Own wr s0 wr.heap.size Ad nd cd L.flatten) := Lib.hid (by have h := HOD.out; rwa [← HN.out, HALL.out] at h)
          have HRD := Lib.hid (HRED.out wr Ad nd cd HOF.out.si)
          obtain ⟨p0, p1, p2, p3⟩ := cells4 HKA.out
          clear HOD HRED k0 k1 k2 k3
          go_upto_region 13 with (first
            | (refine wpList_load_rowP rfl 27 (.tmp 6) rfl (s0 + 1) rfl 27 #[.int .i64 p, .int .i64 N, .int .i64 D, .slice Ad nd cd] _ HKC.out Try.underlying27 rfl Try.infoMx ?_)
            | (go_at_call 136
               with_reducible refine HRD.out.mono ?_
               rintro e w2 ⟨A2, k2, Ap, np, cp, rfl, hres⟩
               have HRES := Lib.hid hres
               clear hres)
            | (refine wpList_store_rowP rfl 27 (.tmp 10) (.tmp 77) rfl w2.heap.size #[.int .i64 p, .int .i64 N, .int .i64 D, .slice A2 nd k2] rfl rfl 27 #[.int .i64 0, .int .i64 0, .int .i64 0, .slice none 0 0] (Blk.new _ _ _) Try.infoMx rfl (by simp [Value.oneCell']) ?_; intro w4 hb4 hg4; have HK4 := Lib.hid hb4; have HG4 := Lib.hid hg4; clear hb4 hg4)
            | fail)
          obtain ⟨s2, hs2⟩ : ∃ s2, s2 = w2.heap.size := ⟨_, rfl⟩
          rw [← hs2] at HK4 HG4 ⊢
          obtain ⟨d, M, ps, jj, hod, hop, hdm, hri, hjj, he, hbel⟩ := HRES.out
          have HSM := Lib.hid (HSAME.out M ps jj hri hjj he)
          have HKO := Lib.hid (fun i hi => HKOK.out M ps hri.rg i hi)
          have hB24 : Below s2 w2 w4 := ((Below.refl s2 w2).alloc (Nat.le_of_eq hs2) _).grown HG4.out (by rw [hs2]; simp) (by rintro q ⟨⟩; exact Nat.le_refl _)
          have HW14 : Hid (Below s0 w1 w4) := Lib.hid (HBR.out.trans ((hbel.mono HLO.out).trans (hB24.mono (by rw [hs2]; exact Nat.le_trans HLO.out hbel.size))))
          have HOD4 : Hid (Own w4 wr.heap.size s2 A2 nd k2 d) := Lib.hid ((hod.wide (Nat.le_refl _) (Nat.le_of_eq hs2.symm)).below hB24 (Nat.le_refl _))
          have HOP4 : Hid (Own w4 wr.heap.size s2 Ap np cp ps) := Lib.hid ((hop.wide (Nat.le_refl _) (Nat.le_of_eq hs2.symm)).below hB24 (Nat.le_refl _))
          have HPL : Hid (ps.length = np) := Lib.hid hop.len
          have HNPN : np ≤ N := by have := hri.le; have := hop.len; omega
          have HPC : Hid (∀ t, t < np → 0 ≤ nth ps t ∧ nth ps t < 14) := Lib.hid (fun t ht => by have h1 := hri.col t (by have := hop.len; omega); exact ⟨h1.1, by omega⟩)
          have HDM := Lib.hid hdm
          have HND : Hid (nd = N * D) := Lib.hid (by have h1 := hdm.1; have h2 := hod.len; omega)
          have HLT4 : Hid (s2 < w4.heap.size) := Lib.hid HK4.out.lt
          have HS24 : Hid (s2 ≤ w4.heap.size) := Lib.hid (Nat.le_of_lt HK4.out.lt)
          have HAP : Hid (np = 0 ∨ ∃ gp, Ap = some ⟨gp, 0, none⟩) := Lib.hid (by
            rcases Nat.eq_zero_or_pos np with h | h
            · exact .inl h
            · obtain ⟨gp, e, _⟩ := HOP4.out.place h; exact .inr ⟨gp, e⟩)
          obtain ⟨p0', p1', p2', p3'⟩ := cells4 (HK0.out.below HW14.out (by have := HSZ.out; have := HS0.out; omega))
          clear hs2 hod hop hdm hri hjj he hbel hB24 q0 q1 q2 q3 p0 p1 p2 p3 HRES HSAME HKOK HRD HOF HKC HG4
          go_upto_region 14 with (first
            | (refine wpList_store_rowP rfl 27 (.tmp 12) (.tmp 83) rfl (w4.heap.size + 1) #[.int .i64 p, .int .i64 0, .int .i64 C, .slice (some ⟨w4.heap.size, 0, none⟩) 0 0] rfl rfl 27 #[.int .i64 0, .int .i64 0, .int .i64 0, .slice none 0 0] (by have := Blk.new (w4.alloc (.cells #[] 3)) 27 #[.int .i64 0, .int .i64 0, .int .i64 0, .slice none 0 0]; simpa using this) Try.infoMx rfl (by simp [Value.oneCell']) ?_; intro w5 hb5 hg5; have HK5 := Lib.hid hb5; have HG5 := Lib.hid hg5; clear hb5 hg5)
            | fail)
          obtain ⟨s4, hs4⟩ : ∃ s4, s4 = w4.heap.size := ⟨_, rfl⟩
          have HO5 : Hid (Own w5 s4 w5.heap.size (some ⟨s4, 0, none⟩) 0 0 ((keepK C M ps 0).flatten) ∧ Below s4 w4 w5) := Lib.hid (by
            have h1 := Own.empty w4
            rw [← hs4] at h1 HG5
            have h2 : Own ((w4.alloc (.cells #[] 3)).alloc (.cells #[.int .i64 0, .int .i64 0, .int .i64 0, .slice none 0 0] 27)) s4 (s4 + 1) (some ⟨s4, 0, none⟩) 0 0 [] := h1.below ((Below.refl (s4 + 1) _).alloc (by simp; omega) _) (Nat.le_refl _)
            have h3 := HG5.out.size
            have h4 : Below s4 w4 ((w4.alloc (.cells #[] 3)).alloc (.cells #[.int .i64 0, .int .i64 0, .int .i64 0, .slice none 0 0] 27)) := ((Below.refl s4 w4).alloc (Nat.le_of_eq hs4) _).alloc (by simp; omega) _
            simp only [World.size_alloc] at h3
            exact ⟨(h2.grown HG5.out (fun q hq => by injection hq with hq; omega)).wide (Nat.le_refl _) (by omega), h4.grown HG5.out (by simp; omega) (by rintro q ⟨⟩; omega)⟩)
          rw [← hs4] at HK5 ⊢
          have HS4 := Lib.hid hs4
          clear hs4 p0' p1' p2' p3' HG5
          go_wp2_with fail
          go_loopw [13] (fun iv wx => ∃ (t : Nat) (Ao : Option Addr) (no co : Nat), t ≤ np ∧ iv = .int .i64 t ∧ Blk wx (s4 + 1) 27 #[.int .i64 p, .int .i64 ((keepK C M ps t).length : Nat), .int .i64 C, .slice Ao no co] ∧ Own wx s4 wx.heap.size Ao no co ((keepK C M ps t).flatten) ∧ Below s4 w4 wx)
            (fun iv _ => np - (intOf iv).toNat)
          case atStart => exact ⟨0, _, 0, 0, Nat.zero_le _, rfl, HK5.out, HO5.out.1, HO5.out.2⟩
          case round =>
            clear HK5 HO5
            obtain ⟨t, Ao, no, co, ht, rfl, hkc, hoo, hbx⟩ := hrel
            obtain ⟨wx, hwx⟩ : ∃ v, v = wr := ⟨_, rfl⟩
            subst hwx
            have HKC := Lib.hid hkc
            have HOO := Lib.hid hoo
            have HBX := Lib.hid hbx
            have HKT := Lib.hid (HKO.out t (by omega))
            have HNO : Hid (no = (keepK C M ps t).length * C) := Lib.hid (by have h1 := hoo.len; rw [flat_len (m := C) (fun x hx => (HKT.out x hx).1)] at h1; exact h1.symm)
            obtain ⟨cnt, hcnt⟩ : ∃ cnt, cnt = (keepK C M ps t).length := ⟨_, rfl⟩
            have HCNT := Lib.hid hcnt
            have hcn : cnt ≤ 14 := by have := keepK_len C M ps t; omega
            rw [← hcnt] at hkc HKC
            have hno : no ≤ 196 := by have h1 := HNO.out; rw [← hcnt] at h1; have h2 := nat_mul_small (r := cnt) (c := C) hcn (by omega); omega
            have HB4X : Hid (w4.heap.size ≤ wx.heap.size) := Lib.hid (by have := hbx.size; omega) 
            have HLX : Hid (s4 ≤ wx.heap.size) := Lib.hid (by have := HB4X.out; have := HS4.out; omega)
            have HPX : Hid (SI wx Ap np ps) := Lib.hid (HOP4.out.si.below hbx (Nat.le_of_eq HS4.out.symm))
            have HDX : Hid (SI wx A2 nd d) := Lib.hid (HOD4.out.si.below hbx (Nat.le_of_eq HS4.out.symm))
            obtain ⟨k0, k1, k2', k3⟩ := cells4 hkc
            obtain ⟨m0, m1, m2, m3⟩ := cells4 (HK4.out.below hbx (by have := HS4.out; have := HLT4.out; omega))
            clear hkc hoo hbx hcnt
            by_cases htn : t < np
            case neg =>
              obtain rfl : t = np := by omega
              have HSP := Lib.hid (l7Span_any p cnt C Ao no co ((keepK C M ps t).flatten) wx HP.out HOO.out.si (by omega) ⟨by omega, by omega⟩ (flat_rg0 (by have := HP.out.two; omega) fun x hx => (HKT.out x hx).2) (by rw [flat_len (m := C) (fun x hx => (HKT.out x hx).1), ← HCNT.out]))
              have HRW : Hid (rowsC ((keepK C M ps t).flatten) C cnt C = keepK C M ps t) := Lib.hid (by rw [HCNT.out]; exact rowsC_flat fun x hx => (HKT.out x hx).1)
              have hsm := HSM.out
              rw [HPL.out, ← HMR.out] at hsm
              have HEQ := Lib.hid (meet_spanN hsm)
              rw [HRW.out, HEQ.out.1, HEQ.out.2] at HSP
              obtain ⟨zr, hzr⟩ : ∃ zr, zr = spanN p C (meetR p C i j xs ys) := ⟨_, rfl⟩
              rw [← hzr] at HSP
              have HZR := Lib.hid hzr
              obtain ⟨zz, hzz⟩ : ∃ zz, zz = spanX p C (meetR p C i j xs ys) := ⟨_, rfl⟩
              rw [← hzz] at HSP
              have HZZ := Lib.hid hzz
              have HW1X : Hid (Below s0 w1 wx) := Lib.hid (HW14.out.trans (HBX.out.mono (by have := HS4.out; have := HS24.out; have := HW14.out.size; have := HS0.out; omega)))
              have HR5 := Lib.hid (HK2.out.below HW1X.out (by have := HSZ.out; have := HS0.out; omega))
              clear hsm hzr hzz k0 k1 k2' k3 m0 m1 m2 m3
              go_wp2_with (first
                | (refine wpList_load_rowP rfl 27 (.tmp 12) rfl (s4 + 1) rfl 27 #[.int .i64 p, .int .i64 cnt, .int .i64 C, .slice Ao no co] _ HKC.out Try.underlying27 rfl Try.infoMx ?_)
                | (go_at_call 133
                   with_reducible refine HSP.out.mono ?_
                   rintro e w6 ⟨B6, n6, k6, rfl, ho6, hb6⟩
                   have HO6 := Lib.hid ho6
                   have HB6 : Hid (Below s0 w1 w6) := Lib.hid (HW1X.out.trans (hb6.mono (Nat.le_trans (Nat.le_of_eq HS0.out) HW1X.out.size)))
                   have HR6 := Lib.hid (HR5.out.below hb6 HR5.out.lt)
                   have HS6 : Hid (wx.heap.size ≤ w6.heap.size) := Lib.hid hb6.size
                   clear ho6 hb6)
                | (refine wpList_store_rowP rfl 27 (.tmp 4) (.tmp 121) rfl (g + 2) #[.int .i64 p, .int .i64 zr, .int .i64 C, .slice B6 n6 k6] rfl rfl 27 #[.int .i64 0, .int .i64 0, .int .i64 0, .slice none 0 0] HR6.out Try.infoMx rfl (by simp [Value.oneCell']) ?_; intro w7 hb7 hg7)
                | fail)
              refine bodyPost_ret (results_rowP Try.results72 _ _ _ 27 #[.int .i64 p, .int .i64 zr, .int .i64 C, .slice B6 n6 k6] _ rfl hb7 Try.underlying27 rfl Try.infoMx) rfl ?_
              have l1 := HSZ.out
              have l2 := HG.out
              have l3 := hg7.size
              have l4 := HS6.out
              have l5 := HB.out.size
              have l6 := HLX.out
              have l7 := HS0.out
              have l8 := HW1X.out.size
              rw [← HZR.out, ← HZZ.out]
              refine ⟨B6, n6, k6, rfl, ?_, ?_⟩
              · exact (HO6.out.grown hg7 (fun q hq => by injection hq with hq; omega)).wide (by omega) (by omega)
              · exact (HB.out.trans (HB6.out.mono (by omega))).grown hg7 (by omega) (by rintro q ⟨⟩; omega)
            case pos =>
              have htI : (t : Int) < (np : Int) := by omega
              have hwt : IntKind.i64.wrap ((t : Int) + 1) = (t : Int) + 1 := IntWalk.i64_in _ (by omega)
              obtain ⟨gp, rfl⟩ : ∃ gp, Ap = some ⟨gp, 0, none⟩ := by
                rcases HAP.out with h | h
                · omega
                · exact h
              have c0 : wx.cell? ⟨gp, t, none⟩ = some (.int .i64 (nth ps t)) := by
                obtain ⟨b', o', e, _, hc'⟩ := HPX.out.2 (by omega)
                simp only [Option.some.injEq, Addr.mk.injEq] at e
                obtain ⟨rfl, rfl, _⟩ := e
                have := hc' t htn
                rwa [Nat.zero_add] at this
              obtain ⟨c, hc⟩ : ∃ c, c = nth ps t := ⟨_, rfl⟩
              have hcb := HPC.out t htn
              rw [← hc] at c0 hcb
              by_cases hge : (C : Int) ≤ c
              case neg =>
                have HMISS : Hid (keepK C M ps (t + 1) = keepK C M ps t) := Lib.hid (keepK_miss (by rw [← hc]; exact hge))
                have hge' : c < (C : Int) := by omega
                have HKC2 : Hid (Blk wx (s4 + 1) 27 #[.int .i64 p, .int .i64 ((keepK C M ps t).length : Nat), .int .i64 C, .slice Ao no co]) := Lib.hid (by rw [← HCNT.out]; exact HKC.out)
                clear hc k0 k1 k2' k3 m0 m1 m2 m3
                go_wp2
                go_roundw
                case rel => exact ⟨t + 1, Ao, no, co, by omega, by go_num, by rw [HMISS.out]; exact HKC2.out, by rw [HMISS.out]; exact HOO.out, HBX.out⟩
                case measure => simp [intOf]; omega
              case pos =>
                have HHIT : Hid (keepK C M ps (t + 1) = keepK C M ps t ++ [(List.range C).map fun q => M t (C + q)]) := Lib.hid (keepK_hit (by rw [← hc]; exact hge))
                have hD2 : D = C + C := HD.out
                have hTD : (t + 1) * D ≤ N * D := Nat.mul_le_mul (by omega) (Nat.le_refl _)
                have htC := nat_mul_small (r := t) (c := C) (by omega) (by omega)
                have htD := nat_mul_small (r := t) (c := D) (by omega) hD14
                obtain ⟨E, hE⟩ : ∃ E, E = t * 2 := ⟨_, rfl⟩
                obtain ⟨F, hF⟩ : ∃ F, F = t * D := ⟨_, rfl⟩
                have hEC : E * C = F := by rw [hE, hF, hD2, Nat.mul_assoc, Nat.two_mul]
                obtain ⟨G1, hG1⟩ : ∃ G1, G1 = F + C := ⟨_, rfl⟩
                obtain ⟨G2, hG2⟩ : ∃ G2, G2 = F + D := ⟨_, rfl⟩
                have hw1 : IntKind.i64.wrap ((t : Int) * 2) = (E : Int) := by rw [show (t : Int) * 2 = (E : Int) by omega]; exact IntWalk.i64_in _ (by omega)
                have hw2 : IntKind.i64.wrap ((E : Int) * (C : Int)) = (F : Int) := by rw [← Int.natCast_mul, hEC]; exact IntWalk.i64_in _ (by omega)
                have hw3 : IntKind.i64.wrap ((F : Int) + (C : Int)) = (G1 : Int) := by rw [show (F : Int) + (C : Int) = (G1 : Int) by omega]; exact IntWalk.i64_in _ (by omega)
                have hw4 : IntKind.i64.wrap ((F : Int) + (D : Int)) = (G2 : Int) := by rw [show (F : Int) + (D : Int) = (G2 : Int) by omega]; exact IntWalk.i64_in _ (by omega)
                have hw5 : IntKind.i64.wrap ((cnt : Int) + 1) = (cnt : Int) + 1 := IntWalk.i64_in _ (by omega)
                have hGn : G2 ≤ nd := by rw [HND.out, hG2, hF]; rw [Nat.add_mul, Nat.one_mul] at hTD; omega
                have hk2 : nd ≤ k2 := HOD4.out.cap
                obtain ⟨gd, rfl⟩ : ∃ gd, A2 = some ⟨gd, 0, none⟩ := by
                  obtain ⟨gd, e, _⟩ := HOD4.out.place (by omega)
                  exact ⟨gd, e⟩
                have hGG : G2 - G1 = C := by omega
                have hsub := HDX.out.sub (lo := G1) (m := C) (by omega)
                rw [Nat.zero_add] at hsub
                have hrow : ((List.range C).map fun q => nth d (G1 + q)) = (List.range C).map fun q => M t (C + q) := List.map_congr_left fun q hq => by
                  have hq' := List.mem_range.1 hq
                  rw [← HDM.out.2 t (C + q) (by omega) (by omega)]
                  congr 1; omega
                rw [hrow] at hsub
                obtain ⟨wy, hwy⟩ : ∃ wy, wy = wx.setCell ⟨s4 + 1, 1, none⟩ (.int .i64 ((cnt : Int) + 1)) := ⟨_, rfl⟩
                have hgy := grown_setP wx ⟨s4 + 1, 1, none⟩ (.int .i64 ((cnt : Int) + 1))
                rw [← hwy] at hgy
                have HKY : Hid (Blk wy (s4 + 1) 27 #[.int .i64 p, .int .i64 ((cnt : Int) + 1), .int .i64 C, .slice Ao no co]) := Lib.hid (by rw [hwy]; exact HKC.out.set_ 1 _)
                have HBY : Hid (Below s4 w4 wy) := Lib.hid (HBX.out.grown hgy (by have := HLX.out; have := HS4.out; omega) (by rintro q ⟨⟩; show s4 ≤ s4 + 1; omega))
                have hoy := (HOO.out.kept hgy (fun q hq e => HOO.out.ne_blk HKC.out (by decide) (by rw [hq, e]))).wide (Nat.le_refl _) hgy.size
                have HODD : Hid (Own wy.drew s4 wy.drew.heap.size Ao no co ((keepK C M ps t).flatten)) := Lib.hid hoy
                have HSMD : Hid (SI wy.drew (some ⟨gd, G1, none⟩) (G2 - G1) ((List.range C).map fun q => M t (C + q))) := Lib.hid (by
                  rw [hGG]
                  have h1 : SI w4 (some ⟨gd, G1, none⟩) C ((List.range C).map fun q => M t (C + q)) := by
                    have h2 := (HOD4.out.si).sub (lo := G1) (m := C) (by omega)
                    rw [Nat.zero_add, hrow] at h2
                    exact h2
                  exact h1.below HBY.out.drew (Nat.le_of_eq HS4.out.symm))
                have HLOD : Hid (s4 ≤ wy.drew.heap.size) := Lib.hid (Nat.le_trans HLX.out hgy.size)
                have HNE := Lib.hid (hoy.ne_blk HKY.out (by decide))
                have y0 : wy.drew.cell? ⟨s4 + 1, 3, none⟩ = some (.slice Ao no co) := HKY.out.cell 3
                have y1 : wy.drew.cell? ⟨s2, 3, none⟩ = some (.slice (some ⟨gd, 0, none⟩) nd k2) := (HK4.out.below HBY.out (by have := HS4.out; have := HLT4.out; omega)).cell 3
                have y2 : wy.cell? ⟨s4 + 1, 3, none⟩ = some (.slice Ao no co) := HKY.out.cell 3
                have y3 : wy.cell? ⟨s2, 3, none⟩ = some (.slice (some ⟨gd, 0, none⟩) nd k2) := (HK4.out.below HBY.out (by have := HS4.out; have := HLT4.out; omega)).cell 3
                have ff := HKC.out.frozen 1
                have hkN : ¬ k2 = G1 := by omega
                have hNM : (G1 : Int) ≤ (G2 : Int) := by omega
                have hMkI : (G2 : Int) ≤ (k2 : Int) := by omega
                have hG392 : G2 ≤ 392 := by omega
                have hGC : G2 - G1 ≤ 14 := by omega
                have HGG := Lib.hid hGG
                have HCNT2 : Hid (((cnt : Int) + 1) = ((keepK C M ps (t + 1)).length : Nat)) := Lib.hid (by rw [HHIT.out, List.length_append, ← HCNT.out]; simp)
                have HWY := Lib.hid hwy
                clear hc m0 m1 m2 m3 hE hF hEC hG1 hG2 hGn hk2 hGG hsub hrow hgy hoy hTD htC htD hD2 hwy
                go_upto_region 19 with fail
                rw [← HWY.out]
                clear k0 k1 k2' k3 ff
                go_region_law (refine step_append_any _ (by first | rfl | kernel_rfl | simp [Region.wanted, yielded]) (.tmp 101) (.tmp 117) (by rfl) s4 Ao no co ((keepK C M ps t).flatten) (some ⟨gd, G1, none⟩) (G2 - G1) (k2 - G1) ((List.range C).map fun q => M t (C + q)) (by first | rfl | simp [Act.eval, Act.put]) (by first | rfl | simp [Act.eval, Act.put]) HODD.out HSMD.out HLOD.out (by omega) (by omega) ?_
                               intro A6 c6 w6 ho6 hg6 hb6
                               have HO6 := Lib.hid ho6
                               have HB6 := Lib.hid hb6
                               have HK6 : Hid (Blk w6 (s4 + 1) 27 #[.int .i64 p, .int .i64 ((cnt : Int) + 1), .int .i64 C, .slice Ao no co]) := Lib.hid (Blk.grown (w := wy.drew) HKY.out hg6 (fun e => HNE.out e.symm))
                               have c6a : w6.cell? ⟨s4 + 1, 3, none⟩ = some (.slice Ao no co) := HK6.out.cell 3
                               have f6 := HK6.out.frozen 3
                               clear ho6 hg6 hb6)
                all_goals
                  (go_wp2
                   go_roundw
                   case rel => exact ⟨t + 1, A6, no + (G2 - G1), c6, by omega, by go_num, by rw [← HCNT2.out]; exact HK6.out.set_ 3 _, by
                       have hgs := grown_setP w6 ⟨s4 + 1, 3, none⟩ (.slice A6 (no + (G2 - G1)) c6)
                       have h5 := (HO6.out.kept hgs (fun q hq e => HO6.out.ne_blk HK6.out (by decide) (by rw [hq, e]))).wide (Nat.le_refl _) hgs.size
                       rw [HHIT.out, flat_snoc]; exact h5, by
                       have hgs := grown_setP w6 ⟨s4 + 1, 3, none⟩ (.slice A6 (no + (G2 - G1)) c6)
                       have h6 : Below s4 w4 wy.drew := HBY.out.drew
                       have h7 := h6.trans HB6.out
                       exact h7.grown hgs (by have := h7.size; have := HS4.out; omega) (by rintro q ⟨⟩; show s4 ≤ s4 + 1; omega)⟩
                   case measure => simp [intOf]; omega)
end Go.Proofs.Ytfaegfhbbkicgaa

/-
  MeetSpaces on the document's side. Conditions: lengths below 2^40.
-/

namespace Go.Proofs.Ytfaegfhbbkicgaa
open Go.RowKit

set_option maxRecDepth 100000 in
set_option maxHeartbeats 4000000 in
theorem specMeetSpaces_z (p r c p' r' c' : Int) (A A' : Option Addr) (n k n' k' : Nat) (xs ys : List Int) (w : World) (hs : SI w A n xs) (hs' : SI w A' n' ys) (hn : n ≤ 1099511627776) (hn' : n' ≤ 1099511627776) (hnk : n ≤ k) (hnk' : n' ≤ k') (zp zr zc : Int) (z : List Int) (ok : Bool) (hz : MeetIs p r c xs p' r' c' ys zp zr zc z ok) :
    Calls Try.prog 26 #[.agg #[.int .i64 p, .int .i64 r, .int .i64 c, .slice A n k], .agg #[.int .i64 p', .int .i64 r', .int .i64 c', .slice A' n' k']] w fun e w' => FreshMxB w w' e zp zr zc z ok := by
  obtain ⟨w1, hw1⟩ : ∃ w1, w1 = ((w.alloc (.cells #[.int .i64 p, .int .i64 r, .int .i64 c, .slice A n k] 27)).alloc (.cells #[.int .i64 p', .int .i64 r', .int .i64 c', .slice A' n' k'] 27)).alloc (.cells #[.int .i64 0, .int .i64 0, .int .i64 0, .slice none 0 0] 27) := ⟨_, rfl⟩
  obtain ⟨g, hg⟩ : ∃ g, g = w.heap.size := ⟨_, rfl⟩
  have hk : Blk w1 g 27 #[.int .i64 p, .int .i64 r, .int .i64 c, .slice A n k] := by rw [hw1, hg]; exact ((Blk.new _ _ _).alloc _).alloc _
  have hk2 : Blk w1 (g + 1) 27 #[.int .i64 p', .int .i64 r', .int .i64 c', .slice A' n' k'] := by
    rw [hw1, hg]
    have := (Blk.new (w.alloc (.cells #[.int .i64 p, .int .i64 r, .int .i64 c, .slice A n k] 27)) 27 #[.int .i64 p', .int .i64 r', .int .i64 c', .slice A' n' k']).alloc (.cells #[.int .i64 0, .int .i64 0, .int .i64 0, .slice none 0 0] 27)
    simpa using this
  have hk3 : Blk w1 (g + 2) 27 #[.int .i64 0, .int .i64 0, .int .i64 0, .slice none 0 0] := by
    rw [hw1, hg]
    have := Blk.new ((w.alloc (.cells #[.int .i64 p, .int .i64 r, .int .i64 c, .slice A n k] 27)).alloc (.cells #[.int .i64 p', .int .i64 r', .int .i64 c', .slice A' n' k'] 27)) 27 #[.int .i64 0, .int .i64 0, .int .i64 0, .slice none 0 0]
    simpa using this
  have hb : Below w.heap.size w w1 := by rw [hw1]; go_grown
  have HB := Lib.hid hb
  have HW := Lib.hid hw1
  have HG := Lib.hid hg
  have HK := Lib.hid hk
  have HK2 := Lib.hid hk2
  have HK3 := Lib.hid hk3
  have HSZ : Hid (w1.heap.size = g + 3) := Lib.hid (by rw [hw1, hg]; simp)
  have HSA := Lib.hid (hs.below hb (Nat.le_refl _))
  have HSB := Lib.hid (hs'.below hb (Nat.le_refl _))
  have HTW := Lib.hid (l7Two_any p r c p' r' c' A A' n k n' k' xs ys w1 (hs.below hb (Nat.le_refl _)) (hs'.below hb (Nat.le_refl _)) hn hn')
  have HL1 := Lib.hid hs.1
  have HL2 := Lib.hid hs'.1
  clear hw1 hg hk hk2 hk3 hb hs hs'
  cases hu : twoB p r c xs p' r' c' ys with
  | false =>
    rw [hu] at HTW
    obtain rfl : ok = false := by rw [hz.1, hu]
    obtain ⟨rfl, rfl, rfl, rfl⟩ := hz.2.2 rfl
    clear hu hz
    go_enter Try.func26, Try.ntmps26
    go_upto_region 1 with fail
    rw [← HW.out, ← HG.out]
    go_wp2_with (first
      | (refine wpList_load_rowP rfl 27 (.tmp 2) rfl g rfl 27 #[.int .i64 p, .int .i64 r, .int .i64 c, .slice A n k] _ HK.out Try.underlying27 rfl Try.infoMx ?_)
      | (refine wpList_load_rowP rfl 27 (.tmp 3) rfl (g + 1) rfl 27 #[.int .i64 p', .int .i64 r', .int .i64 c', .slice A' n' k'] _ HK2.out Try.underlying27 rfl Try.infoMx ?_)
      | (go_at_call 71
         with_reducible refine HTW.out.mono ?_
         rintro e w2 ⟨rfl, hb2⟩
         have HB2 := Lib.hid hb2
         have HR2 := Lib.hid (HK3.out.below hb2 HK3.out.lt)
         clear hb2)
      | (refine wpList_store_rowP rfl 27 (.tmp 4) (.tmp 10) rfl (g + 2) #[.int .i64 0, .int .i64 0, .int .i64 0, .slice none 0 0] rfl rfl 27 #[.int .i64 0, .int .i64 0, .int .i64 0, .slice none 0 0] HR2.out Try.infoMx rfl (by simp [Value.oneCell']) ?_; intro w5 hb5 hg5)
      | fail)
    refine bodyPost_ret (results_mx_tmp Try.results26 _ _ _ 27 #[.int .i64 0, .int .i64 0, .int .i64 0, .slice none 0 0] _ rfl hb5 Try.underlying27 rfl Try.infoMx) rfl ?_
    exact FreshMxB.zero (HB.out.trans (HB2.out.mono HB.out.size)) (by have := HG.out; omega) hg5
  | true =>
    rw [hu] at HTW
    obtain rfl : ok = true := by rw [hz.1, hu]
    obtain ⟨rfl, rfl, rfl, rfl⟩ := hz.2.1 rfl
    obtain ⟨R, R', C, rfl, rfl, rfl, rfl, rfl, hp7, hR7, hR7', hC1, hC7, hxl, hyl, hxr, hyr⟩ := twoB_yes hu
    simp only [Int.toNat_natCast]
    have HME := Lib.hid (fun w' (hb' : Below w1.heap.size w1 w') => l7Meet_any p' C R R' A A' n k n' k' xs ys w' hp7 (HSA.out.below hb' (Nat.le_refl _)) (HSB.out.below hb' (Nat.le_refl _)) hnk hnk' hxl hyl hxr hyr hC1 hC7 hR7 hR7')
    obtain ⟨zr, hzr⟩ : ∃ zr, zr = spanN p' C (meetR p' C R R' xs ys) := ⟨_, rfl⟩
    obtain ⟨zz, hzz⟩ : ∃ zz, zz = spanX p' C (meetR p' C R R' xs ys) := ⟨_, rfl⟩
    rw [← hzr, ← hzz] at HME ⊢
    clear hzr hzz
    clear hu hz hxl hyl hxr hyr hp7
    go_enter Try.func26, Try.ntmps26
    go_upto_region 1 with fail
    rw [← HW.out, ← HG.out]
    go_upto_region 3 with (first
      | (refine wpList_load_rowP rfl 27 (.tmp 2) rfl g rfl 27 #[.int .i64 p', .int .i64 R, .int .i64 C, .slice A n k] _ HK.out Try.underlying27 rfl Try.infoMx ?_)
      | (refine wpList_load_rowP rfl 27 (.tmp 3) rfl (g + 1) rfl 27 #[.int .i64 p', .int .i64 R', .int .i64 C, .slice A' n' k'] _ HK2.out Try.underlying27 rfl Try.infoMx ?_)
      | (go_at_call 71
         with_reducible refine HTW.out.mono ?_
         rintro e w2 ⟨rfl, hb2⟩
         have HB2 := Lib.hid hb2
         have HKA := Lib.hid (HK.out.below hb2 HK.out.lt)
         have HKB := Lib.hid (HK2.out.below hb2 HK2.out.lt)
         have HR2 := Lib.hid (HK3.out.below hb2 HK3.out.lt)
         clear hb2)
      | fail)
    go_wp2_with (first
      | (refine wpList_load_rowP rfl 27 (.tmp 2) rfl g rfl 27 #[.int .i64 p', .int .i64 R, .int .i64 C, .slice A n k] _ HKA.out Try.underlying27 rfl Try.infoMx ?_)
      | (refine wpList_load_rowP rfl 27 (.tmp 3) rfl (g + 1) rfl 27 #[.int .i64 p', .int .i64 R', .int .i64 C, .slice A' n' k'] _ HKB.out Try.underlying27 rfl Try.infoMx ?_)
      | (go_at_call 72
         with_reducible refine (HME.out _ HB2.out).mono ?_
         rintro e w4 ⟨B1, m1, d1, rfl, ho4, hb4⟩
         have HO4 := Lib.hid ho4
         have HB4 : Hid (Below w1.heap.size w1 w4) := Lib.hid (HB2.out.trans (hb4.mono HB2.out.size))
         have HR4 := Lib.hid (HR2.out.below hb4 HR2.out.lt)
         have HS4 : Hid (w1.heap.size ≤ w2.heap.size ∧ w2.heap.size ≤ w4.heap.size) := Lib.hid ⟨HB2.out.size, hb4.size⟩
         clear ho4 hb4)
      | (refine wpList_store_rowP rfl 27 (.tmp 4) (.tmp 13) rfl (g + 2) #[.int .i64 p', .int .i64 zr, .int .i64 C, .slice B1 m1 d1] rfl rfl 27 #[.int .i64 0, .int .i64 0, .int .i64 0, .slice none 0 0] HR4.out Try.infoMx rfl (by simp [Value.oneCell']) ?_; intro w7 hb7 hg7)
      | fail)
    refine bodyPost_ret (results_mx_tmp Try.results26 _ _ _ 27 #[.int .i64 p', .int .i64 zr, .int .i64 C, .slice B1 m1 d1] _ rfl hb7 Try.underlying27 rfl Try.infoMx) rfl ?_
    have l1 := HSZ.out
    have l2 := HG.out
    have l3 := hg7.size
    have l4 := HS4.out
    have l5 := HB.out.size
    refine ⟨B1, m1, d1, rfl, ?_, ?_⟩
    · exact (HO4.out.grown hg7 (fun q hq => by injection hq with hq; omega)).wide (by omega) (by omega)
    · exact (HB.out.trans (HB4.out.mono l5)).grown hg7 (by omega) (by rintro q ⟨⟩; omega)
end Go.Proofs.Ytfaegfhbbkicgaa

/-
  Rows taken in one by one, on the program's side, with blocks that stay as they are. Conditions: the modulus is 2, 3, 5 or 7; lengths at most 1000.
-/

namespace Go.Proofs.Ytfaegfhbbkicgaa
open Go.RowKit

/-- The rows that are kept, in memory, apart from some blocks. -/
def EchK (w : World) (lo ge : Nat) (p : Int) (E : List (List Int × Int)) (K : Nat → Prop) : Prop := ∃ AR nR cR AC nC cC Ev, EchD w lo ge p E AR nR cR AC nC cC Ev ∧ ∀ b, K b → b < w.heap.size ∧ b ≠ ge ∧ rowB AR ≠ some b ∧ rowB AC ≠ some b
theorem EchK.below {w w' : World} {lo ge : Nat} {p : Int} {E : List (List Int × Int)} {K : Nat → Prop} {B : Nat} (h : EchK w lo ge p E K) (hb : Below B w w') (hB : w.heap.size ≤ B) : EchK w' lo ge p E K := by
  obtain ⟨AR, nR, cR, AC, nC, cC, Ev, hD, hK⟩ := h
  exact ⟨AR, nR, cR, AC, nC, cC, Ev, hD.below hb hB, fun b hb' => ⟨Nat.lt_of_lt_of_le (hK b hb').1 hb.size, (hK b hb').2⟩⟩
theorem EchK.more {w : World} {lo ge : Nat} {p : Int} {E : List (List Int × Int)} {K K' : Nat → Prop} (h : EchK w lo ge p E K) (hs : ∀ b, K' b → K b) : EchK w lo ge p E K' := by
  obtain ⟨AR, nR, cR, AC, nC, cC, Ev, hD, hK⟩ := h
  exact ⟨AR, nR, cR, AC, nC, cC, Ev, hD, fun b hb' => hK b (hs b hb')⟩
theorem EchS.k {w : World} {lo ge : Nat} {p : Int} {E : List (List Int × Int)} (h : EchS w lo ge p E) : EchK w lo ge p E fun _ => False := by
  obtain ⟨AR, nR, cR, AC, nC, cC, Ev, hD⟩ := h
  exact ⟨AR, nR, cR, AC, nC, cC, Ev, hD, fun _ h => h.elim⟩
/-- In a later world, a block that came since may be kept too. -/
theorem EchK.new {w w' : World} {lo ge : Nat} {p : Int} {E : List (List Int × Int)} {K : Nat → Prop} (h : EchK w lo ge p E K) (hb : Below w.heap.size w w') {b0 : Nat} (h1 : w.heap.size ≤ b0) (h2 : b0 < w'.heap.size) : EchK w' lo ge p E fun b => K b ∨ b = b0 := by
  obtain ⟨AR, nR, cR, AC, nC, cC, Ev, hD, hK⟩ := h
  refine ⟨AR, nR, cR, AC, nC, cC, Ev, hD.below hb (Nat.le_refl _), fun b hb' => ?_⟩
  rcases hb' with hb' | rfl
  · exact ⟨Nat.lt_of_lt_of_le (hK b hb').1 hb.size, (hK b hb').2⟩
  · refine ⟨h2, fun e => ?_, fun e => ?_, fun e => ?_⟩
    · have := hD.blk.lt; omega
    · have := hD.rows.row_lt' e; omega
    · have := hD.cols.row_lt' e; omega
set_option maxRecDepth 100000 in
set_option maxHeartbeats 8000000 in
theorem echAddK_any (p : Int) (lo ge n c : Nat) (A : Option Addr) (E : List (List Int × Int)) (x : List Int) (w : World) (hp : P7 p) (K : Nat → Prop) (hE : EchK w lo ge p E K) (hok : EOk p n E) (hEl : E.length ≤ 1000) (hs : SI w A n x) (hx : Rg p x) (hn : n ≤ 1000) :
    Calls Try.prog 74 #[.pointer (some ⟨ge, 0, none⟩), .slice A n c] w fun e w' => e = .returned (.tuple #[]) ∧ EchK w' lo ge p (addR p E x) K ∧ Below lo w w' ∧ ∀ b, K b → w'.heap[b]? = w.heap[b]? := by
  obtain ⟨AR, nR, cR, AC, nC, cC, Ev, hD, hKp⟩ := hE
  have HKP := Lib.hid hKp
  have hp2 := hp.two
  have hp7 := hp.le
  have HP := Lib.hid hp
  have HOK := Lib.hid hok
  have HX := Lib.hid hx
  have HXL := Lib.hid hs.1
  have HLR := Lib.hid hD.lenR
  have HLC := Lib.hid hD.lenC
  have hnC : nC ≤ 1000 := by have := hD.lenC; omega
  have hnR : nR ≤ 1000 := by have := hD.lenR; omega
  obtain ⟨B, hB⟩ : ∃ B, B = w.heap.size := ⟨_, rfl⟩
  have HB0 : Hid (B = w.heap.size) := hB
  have HGE : Hid (lo ≤ ge ∧ ge < B) := Lib.hid ⟨hD.glo, by rw [hB]; exact hD.blk.lt⟩
  have HD0 := Lib.hid hD
  have HS0 := Lib.hid hs
  clear hp hok hx hD hs hEl hKp
  go_enter Try.func74, Try.ntmps74
  go_upto_region 1 with (at_make; refine wpList_make_zero rfl (.tmp 10) (.tmp 10) rfl n rfl rfl (by omega) ?_; intro w1 ho1 hb1; have HO1 := Lib.hid ho1; have HB1 := Lib.hid hb1; clear ho1 hb1)
  rw [← hB] at HO1 HB1 ⊢
  clear hB
  go_upto_region 2 with (first
    | (refine wpList_copyR rfl (.tmp 12) (.tmp 13) rfl B n A n c rfl rfl B w1.heap.size (List.replicate n 0) x HO1.out (HS0.out.below HB1.out (Nat.le_of_eq HB0.out.symm)) (Nat.le_refl _) ?_
       intro w2 ho2 hg2
       have HO2 : Hid (Own w2 B w2.heap.size (some ⟨B, 0, none⟩) n n x) := Lib.hid (by
         have e : x ++ (List.replicate n (0 : Int)).drop n = x := by simp
         rw [e] at ho2; exact ho2.wide (Nat.le_refl _) hg2.size)
       have HB2 : Hid (Below B w w2) := Lib.hid (HB1.out.grown hg2 (by have := HB1.out.size; have := HB0.out; omega) (by rintro q ⟨⟩; exact Nat.le_refl _))
       clear ho2 hg2))
  have HD2 := Lib.hid (HD0.out.below HB2.out (Nat.le_of_eq HB0.out.symm))
  obtain ⟨q0, q1, q2⟩ := HD2.out.cells
  go_upto_region 3 with fail
  clear q0 q1 q2
  go_loopw [20] (fun iv wr => ∃ i : Nat, i ≤ nC ∧ iv = .int .i64 i ∧ Own wr B wr.heap.size (some ⟨B, 0, none⟩) n n (redE p (E.take i) x) ∧ Below B w wr)
    (fun iv _ => nC - (intOf iv).toNat)
  case atStart => exact ⟨0, Nat.zero_le _, rfl, by simpa [redE] using HO2.out, HB2.out⟩
  case round =>
    obtain ⟨i, hi, rfl, ho, hb⟩ := hrel
    clear HO2 HB2 HD2 HO1 HB1
    have HO := Lib.hid ho
    have HB := Lib.hid hb
    have HDr := Lib.hid (HD0.out.below hb (Nat.le_of_eq HB0.out.symm))
    clear ho hb
    by_cases hlt : i < nC
    case pos =>
      have hlI : (i : Int) < (nC : Int) := by omega
      obtain ⟨gc, rfl, hgc1, hgc2⟩ := HDr.out.cols.place (by omega)
      have hiE : i < E.length := by rw [HLC.out]; exact hlt
      have hiR : i < nR := by have := HLC.out; have := HLR.out; omega
      obtain ⟨gr, rfl, hgr1, hgr2⟩ := HDr.out.rows.place (by omega)
      have hcc := HDr.out.cols.cellAt hlt
      have hcr := HDr.out.rows.cellAt hiR
      have hei := HOK.out.1 E[i] (List.getElem_mem hiE)
      have hcol : nth (E.map (·.2)) i = E[i].2 := by rw [nth_get (by simpa using hiE)]; simp
      have hrow : li (E.map (·.1)) i = E[i].1 := by rw [li_get (by simpa using hiE)]; simp
      obtain ⟨y, hy⟩ : ∃ y, y = E[i].1 := ⟨_, rfl⟩
      rw [← hy] at hei hrow
      obtain ⟨j, hj⟩ : ∃ j : Nat, (j : Int) = nth (E.map (·.2)) i := ⟨(nth (E.map (·.2)) i).toNat, by rw [hcol]; omega⟩
      have hjn : j < n := by rw [hcol] at hj; omega
      rw [← hj] at hcc
      obtain ⟨⟨A', n', c'⟩, hEv⟩ : ∃ a, a = Ev i := ⟨_, rfl⟩
      have hown := HDr.out.rows.2.2.2.1 i hiR
      rw [← hEv] at hcr hown
      have hcr' : wr.cell? ⟨gr, i, none⟩ = some (.slice A' n' c') := hcr
      have hown' : Own wr lo wr.heap.size A' n' c' (li (E.map (·.1)) i) := hown
      rw [hrow] at hown'
      obtain rfl : n' = n := by have := hown'.len; have := hei.1; omega
      have hcx := HO.out.cellAt hjn
      obtain ⟨d, hd⟩ : ∃ d, d = redE p (E.take i) x := ⟨_, rfl⟩
      rw [← hd] at hcx HO
      have hdr : Rg p d := by rw [hd]; exact redE_rg (by omega) _ HX.out
      have hdl : d.length = n' := by rw [hd, redE_len, HXL.out]
      obtain ⟨v, hv⟩ : ∃ v, v = nth d j := ⟨_, rfl⟩
      have hvb := hdr j
      rw [← hv] at hcx hvb
      have hw1 : IntKind.i64.wrap (p - v) = p - v := IntWalk.i64_in _ (by omega)
      have HSTEP : Hid (redE p (E.take (i + 1)) x = addO p d 0 (p - v) y n') := Lib.hid (by
        rw [redE_take hiE, ← hd, ← hj, Int.toNat_natCast, ← hv, hrow, ← hdl, addO_whole])
      have HCALL := Lib.hid (rowTimes_any p (p - v) B n' n' B wr.heap.size 0 n' n' d y A' c' wr.drew ⟨hp2, hp7⟩ ⟨by omega, by omega⟩ hdr hei.2.1 (HO.out.drawn ⟨1, rfl⟩) (by omega) hn ((hown'.drawn ⟨1, rfl⟩).si)
        (.inl fun b o' e => by
          have h1 := (HD0.out.rows.2.2.2.1 i hiR).lt
          rw [← hEv] at h1
          have h2 : rowB A' = some b := by rw [e]; rfl
          have h3 := h1 b (by rw [ownB]; exact h2)
          have := HB0.out
          omega))
      have hS0 : wr.cell? ⟨ge, 0, none⟩ = some (.int .i64 p) ∧ wr.cell? ⟨ge, 1, none⟩ = some (.slice (some ⟨gr, 0, none⟩) nR cR) ∧ wr.cell? ⟨B, j, none⟩ = some (.int .i64 v) ∧ wr.cell? ⟨gr, i, none⟩ = some (.slice A' n' c') := ⟨HDr.out.cells.1, HDr.out.cells.2.1, hcx, hcr'⟩
      have hSD : wr.drew.cell? ⟨ge, 0, none⟩ = some (.int .i64 p) ∧ wr.drew.cell? ⟨ge, 1, none⟩ = some (.slice (some ⟨gr, 0, none⟩) nR cR) ∧ wr.drew.cell? ⟨B, j, none⟩ = some (.int .i64 v) ∧ wr.drew.cell? ⟨gr, i, none⟩ = some (.slice A' n' c') := hS0
      have HS1 := Lib.hid hS0
      have HS2 := Lib.hid hSD
      have hjI : (j : Int) < (n' : Int) := by omega
      have hiI : (i : Int) < (nR : Int) := by omega
      clear hS0 hSD hcx hcr hcr' hown hown' hEv hei hcol hrow hj hd hdr hdl hv hvb hgc1 hgc2 hgr1 hgr2 hy hiE
      have hcc' : wr.cell? ⟨gc, i, none⟩ = some (.int .i64 (j : Int)) := hcc
      clear hcc
      go_wp2_with fail
      obtain ⟨s0, s1, s2, s3⟩ := HS1.out
      refine wp_region_still_tail 21 (by kernel_rfl) (by kernel_rfl) ?_
      simp only [List.take_succ_cons, List.take_zero, List.drop_succ_cons, List.drop_zero]
      repeat still_step
      refine wpStill_nil ?_
      change wpList _ _ _ _ _ wr.drew
      go_wp2_with (go_at_call 137
                   with_reducible refine HCALL.out.mono ?_
                   rintro e w3 ⟨rfl, ho3, wm, hdm, hgm⟩
                   have hsz3 : wr.heap.size ≤ w3.heap.size := by
                     have h1 := (hdm.below wr.heap.size).size
                     have h2 := hgm.size
                     exact Nat.le_trans h1 h2
                   have HO3 := Lib.hid (ho3.wide (Nat.le_refl _) hsz3)
                   have HB3 : Hid (Below B w w3) := Lib.hid ((HB.out.drew.trans (hdm.below B)).grown hgm (by have h1 := HB.out.size; have h2 := HB0.out; have h3 : wr.heap.size ≤ wm.heap.size := (hdm.below wr.heap.size).size; omega) (by rintro q ⟨⟩; exact Nat.le_refl _))
                   clear ho3 hdm hgm hsz3)
      go_wp2
      go_roundw
      case rel => exact ⟨i + 1, by omega, by go_num, by rw [HSTEP.out]; exact HO3.out, HB3.out⟩
      case measure => simp [intOf]; omega
    case neg =>
      obtain rfl : i = nC := by omega
      obtain ⟨d, hd⟩ : ∃ d, d = redE p E x := ⟨_, rfl⟩
      have hOd : Own wr B wr.heap.size (some ⟨B, 0, none⟩) n n d := by
        have := HO.out
        rw [List.take_of_length_le (by have := HLC.out; omega), ← hd] at this; exact this
      clear HO
      have HO := Lib.hid hOd
      have hdr : Rg p d := by rw [hd]; exact redE_rg (by omega) _ HX.out
      have hdl : d.length = n := hOd.len
      have HIX := Lib.hid (indexNonz_any (some ⟨B, 0, none⟩) n n d wr hOd.si (by omega))
      have HDR := Lib.hid hdr
      have HDL := Lib.hid hdl
      have HDE := Lib.hid hd
      clear hOd hdr hdl hd
      by_cases hend : ldN d = n
      case pos =>
        have HRES : Hid (addR p E x = E) := Lib.hid (by unfold addR; rw [← HDE.out, if_pos (by rw [HXL.out]; exact hend)])
        go_upto_region 8 with (go_at_call 138; with_reducible refine HIX.out.mono ?_; rintro e w2 ⟨iv, rfl, hiv, hdr2⟩; obtain rfl : iv = -1 := (by omega); have HD2 := Lib.hid hdr2; clear hiv hdr2)
        go_wp2
        go_returns
        exact ⟨rfl, by rw [HRES.out]; exact ⟨AR, nR, cR, AC, i, cC, Ev, HDr.out.below (HD2.out.below wr.heap.size) (Nat.le_refl _), fun b hb => ⟨Nat.lt_of_lt_of_le (HKP.out b hb).1 (Nat.le_trans HB.out.size (HD2.out.below wr.heap.size).size), (HKP.out b hb).2⟩⟩, (HB.out.mono (by have := HGE.out; omega)).trans (HD2.out.below lo), fun b hb => by rw [HD2.out.heap]; exact HB.out.block b (by have := (HKP.out b hb).1; have := HB0.out; omega)⟩
      case neg =>
        have hcl := ldN_le d
        obtain ⟨j, hj⟩ : ∃ j, j = ldN d := ⟨_, rfl⟩
        have hjn : j < n := by have := HDL.out; omega
        have HJ := Lib.hid hj
        have hvr := HDR.out j
        have hvne : nth d j ≠ 0 := by rw [hj]; exact ldN_at d (by have := HDL.out; omega)
        obtain ⟨v, hv⟩ : ∃ v, v = nth d j := ⟨_, rfl⟩
        rw [← hv] at hvr hvne
        have hinv := inv7_ok HP.out (x := v) ⟨by omega, hvr.2⟩
        obtain ⟨F, hF⟩ : ∃ F : Nat, (F : Int) = inv7 p v := ⟨(inv7 p v).toNat, by omega⟩
        rw [← hF] at hinv
        have HUQ : Hid (∀ f : Nat, 0 < f → f < F → v * (f : Int) % p ≠ 1) := Lib.hid (fun f h1 h2 h3 => by
          have := inv7_is HP.out (x := v) (y := (f : Int)) ⟨by omega, hvr.2⟩ ⟨by omega, by omega⟩ h3
          omega)
        have HINV := Lib.hid hinv
        have HVR : Hid (0 < v ∧ v < p) := Lib.hid ⟨by omega, hvr.2⟩
        have HNRM : Hid (addO p d 0 ((F : Int) - 1) d n = nrm p d) := Lib.hid (by rw [← HDL.out, addO_whole]; unfold nrm; rw [← HJ.out, ← hv, hF])
        have HRES : Hid (addR p E x = E ++ [(nrm p d, (j : Int))]) := Lib.hid (by unfold addR; rw [← HDE.out, if_neg (by rw [HXL.out]; exact hend), ← HJ.out])
        have HV := Lib.hid hv
        have hpnz : p ≠ 0 := by omega
        clear hcl hj hvr hvne hv hinv hF
        have hjI : (j : Int) < (n : Int) := by omega
        have hj0 : ¬ (j : Int) < 0 := by omega
        go_upto_region 8 with (go_at_call 138; with_reducible refine HIX.out.mono ?_; rintro e w2 ⟨iv, rfl, hiv, hdr2⟩; obtain rfl : iv = (j : Int) := (by have := HJ.out; omega); have HD2 := Lib.hid hdr2; clear hiv hdr2)
        go_wp2_with fail
        obtain ⟨wo, rfl⟩ : ∃ wo, wo = wr := ⟨wr, rfl⟩
        go_loopw [8] (fun fv wr => ∃ f : Nat, 0 < f ∧ f ≤ F ∧ fv = .int .i64 f ∧ Drawn wo wr)
          (fun fv _ => F - (intOf fv).toNat)
        case atStart => exact ⟨1, by omega, by have := HINV.out.1; omega, rfl, HD2.out⟩
        case round =>
          obtain ⟨f, hf0, hf1, rfl, hdx⟩ := hrel
          clear HD2
          have HDX := Lib.hid hdx
          have hOx := HO.out.drawn hdx
          have hcx := hOx.cellAt hjn
          rw [← HV.out] at hcx
          have hq0 : wr.cell? ⟨ge, 0, none⟩ = some (.int .i64 p) := (HDr.out.below (hdx.below wo.heap.size) (Nat.le_refl _)).cells.1
          have hvf0 : 0 ≤ v * (f : Int) := Int.mul_nonneg (by have := HVR.out; omega) (by omega)
          have hvf1 : v * (f : Int) ≤ 7 * 7 := Int.mul_le_mul (by have := HVR.out; omega) (by have := HINV.out; omega) (by omega) (by decide)
          obtain ⟨S, hS⟩ : ∃ S, S = v * (f : Int) := ⟨_, rfl⟩
          have hw1 : IntKind.i64.wrap (v * (f : Int)) = S := by rw [← hS]; exact IntWalk.i64_in _ (by omega)
          obtain ⟨R, hR⟩ : ∃ R, R = S % p := ⟨_, rfl⟩
          have hw2 : S.tmod p = R := by rw [hR]; exact Int.tmod_eq_emod_of_nonneg (by omega)
          have hRb : 0 ≤ R ∧ R < p := by rw [hR]; exact ⟨Int.emod_nonneg _ hpnz, Int.emod_lt_of_pos _ (by omega)⟩
          have hw3 : IntKind.i64.wrap R = R := IntWalk.i64_in _ (by omega)
          clear hdx hOx hvf0 hvf1
          by_cases hfF : f = F
          case neg =>
            have hb : (R != 1) = true := by
              have := HUQ.out f hf0 (by omega)
              rw [hR, hS]; simpa using this
            have hf7 : f ≤ 7 := by have := HINV.out; omega
            clear hS hR hRb
            go_wp2_with fail
            go_quiet (fail)
            go_wp2
            go_roundw
            case rel => exact ⟨f + 1, by omega, by omega, by go_num, HDX.out.drewN _⟩
            case measure => simp [intOf]; omega
          case pos =>
            subst hfF
            have hb : (R != 1) = false := by
              have := HINV.out.2.2
              rw [hR, hS, this]; rfl
            have hf7 : (f : Int) ≤ 7 := by have := HINV.out; omega
            clear hS hR hRb
            have hw4 : IntKind.i64.wrap ((f : Int) - 1) = (f : Int) - 1 := IntWalk.i64_in _ (by omega)
            have HCALL := Lib.hid (fun m : Nat => rowTimes_any p ((f : Int) - 1) B n n B wo.heap.size 0 n n d d (some ⟨B, 0, none⟩) n (wr.drewN m) ⟨hp2, hp7⟩ ⟨by omega, by omega⟩ HDR.out HDR.out (HO.out.drawn (HDX.out.drewN m)) (by omega) hn (HO.out.drawn (HDX.out.drewN m)).si (.inr rfl))
            go_wp2_with fail
            go_quiet (fail)
            go_upto_region 13 with (first
               | (go_at_call 137
                  with_reducible refine (HCALL.out _).mono ?_
                  rintro e w3 ⟨rfl, ho3, wm, hdm, hgm⟩
                  have hwm : Drawn wo wm := (HDX.out.drewN _).trans hdm
                  have hsz3 : wo.heap.size ≤ w3.heap.size := Nat.le_trans (hwm.below wo.heap.size).size hgm.size
                  have HO3 : Hid (Own w3 B wo.heap.size (some ⟨B, 0, none⟩) n n (nrm p d)) := Lib.hid (by rw [HNRM.out] at ho3; exact ho3)
                  have HB3 : Hid (Below B w w3) := Lib.hid ((HB.out.trans (hwm.below B)).grown hgm (by have h1 := HB.out.size; have h2 := HB0.out; have h3 := (hwm.below wo.heap.size).size; omega) (by rintro q ⟨⟩; exact Nat.le_refl _))
                  have HZ3 := Lib.hid hsz3
                  clear ho3 hdm hgm hsz3 hwm))
            have HD3 := Lib.hid (HD0.out.below HB3.out (Nat.le_of_eq HB0.out.symm))
            have HBZ : Hid (B ≤ w3.heap.size) := Lib.hid (by have := HB3.out.size; have := HB0.out; omega)
            have HLE := Lib.hid HD0.out.rows
            have HAPB : Hid (Apart Ev AR nR B ∧ ∀ q, rowB AC = some q → q < B) := Lib.hid ⟨⟨fun e => by have := HD0.out.rows.2.2.1 B (by rw [ownB]; exact e); have := HB0.out; omega, fun j hj e => by have := (HD0.out.rows.2.2.2.1 j hj).lt B e; have := HB0.out; omega⟩, fun q hq => by have := (HD0.out.cols.row_lt' hq).2; have := HB0.out; omega⟩
            obtain ⟨c0, c1, c2⟩ := HD3.out.cells
            clear hb hw1 hw2 hw3 hw4 hcx hq0
            go_upto_region 14 with (first
               | (at_builtin
                  refine wpList_appendLE rfl (.tmp 79) (.tmp 81) rfl lo w3.heap.size AR nR cR (E.map (·.1)) B wo.heap.size (some ⟨B, 0, none⟩) n n (nrm p d) rfl (by show Act.eval _ _ = _; simp [Act.eval]) HD3.out.rows HO3.out (by have := HGE.out; omega) (fun b hb => by rw [ownB] at hb; injection hb with hb; subst hb; exact ⟨by rw [ownB]; exact HAPB.out.1.1, HAPB.out.1.2⟩) HZ3.out (Nat.le_refl _) (by have := HBZ.out; have := HGE.out; omega) (by omega) ?_
                  intro AR' cR' w4 hE4 hat4 hgr4 hb4
                  have HE4 := Lib.hid hE4
                  have HAT4 := Lib.hid hat4
                  have HGR4 := Lib.hid hgr4
                  have HB4 := Lib.hid hb4
                  have HK4 := Lib.hid (HD3.out.blk.grown hgr4 (fun e => HD3.out.ap1.1 e.symm))
                  have c1' : w4.cell? ⟨ge, 1, none⟩ = some (.slice AR nR cR) := HK4.out.cell 1
                  have f1' := HK4.out.frozen 1
                  clear hE4 hat4 hgr4 hb4))
            have hg4 : w4.grownBy (w4.setCell ⟨ge, 1, none⟩ (.slice AR' (nR + 1) cR')) (some ge) := grown_setP _ _ _
            have HKv : Hid (Blk (w4.setCell ⟨ge, 1, none⟩ (.slice AR' (nR + 1) cR')) ge 87 #[.int .i64 p, .slice AR' (nR + 1) cR', .slice AC i cC]) := Lib.hid (HK4.out.set_ 1 _)
            obtain ⟨v4, hv4⟩ : ∃ v4, v4 = w4.setCell ⟨ge, 1, none⟩ (.slice AR' (nR + 1) cR') := ⟨_, rfl⟩
            rw [← hv4] at hg4 HKv ⊢
            have HG4 := Lib.hid hg4
            have HAPN : Hid (∀ q, (rowB AC = some q ∨ q = ge) → Apart (snE Ev nR (some ⟨B, 0, none⟩, n, n)) AR' (nR + 1) q) := Lib.hid (fun q hq => by
              have hqB : q < B := by
                rcases hq with h | h
                · exact HAPB.out.2 q h
                · have := HGE.out; omega
              have hap : Apart Ev AR nR q := by
                rcases hq with h | h
                · exact HD0.out.ap3 q h
                · rw [h]; exact HD0.out.ap1
              refine ⟨fun e => ?_, fun j hj e => ?_⟩
              · rcases HAT4.out with h | ⟨z, h, hz⟩
                · exact hap.1 (by rw [← h]; exact e)
                · rw [h] at e; injection e with e; have := HBZ.out; omega
              · by_cases hjn : j < nR
                · rw [snE_lt _ _ hjn] at e; exact hap.2 j hjn e
                · rw [show j = nR by omega, snE_at] at e
                  have e' : some B = some q := e
                  injection e' with e'; omega)
            have HEv : Hid (OwnLE (snE Ev nR (some ⟨B, 0, none⟩, n, n)) v4 lo v4.heap.size AR' (nR + 1) cR' (E.map (·.1) ++ [nrm p d])) := Lib.hid ((HE4.out.apart hg4 (fun q hq => by injection hq with hq; exact HAPN.out q (.inr hq.symm))).wide hg4.size)
            have HCv : Hid (Own v4 lo v4.heap.size AC i cC (E.map (·.2))) := Lib.hid ((((HD3.out.cols.kept HGR4.out (fun q hq e => (HD3.out.ap3 q (by rw [← ownB AC i cC]; exact hq)).1 e)).kept hg4 (fun q hq e => HD3.out.ap2 (by rw [← ownB AC i cC, hq, e]))).wide (Nat.le_refl _) (Nat.le_trans HGR4.out.size hg4.size)))
            have HBv : Hid (Below lo w v4) := Lib.hid (((HB3.out.mono (by have := HGE.out; omega)).trans HB4.out).grown hg4 (by have := HB4.out.size; have := HBZ.out; have := HGE.out; omega) (by rintro q ⟨⟩; exact HGE.out.1))
            have HLOv : Hid (lo ≤ v4.heap.size) := Lib.hid (by have := HB4.out.size; have := HBZ.out; have := HGE.out; have := hg4.size; omega)
            have d2 : v4.cell? ⟨ge, 2, none⟩ = some (.slice AC i cC) := HKv.out.cell 2
            clear hv4 hg4 c0 c1 c2 c1' f1'
            go_wp2_with (first
               | (at_builtin
                  refine wpList_append_keep rfl (.tmp 89) (.tmp 91) rfl lo v4.heap.size AC i cC (E.map (·.2)) (j : Int) rfl (by show Act.eval _ _ = _; simp [Act.eval]) HCv.out HLOv.out (by omega) ?_
                  intro AC' cC' w5 ho5 hgr5 hat5
                  have HO5 := Lib.hid ho5
                  have HGR5 := Lib.hid hgr5
                  have HAT5 := Lib.hid hat5
                  have HK5 := Lib.hid (HKv.out.grown hgr5 (fun e => HD0.out.ap2 e.symm))
                  have d2' : w5.cell? ⟨ge, 2, none⟩ = some (.slice AC i cC) := HK5.out.cell 2
                  have g2' := HK5.out.frozen 2
                  clear ho5 hgr5 hat5))
            go_returns
            have hg5 : w5.grownBy (w5.setCell ⟨ge, 2, none⟩ (.slice AC' (i + 1) cC')) (some ge) := grown_setP _ _ _
            have hne5 : rowB AC' ≠ some ge := fun e => by
              rcases HAT5.out with ⟨h, _⟩ | ⟨z, h, hz, _⟩
              · rw [h] at e; exact HD0.out.ap2 e
              · rw [h, rowB_some] at e
                injection e with e
                have := HKv.out.lt; omega
            have HKN : ∀ b, K b → (w5.setCell ⟨ge, 2, none⟩ (.slice AC' (i + 1) cC')).heap[b]? = w.heap[b]? := fun b hb => by
              obtain ⟨k1, k2, k3, k4⟩ := HKP.out b hb
              have z1 := HB3.out.size
              have z2 := HGR4.out.size
              have z3 := HG4.out.size
              have z4 := HGR5.out.size
              have z0 := HB0.out
              rw [hg5.block b (by omega) (fun e => k2 (by injection e)), HGR5.out.block b (by omega) (fun e => by first | exact k4 e.symm | exact k4 (by rw [← ownB AC i cC]; exact e.symm)), HG4.out.block b (by omega) (fun e => k2 (by injection e)), HGR4.out.block b (by omega) (fun e => by first | exact k3 e.symm | exact k3 (by rw [← ownB AR nR cR]; exact e.symm))]
              exact HB3.out.block b (by omega)
            refine ⟨rfl, ?_, ?_, HKN⟩
            · rw [HRES.out]
              refine ⟨AR', nR + 1, cR', AC', i + 1, cC', snE Ev nR (some ⟨B, 0, none⟩, n, n), ⟨HK5.out.set_ 2 _, HGE.out.1, ?_, ?_, HAPN.out ge (.inr rfl), hne5, fun q hq => ?_⟩, fun b hb => ?_⟩
              · rw [List.map_append]
                exact ((HEv.out.apart HGR5.out (fun q hq => HAPN.out q (.inl hq))).apart hg5 (fun q hq => by injection hq with hq; exact HAPN.out q (.inr hq.symm))).wide (Nat.le_trans HGR5.out.size hg5.size)
              · rw [List.map_append]
                exact ((HO5.out.kept hg5 (fun q hq e => hne5 (by rw [← ownB AC' (i + 1) cC', hq, e]))).wide (Nat.le_refl _) hg5.size)
              · rcases HAT5.out with ⟨h, _⟩ | ⟨z, h, hz, _⟩
                · rw [h] at hq; exact HAPN.out q (.inl hq)
                · rw [h, rowB_some] at hq
                  injection hq with hq
                  subst hq
                  exact ⟨fun e => by have := HEv.out.row_lt' e; omega, fun j hj e => by have := (HEv.out.2.2.2.1 j hj).lt _ e; omega⟩
              · obtain ⟨k1, k2, k3, k4⟩ := HKP.out b hb
                have z1 := HB3.out.size
                have z2 := HGR4.out.size
                have z3 := HG4.out.size
                have z4 := HGR5.out.size
                have z5 := hg5.size
                have z0 := HB0.out
                refine ⟨by omega, k2, fun e => ?_, fun e => ?_⟩
                · rcases HAT4.out with h | ⟨z, h, hz⟩
                  · exact k3 (by rw [← h]; exact e)
                  · rw [h] at e; injection e with e; omega
                · rcases HAT5.out with ⟨h, _⟩ | ⟨z, h, hz, _⟩
                  · exact k4 (by rw [← h]; exact e)
                  · rw [h, rowB_some] at e; injection e with e; omega
            · exact (HBv.out.grown HGR5.out HLOv.out (fun q hq => (HCv.out.row_lt' hq).1)).grown hg5 (by have := HGR5.out.size; have := HLOv.out; omega) (by rintro q ⟨⟩; exact HGE.out.1)
end Go.Proofs.Ytfaegfhbbkicgaa

/-
  SumSpaces on the program's side. Conditions: lengths below 2^40.
-/


namespace Go.Proofs.Ytfaegfhbbkicgaa
open Go.RowKit

end Go.Proofs.Ytfaegfhbbkicgaa

/-
  slices.Concat at two slices of numbers: a new slice. Conditions: lengths below 2^40.
-/


namespace Go.Proofs.Ytfaegfhbbkicgaa
open Go.RowKit

set_option maxHeartbeats 800000 in
/-- slices.Grow at the nil slice. -/
theorem growNil_any (m : Nat) (w : World) (hm : m ≤ 2199023255552) :
    Calls Try.prog 140 #[.slice none 0 0, .int .i64 m] w fun e w' => Fresh w w' e [] ∧ ∃ A c, e = .returned (.slice A 0 c) := by
  cases m with
  | zero =>
    go_enter Try.func140, Try.ntmps140
    go_wp2
    go_ret
    exact ⟨⟨none, 0, 0, rfl, Own.nil _ _ _, Below.refl _ _⟩, none, 0, rfl⟩
  | succ k =>
    obtain ⟨m, hk⟩ : ∃ m, m = k + 1 := ⟨_, rfl⟩
    rw [← hk] at hm ⊢
    have hm1 : 0 < m := by omega
    clear hk
    obtain ⟨i0, hi, hz0, hz1, hz2⟩ := info_parts Try.infoInt
    have hold : (Builtin.firstCells i0.size 0 (.slice none 0 0)).run Try.prog w.drew = .ok #[] w.drew := run_firstCells_none w.drew i0.size 0 0 0
    have hrz : ∀ ty, (Builtin.append_ #[22, 3] ty #[.slice none 0 0, .int .i64 (m : Int)]).run Try.prog w =
        .ok (.slice (some ⟨w.heap.size, 0, none⟩) (0 + m) (grownCap w (0 + m) 0 3)) (w.drew.alloc (.cells (#[] ++ Builtin.zeroCells (Value.int .i64 0).cells m ++ Builtin.zeroCells (Value.int .i64 0).cells (grownCap w (0 + m) 0 3 - (0 + m))) 3)) := fun ty =>
      Lib.run_append_grow_zeros w 22 3 ty 3 i0 (.int .i64 0) .i64 .i64 Try.underlying22 Try.underlying3 hi hz0 none 0 0 [] hold m hm1 (by omega) (by omega) (by omega)
        (by rw [hz2]; omega) (growslice_fits (by omega) (by rw [hz2]; omega))
    have hGn : 0 + m ≤ grownCap w (0 + m) 0 3 := grownCap_ge w _ _ _
    have hGm := grownCap_le_maxLen w (0 + m) 0 3 (by unfold maxLen; omega)
    have hc1 : (Value.int IntKind.i64 0).cells.size = 1 := rfl
    obtain ⟨G, hG⟩ : ∃ G, G = grownCap w (0 + m) 0 3 := ⟨_, rfl⟩
    rw [← hG] at hrz hGn hGm
    have hO := World.ownsRow_made (base := w.heap.size) (e := 3) (size := 1) w.drew (#[] ++ Builtin.zeroCells (Value.int .i64 0).cells m ++ Builtin.zeroCells (Value.int .i64 0).cells (G - (0 + m))) G (Nat.le_refl _) hGm (by rw [Array.size_append, Array.size_append, size_zeroCells, size_zeroCells, hc1]; simp; omega)
    generalize (#[] ++ Builtin.zeroCells (Value.int .i64 0).cells m ++ Builtin.zeroCells (Value.int .i64 0).cells (G - (0 + m))) = cs at hrz hO
    have hb : Below w.heap.size w (w.drew.alloc (.cells cs 3)) := (Below.refl w.heap.size w).drew.alloc (Nat.le_refl _) _
    have HO := Lib.hid hO
    have HB := Lib.hid hb
    have h1 : ¬ ((m : Int) < 0) := by omega
    have h4 : (m : Int) > 0 := by omega
    have hm63 : wrap64 (m : Int) = (m : Int) := by unfold wrap64; omega
    have hG0 : (0 : Int) ≤ (G : Int) := by omega
    clear hO hb hold hG hi hz0 hz1 hz2 hGn hGm hc1
    go_enter Try.func140, Try.ntmps140
    go_wp2_with (at_builtin; refine Lib.wpList_append_run _ rfl _ _ _ _ rfl _ _ rfl rfl _ _ (hrz _) ?_)
    all_goals (go_ret; exact ⟨⟨_, 0, G, rfl, Own.of (xs := []) HO.out, HB.out⟩, _, G, rfl⟩)
/-- The first i of two lists, one behind the other. -/
def catN (xs ys : List Int) : Nat → List Int
  | 0 => []
  | 1 => xs
  | _ => xs ++ ys
set_option maxHeartbeats 1600000 in
theorem concat2_any (g cap n1 c1 n2 c2 : Nat) (A1 A2 : Option Addr) (xs ys : List Int) (w : World) (hb : Blk w g 22 #[.slice A1 n1 c1, .slice A2 n2 c2]) (hs1 : SI w A1 n1 xs) (hs2 : SI w A2 n2 ys) (hn1 : n1 ≤ 1099511627776) (hn2 : n2 ≤ 1099511627776) :
    Calls Try.prog 75 #[.slice (some ⟨g, 0, none⟩) 2 cap] w fun e w' => Fresh w w' e (xs ++ ys) := by
  have HK := Lib.hid hb
  have HS1 := Lib.hid hs1
  have HS2 := Lib.hid hs2
  have hgl := hb.lt
  have HG := Lib.hid hgl
  obtain ⟨S, hS⟩ : ∃ S, S = n1 + n2 := ⟨_, rfl⟩
  have hz0 : ¬ ((n1 : Int) < 0) := by omega
  have hz1 : ¬ ((S : Int) < 0) := by omega
  have hw1 : IntKind.i64.wrap (n1 : Int) = (n1 : Int) := IntWalk.i64_in _ (by omega)
  have hw2 : IntKind.i64.wrap ((n1 : Int) + (n2 : Int)) = (S : Int) := by rw [show (n1 : Int) + (n2 : Int) = (S : Int) by omega]; exact IntWalk.i64_in _ (by omega)
  have HGR := Lib.hid (fun w' => growNil_any S w' (by omega))
  have HSS := Lib.hid hS
  clear hb hs1 hs2 hgl hS
  go_enter Try.func75, Try.ntmps75
  go_wp2_with fail
  go_loopw [3, 11] (fun sv iv wr => ∃ i : Nat, i ≤ 2 ∧ iv = .int .i64 i ∧ ((i = 0 ∧ sv = .int .i64 0) ∨ (i = 1 ∧ sv = .int .i64 n1) ∨ (i = 2 ∧ sv = .int .i64 S)) ∧ Drawn w wr)
    (fun _ iv _ => 2 - (intOf iv).toNat)
  case atStart => exact ⟨0, by omega, rfl, .inl ⟨rfl, rfl⟩, Drawn.refl _⟩
  case round =>
    obtain ⟨i, hi, rfl, hsv, hD⟩ := hrel
    have HD := Lib.hid hD
    have HKR := Lib.hid (HK.out.drawn hD)
    clear hD
    rcases hsv with ⟨rfl, rfl⟩ | ⟨rfl, rfl⟩ | ⟨rfl, rfl⟩
    · have hc : wr.cell? ⟨g, 0, none⟩ = some (.slice A1 n1 c1) := by rw [HKR.out.cell]; rfl
      go_wp2
      go_roundw
      case rel => exact ⟨1, by omega, by go_num, .inr (.inl ⟨rfl, rfl⟩), HD.out⟩
      case measure => simp [intOf]
    · have hc : wr.cell? ⟨g, 1, none⟩ = some (.slice A2 n2 c2) := by rw [HKR.out.cell]; rfl
      go_wp2
      go_roundw
      case rel => exact ⟨2, by omega, by go_num, .inr (.inr ⟨rfl, by first | rfl | (have := HSS.out; subst this; go_num)⟩), HD.out⟩
      case measure => simp [intOf]
    · go_wp2_with (go_at_call 140; refine (HGR.out _).mono ?_
                   rintro e w2 ⟨⟨A3, n3, c3, he3, ho3, hb3⟩, A4, c4, rfl⟩
                   have HO3 : Hid (Own w2 w.heap.size w2.heap.size A4 0 c4 []) := Lib.hid (by
                     injection he3 with he3; injection he3 with e1 e2 e3; subst e1; subst e2; subst e3
                     exact ho3.wide (HD.out.below w.heap.size).size (Nat.le_refl _))
                   have HB3 : Hid (Below w.heap.size w w2) := Lib.hid ((HD.out.below _).trans (hb3.mono (HD.out.below w.heap.size).size))
                   clear he3 ho3 hb3)
      go_loopw [6, 27] (fun ov iv wx => ∃ (i : Nat) (Ao : Option Addr) (no co : Nat), i ≤ 2 ∧ iv = .int .i64 i ∧ ov = .slice Ao no co ∧ Own wx w.heap.size wx.heap.size Ao no co (catN xs ys i) ∧ Below w.heap.size w wx)
        (fun _ iv _ => 2 - (intOf iv).toNat)
      case atStart => exact ⟨0, A4, 0, c4, by omega, rfl, rfl, HO3.out, HB3.out⟩
      case round =>
        obtain ⟨i, Ao, no, co, hi, rfl, rfl, hown, hbw⟩ := hrel
        have HO := Lib.hid hown
        have HB := Lib.hid hbw
        have HKX := Lib.hid (HK.out.below hbw HG.out)
        have HNO : Hid (no = (catN xs ys i).length) := Lib.hid hown.len.symm
        have HL1 := Lib.hid HS1.out.1
        have HL2 := Lib.hid HS2.out.1
        clear hown hbw HO3 HB3
        have h3 : i = 0 ∨ i = 1 ∨ i = 2 := by omega
        rcases h3 with rfl | rfl | rfl
        · have hc : wr.cell? ⟨g, 0, none⟩ = some (.slice A1 n1 c1) := by rw [HKX.out.cell]; rfl
          have hno : no = 0 := HNO.out
          go_wp2_with (at_builtin; refine wpList_append_all rfl (.tmp 31) (.tmp 32) rfl w.heap.size Ao no co [] A1 n1 c1 xs rfl rfl HO.out (HS1.out.below HB.out (Nat.le_refl _)) HB.out.size (by omega) hn1 ?_; intro A' c' w5 ho5 _ hb5)
          go_roundw
          case rel => exact ⟨1, A', n1, c', by omega, by go_num, rfl, by rw [hno, Nat.zero_add] at ho5; exact ho5, HB.out.trans hb5⟩
          case measure => simp [intOf]
        · have hc : wr.cell? ⟨g, 1, none⟩ = some (.slice A2 n2 c2) := by rw [HKX.out.cell]; rfl
          have hno : no = n1 := by rw [HNO.out]; exact HL1.out
          go_wp2_with (at_builtin; refine wpList_append_all rfl (.tmp 31) (.tmp 32) rfl w.heap.size Ao no co xs A2 n2 c2 ys rfl rfl HO.out (HS2.out.below HB.out (Nat.le_refl _)) HB.out.size (by omega) hn2 ?_; intro A' c' w5 ho5 _ hb5)
          go_roundw
          case rel => exact ⟨2, A', n1 + n2, c', by omega, by go_num, rfl, by rw [hno] at ho5; exact ho5, HB.out.trans hb5⟩
          case measure => simp [intOf]
        · go_wp2
          go_ret
          exact ⟨Ao, no, co, rfl, HO.out, HB.out⟩
end Go.Proofs.Ytfaegfhbbkicgaa

/-
  MeetSpaces on the program's side. Conditions: lengths below 2^40.
-/





namespace Go.Proofs.Ytfaegfhbbkicgaa
open Go.RowKit

theorem SI.dropK {w : World} {b o n : Nat} {xs : List Int} (h : SI w (some ⟨b, o, none⟩) n xs) {k : Nat} (hk : k < n) : SI w (some ⟨b, o + k, none⟩) (n - k) (xs.drop k) := by
  refine ⟨by rw [List.length_drop, h.1], fun hn => ?_⟩
  obtain ⟨b', o', e, hb, hc⟩ := h.2 (by omega)
  simp only [Option.some.injEq, Addr.mk.injEq] at e
  obtain ⟨rfl, rfl, _⟩ := e
  refine ⟨b, o + k, rfl, hb, fun j hj => ?_⟩
  have := hc (k + j) (by omega)
  rw [show o + k + j = o + (k + j) by omega, this]
  congr 2
  rw [nth_dropM]
set_option maxHeartbeats 1000000 in
theorem allRowsH_any (p : Int) (R C : Nat) (A : Option Addr) (b o n k : Nat) (w : World) (hA : 0 < R → A = some ⟨b, o, none⟩) (hC : 0 < C ∧ C ≤ 14) (hR : R ≤ 14) (hl : R * C ≤ n) (hnk : n ≤ k) (hn : n ≤ 1099511627776) :
    Calls Try.prog 70 #[.agg #[.int .i64 p, .int .i64 R, .int .i64 C, .slice A n k]] w fun e w' => ∃ g, e = .returned (.slice (some ⟨g, 0, none⟩) R R) ∧ OwnH w' w.heap.size g R (fun i => (some ⟨b, o + i * C, none⟩, C, k - i * C)) ∧ Below w.heap.size w w' := by
  obtain ⟨w1, hw1⟩ : ∃ w1, w1 = w.alloc (.cells #[.int .i64 p, .int .i64 R, .int .i64 C, .slice A n k] 27) := ⟨_, rfl⟩
  obtain ⟨g, hg⟩ : ∃ g, g = w.heap.size := ⟨_, rfl⟩
  have hk : Blk w1 g 27 #[.int .i64 p, .int .i64 R, .int .i64 C, .slice A n k] := by rw [hw1, hg]; exact Blk.new _ _ _
  have hb : Below w.heap.size w w1 := by rw [hw1]; exact Below.alloc_self _ _
  have HB := Lib.hid hb
  have HW := Lib.hid hw1
  have HG := Lib.hid hg
  have HK := Lib.hid hk
  have HSZ : Hid (w1.heap.size = g + 1) := Lib.hid (by rw [hw1, hg]; simp)
  have HFR := Lib.hid (firstRows_any p (R : Int) A b o n k C R w1 hA hC hR hl hnk hn)
  obtain ⟨q0, q1, q2, q3⟩ := cells4 hk
  clear hw1 hg hk hb hA
  go_enter Try.func70, Try.ntmps70
  go_upto_region 1 with fail
  rw [← HW.out, ← HG.out]
  go_wp2_with (first
    | (refine wpList_load_rowP rfl 27 (.tmp 1) rfl g rfl 27 #[.int .i64 p, .int .i64 R, .int .i64 C, .slice A n k] _ HK.out Try.underlying27 rfl Try.infoMx ?_)
    | (go_at_call 62
       with_reducible refine HFR.out.mono ?_
       rintro e w2 ⟨g2, rfl, ho2, hb2⟩
       have HO2 := Lib.hid ho2
       have HB2 := Lib.hid hb2
       clear ho2 hb2)
    | fail)
  go_ret
  refine ⟨g2, rfl, ?_, HB.out.trans (HB2.out.mono HB.out.size)⟩
  have h := HO2.out
  have hlo : w.heap.size ≤ w1.heap.size := HB.out.size
  exact World.ownsRow.mono_ h hlo
set_option maxRecDepth 100000 in
set_option maxHeartbeats 16000000 in
theorem implMeetSpaces_z (p r c p' r' c' : Int) (A A' : Option Addr) (n k n' k' : Nat) (xs ys : List Int) (w : World) (hs : SI w A n xs) (hs' : SI w A' n' ys) (hn : n ≤ 1099511627776) (hn' : n' ≤ 1099511627776) (hnk : n ≤ k) (hnk' : n' ≤ k') (zp zr zc : Int) (z : List Int) (ok : Bool) (hz : MeetIs p r c xs p' r' c' ys zp zr zc z ok) :
    Calls Try.prog 27 #[.agg #[.int .i64 p, .int .i64 r, .int .i64 c, .slice A n k], .agg #[.int .i64 p', .int .i64 r', .int .i64 c', .slice A' n' k']] w fun e w' => FreshMxB w w' e zp zr zc z ok := by
  obtain ⟨w1, hw1⟩ : ∃ w1, w1 = ((w.alloc (.cells #[.int .i64 p, .int .i64 r, .int .i64 c, .slice A n k] 27)).alloc (.cells #[.int .i64 p', .int .i64 r', .int .i64 c', .slice A' n' k'] 27)).alloc (.cells #[.int .i64 0, .int .i64 0, .int .i64 0, .slice none 0 0] 27) := ⟨_, rfl⟩
  obtain ⟨g, hg⟩ : ∃ g, g = w.heap.size := ⟨_, rfl⟩
  have hk : Blk w1 g 27 #[.int .i64 p, .int .i64 r, .int .i64 c, .slice A n k] := by rw [hw1, hg]; exact ((Blk.new _ _ _).alloc _).alloc _
  have hk2 : Blk w1 (g + 1) 27 #[.int .i64 p', .int .i64 r', .int .i64 c', .slice A' n' k'] := by
    rw [hw1, hg]
    have := (Blk.new (w.alloc (.cells #[.int .i64 p, .int .i64 r, .int .i64 c, .slice A n k] 27)) 27 #[.int .i64 p', .int .i64 r', .int .i64 c', .slice A' n' k']).alloc (.cells #[.int .i64 0, .int .i64 0, .int .i64 0, .slice none 0 0] 27)
    simpa using this
  have hk3 : Blk w1 (g + 2) 27 #[.int .i64 0, .int .i64 0, .int .i64 0, .slice none 0 0] := by
    rw [hw1, hg]
    have := Blk.new ((w.alloc (.cells #[.int .i64 p, .int .i64 r, .int .i64 c, .slice A n k] 27)).alloc (.cells #[.int .i64 p', .int .i64 r', .int .i64 c', .slice A' n' k'] 27)) 27 #[.int .i64 0, .int .i64 0, .int .i64 0, .slice none 0 0]
    simpa using this
  have hb : Below w.heap.size w w1 := by rw [hw1]; go_grown
  have HB := Lib.hid hb
  have HW := Lib.hid hw1
  have HG := Lib.hid hg
  have HK := Lib.hid hk
  have HK2 := Lib.hid hk2
  have HK3 := Lib.hid hk3
  have HSZ : Hid (w1.heap.size = g + 3) := Lib.hid (by rw [hw1, hg]; simp)
  have HSA := Lib.hid (hs.below hb (Nat.le_refl _))
  have HSB := Lib.hid (hs'.below hb (Nat.le_refl _))
  have HTW := Lib.hid (areSpaces_any p r c p' r' c' A A' n k n' k' xs ys w1 (hs.below hb (Nat.le_refl _)) (hs'.below hb (Nat.le_refl _)) hn hn' hnk hnk')
  clear hw1 hg hk hk2 hk3 hb hs hs'
  cases hu : twoB p r c xs p' r' c' ys with
  | false =>
    rw [hu] at HTW
    obtain rfl : ok = false := by rw [hz.1, hu]
    obtain ⟨rfl, rfl, rfl, rfl⟩ := hz.2.2 rfl
    clear hu hz
    go_enter Try.func27, Try.ntmps27
    go_upto_region 1 with fail
    rw [← HW.out, ← HG.out]
    go_wp2_with (first
      | (refine wpList_load_rowP rfl 27 (.tmp 2) rfl g rfl 27 #[.int .i64 p, .int .i64 r, .int .i64 c, .slice A n k] _ HK.out Try.underlying27 rfl Try.infoMx ?_)
      | (refine wpList_load_rowP rfl 27 (.tmp 3) rfl (g + 1) rfl 27 #[.int .i64 p', .int .i64 r', .int .i64 c', .slice A' n' k'] _ HK2.out Try.underlying27 rfl Try.infoMx ?_)
      | (go_at_call 73
         with_reducible refine HTW.out.mono ?_
         rintro e w2 ⟨rfl, hb2⟩
         have HB2 := Lib.hid hb2
         have HR2 := Lib.hid (HK3.out.below hb2 HK3.out.lt)
         clear hb2)
      | (refine wpList_store_rowP rfl 27 (.tmp 4) (.tmp 18) rfl (g + 2) #[.int .i64 0, .int .i64 0, .int .i64 0, .slice none 0 0] rfl rfl 27 #[.int .i64 0, .int .i64 0, .int .i64 0, .slice none 0 0] HR2.out Try.infoMx rfl (by simp [Value.oneCell']) ?_; intro w5 hb5 hg5)
      | fail)
    refine bodyPost_ret (results_mx_tmp Try.results27 _ _ _ 27 #[.int .i64 0, .int .i64 0, .int .i64 0, .slice none 0 0] _ rfl hb5 Try.underlying27 rfl Try.infoMx) rfl ?_
    exact FreshMxB.zero (HB.out.trans (HB2.out.mono HB.out.size)) (by have := HG.out; omega) hg5
  | true =>
    rw [hu] at HTW
    obtain rfl : ok = true := by rw [hz.1, hu]
    obtain ⟨rfl, rfl, rfl, rfl⟩ := hz.2.1 rfl
    obtain ⟨R, R', C, rfl, rfl, rfl, rfl, rfl, hp7, hR7, hR7', hC1, hC7, hxl, hyl, hxr, hyr⟩ := twoB_yes hu
    simp only [Int.toNat_natCast]
    have hp2 := hp7.two
    have hA := rowsC_ok (p := p') (d := xs) (by omega) hxr C R C
    have hB := rowsC_ok (p := p') (d := ys) (by omega) hyr C R' C
    obtain ⟨L, hL⟩ : ∃ L, L = dupR C (rowsC xs C R C) (rowsC ys C R' C) := ⟨_, rfl⟩
    obtain ⟨D, hD⟩ : ∃ D, D = C + C := ⟨_, rfl⟩
    have hLl : L.length = R + R' := by rw [hL]; exact dupR_len
    have hLo : ∀ x, x ∈ L → x.length = D ∧ Rg p' x := by rw [hL, hD]; exact dupR_ok hp7 hA hB
    have HMR : Hid (meetR p' C R R' xs ys = lateR C (echel p' L)) := Lib.hid (by unfold meetR; rw [hL])
    have HP := Lib.hid hp7
    have HLO := Lib.hid hLo
    have HST1 : Hid (∀ i, i < R → echel p' (L.take (i + 1)) = addR p' (echel p' (L.take i)) (rowC xs C C i ++ rowC xs C C i)) := Lib.hid (fun i hi => by
      have e : li L i = rowC xs C C i ++ rowC xs C C i := by rw [hL]; exact dupR_first hi
      rw [take_li' (by omega), e, echel_snoc])
    have HST2 : Hid (∀ j, j < R' → echel p' (L.take (R + j + 1)) = addR p' (echel p' (L.take (R + j))) (rowC ys C C j ++ List.replicate C 0)) := Lib.hid (fun j hj => by
      have e : li L (R + j) = rowC ys C C j ++ List.replicate C 0 := by rw [hL]; exact dupR_second hj
      rw [take_li' (by omega), e, echel_snoc])
    have HOK : Hid (∀ i, EOk p' D (echel p' (L.take i))) := Lib.hid (fun i => (echel_ok hp7 (fun x hx => hLo x (List.mem_of_mem_take hx))).1)
    have HLE : Hid (∀ i, (echel p' (L.take i)).length ≤ 14) := Lib.hid (fun i => by have := (HOK.out i).len_le hp7; omega)
    have HALL : Hid (L.take (R + R') = L) := Lib.hid (by rw [← hLl]; exact List.take_length)
    have HRX : Hid (∀ i, (rowC xs C C i ++ rowC xs C C i).length = D ∧ Rg p' (rowC xs C C i ++ rowC xs C C i)) := Lib.hid (fun i => ⟨by rw [List.length_append, rowC_len, hD], (rowC_rg (by omega) hxr C C i).app (rowC_rg (by omega) hxr C C i)⟩)
    have HRY : Hid (∀ i, (rowC ys C C i ++ List.replicate C 0).length = D ∧ Rg p' (rowC ys C C i ++ List.replicate C 0)) := Lib.hid (fun i => ⟨by rw [List.length_append, rowC_len, hD, List.length_replicate], (rowC_rg (by omega) hyr C C i).app (rg_zeros (by omega) C)⟩)
    have HNA : Hid (n = R * C) := Lib.hid (by have := HSA.out.1; omega)
    have HNB : Hid (n' = R' * C) := Lib.hid (by have := HSB.out.1; omega)
    have hn196 : n ≤ 196 := by have := HNA.out; have := nat_mul_small (r := R) (c := C) (by omega) (by omega); omega
    have hn196' : n' ≤ 196 := by have := HNB.out; have := nat_mul_small (r := R') (c := C) (by omega) (by omega); omega
    obtain ⟨bA, oA, hbA⟩ : ∃ b o, 0 < R → A = some ⟨b, o, none⟩ := by
      by_cases h : 0 < R
      · obtain ⟨b, o, e, _⟩ := HSA.out.2 (by rw [HNA.out]; exact Nat.mul_pos h hC1); exact ⟨b, o, fun _ => e⟩
      · exact ⟨0, 0, fun h' => absurd h' h⟩
    obtain ⟨bB, oB, hbB⟩ : ∃ b o, 0 < R' → A' = some ⟨b, o, none⟩ := by
      by_cases h : 0 < R'
      · obtain ⟨b, o, e, _⟩ := HSB.out.2 (by rw [HNB.out]; exact Nat.mul_pos h hC1); exact ⟨b, o, fun _ => e⟩
      · exact ⟨0, 0, fun h' => absurd h' h⟩
    have HARA := Lib.hid (fun u => allRowsH_any p' R C A bA oA n k u hbA ⟨hC1, by omega⟩ (by omega) (Nat.le_of_eq HNA.out.symm) hnk (by omega))
    have HARB := Lib.hid (fun u => allRowsH_any p' R' C A' bB oB n' k' u hbB ⟨hC1, by omega⟩ (by omega) (Nat.le_of_eq HNB.out.symm) hnk' (by omega))
    have HSX : Hid (∀ u i, Below w1.heap.size w1 u → i < R → SI u (some ⟨bA, oA + i * C, none⟩) C (rowC xs C C i)) := Lib.hid (fun u i hu hi => by
      have e := hbA (by omega)
      have h1 := HSA.out.below hu (Nat.le_refl _)
      rw [e] at h1
      refine h1.mid ?_
      have h5 : (i + 1) * C ≤ R * C := Nat.mul_le_mul (by omega) (Nat.le_refl _)
      rw [Nat.add_mul, Nat.one_mul] at h5
      have := HNA.out; omega)
    have HSY : Hid (∀ u i, Below w1.heap.size w1 u → i < R' → SI u (some ⟨bB, oB + i * C, none⟩) C (rowC ys C C i)) := Lib.hid (fun u i hu hi => by
      have e := hbB (by omega)
      have h1 := HSB.out.below hu (Nat.le_refl _)
      rw [e] at h1
      refine h1.mid ?_
      have h5 : (i + 1) * C ≤ R' * C := Nat.mul_le_mul (by omega) (Nat.le_refl _)
      rw [Nat.add_mul, Nat.one_mul] at h5
      have := HNB.out; omega)
    have HADD := Lib.hid (fun (u : World) (ge m c5 : Nat) (A5 : Option Addr) (E : List (List Int × Int)) (x : List Int) (K : Nat → Prop) (hE : EchK u ge ge p' E K) (hok : EOk p' D E) (hEl : E.length ≤ 14) (hs : SI u A5 m x) (hx : x.length = D ∧ Rg p' x) => (by
      have hm : m = D := by have := hs.1; omega
      subst hm
      exact echAddK_any p' ge ge m c5 A5 E x u hp7 K hE hok (by omega) hs hx.2 (by omega) : Calls Try.prog 74 #[.pointer (some ⟨ge, 0, none⟩), .slice A5 m c5] u fun e w' => e = .returned (.tuple #[]) ∧ EchK w' ge ge p' (addR p' E x) K ∧ Below ge u w' ∧ ∀ b, K b → w'.heap[b]? = u.heap[b]?))
    have HLOK : Hid (∀ x, x ∈ lateR C (echel p' L) → x.length = C ∧ Rg p' x) := Lib.hid (by have h := HOK.out (R + R'); rw [HALL.out, hD] at h; exact lateR_ok h)
    have HD := Lib.hid hD
    have hD14 : D ≤ 14 := by omega
    obtain ⟨zr, hzr⟩ : ∃ zr, zr = spanN p' C (meetR p' C R R' xs ys) := ⟨_, rfl⟩
    obtain ⟨zz, hzz⟩ : ∃ zz, zz = spanX p' C (meetR p' C R R' xs ys) := ⟨_, rfl⟩
    have HSP := Lib.hid (fun (A7 : Option Addr) (n7 c7 : Nat) (u : World) (h : LS u A7 n7 (lateR C (echel p' L))) (h14 : n7 ≤ 14) => spanOf_any p' C n7 c7 A7 (lateR C (echel p' L)) u hp7 h (by omega) HLOK.out ⟨hC1, by omega⟩)
    rw [← HMR.out, ← hzr, ← hzz] at HSP
    rw [HMR.out] at HSP
    rw [← hzr, ← hzz]
    clear hzr hzz hu hz hA hB hL hD hLl hLo hxl hyl hxr hyr hp7 hbA hbB hp2
    go_enter Try.func27, Try.ntmps27
    go_upto_region 1 with fail
    rw [← HW.out, ← HG.out]
    go_upto_region 3 with (first
      | (refine wpList_load_rowP rfl 27 (.tmp 2) rfl g rfl 27 #[.int .i64 p', .int .i64 R, .int .i64 C, .slice A n k] _ HK.out Try.underlying27 rfl Try.infoMx ?_)
      | (refine wpList_load_rowP rfl 27 (.tmp 3) rfl (g + 1) rfl 27 #[.int .i64 p', .int .i64 R', .int .i64 C, .slice A' n' k'] _ HK2.out Try.underlying27 rfl Try.infoMx ?_)
      | (go_at_call 73
         with_reducible refine HTW.out.mono ?_
         rintro e w2 ⟨rfl, hb2⟩
         have HB2 := Lib.hid hb2
         clear hb2)
      | fail)
    obtain ⟨q0, q1, q2, q3⟩ := cells4 (HK.out.below HB2.out HK.out.lt)
    go_upto_region 4 with (first
      | (refine wpList_store_rowP rfl 87 (.tmp 6) (.tmp 21) rfl w2.heap.size #[.int .i64 p', .slice none 0 0, .slice none 0 0] rfl rfl 87 #[.int .i64 0, .slice none 0 0, .slice none 0 0] (Blk.new _ _ _) Try.infoEc rfl (by simp [Value.oneCell']) ?_
         intro w3 hb3 hg3
         have HK3e := Lib.hid hb3
         have HG3 := Lib.hid hg3
         clear hb3 hg3)
      | fail)
    obtain ⟨ge, hge⟩ : ∃ ge, ge = w2.heap.size := ⟨_, rfl⟩
    rw [← hge] at HK3e HG3 ⊢
    have HGE : Hid (ge = w2.heap.size) := Lib.hid hge
    have HB3 : Hid (Below ge w2 w3) := Lib.hid (((Below.refl ge w2).alloc (Nat.le_of_eq hge) _).grown HG3.out (by simp; omega) (by rintro q ⟨⟩; exact Nat.le_refl _))
    have HE0 : Hid (EchS w3 ge ge p' []) := Lib.hid ⟨none, 0, 0, none, 0, 0, fun _ => (none, 0, 0), HK3e.out, Nat.le_refl _, ⟨rfl, by simpa [heads] using World.ownsRow_nil _ _ _ _, fun k hk => by simp [Value.ownBlock] at hk, fun j hj => absurd hj (by omega), fun j g hj => absurd hj (by omega), fun i j g _ hj => absurd hj (by omega)⟩, Own.nil _ _ _, ⟨fun e => by simp [rowB, Value.ownBlock] at e, fun j hj => absurd hj (by omega)⟩, fun e => by simp [rowB, Value.ownBlock] at e, fun q hq => by simp [rowB, Value.ownBlock] at hq⟩
    have HGW : Hid (w1.heap.size ≤ ge) := Lib.hid (by rw [hge]; exact HB2.out.size)
    have HUP : Hid (∀ u, Below ge w2 u → Below w1.heap.size w1 u) := Lib.hid (fun u hu => HB2.out.trans (hu.mono HGW.out))
    have HC4 : Hid (∀ u, Below ge w2 u → (u.cell? ⟨g, 0, none⟩ = some (.int .i64 p') ∧ u.cell? ⟨g, 2, none⟩ = some (.int .i64 C) ∧ u.cell? ⟨g + 1, 2, none⟩ = some (.int .i64 C))) := Lib.hid (fun u hu => by have h1 := cells4 (HK.out.below (HUP.out u hu) HK.out.lt); have h2 := cells4 (HK2.out.below (HUP.out u hu) HK2.out.lt); exact ⟨h1.1, h1.2.2.1, h2.2.2.1⟩)
    clear hge q0 q1 q2 q3 HG3 HK3e
    go_upto_region 5 with (first
      | (refine wpList_load_rowP rfl 27 (.tmp 2) rfl g rfl 27 #[.int .i64 p', .int .i64 R, .int .i64 C, .slice A n k] _ (HK.out.below (HUP.out _ HB3.out) HK.out.lt) Try.underlying27 rfl Try.infoMx ?_)
      | (go_at_call 70
         with_reducible refine (HARA.out w3).mono ?_
         rintro e w4 ⟨ga, rfl, hoh, hb4⟩
         have HOH := Lib.hid hoh
         have HB34 := Lib.hid hb4
         clear hoh hb4)
      | fail)
    have HB4 : Hid (Below ge w2 w4) := Lib.hid (HB3.out.trans (HB34.out.mono (by have := HB3.out.size; have := HGE.out; omega)))
    have HE4 : Hid (EchK w4 ge ge p' [] (fun b => b = ga)) := Lib.hid ((HE0.out.k.new HB34.out HOH.out.at_.1 HOH.out.at_.2).more (fun b hb => .inr hb))
    have HCA : Hid (∀ (u : World) i, u.heap[ga]? = w4.heap[ga]? → i < R → u.cell? ⟨ga, i, none⟩ = some (.slice (some ⟨bA, oA + i * C, none⟩) C (k - i * C))) := Lib.hid (fun u i hu hi => (World.cell?_of_block (a := ⟨ga, i, none⟩) hu).trans (HOH.out.cellAt hi))
    clear HE0 HB34
    go_loopw [25] (fun iv wr => ∃ i : Nat, i ≤ R ∧ iv = .int .i64 i ∧ EchK wr ge ge p' (echel p' (L.take i)) (fun b => b = ga) ∧ wr.heap[ga]? = w4.heap[ga]? ∧ Below ge w2 wr)
      (fun iv _ => R - (intOf iv).toNat)
    case atStart => exact ⟨0, Nat.zero_le _, rfl, by simpa [echel] using HE4.out, rfl, HB4.out⟩
    case round =>
      obtain ⟨i, hi, rfl, hE, hgh, hbr⟩ := hrel
      have HE := Lib.hid hE
      have HGH := Lib.hid hgh
      have HBR := Lib.hid hbr
      clear hE hgh hbr HE4
      by_cases hlt : i < R
      case pos =>
        have hlI : (i : Int) < (R : Int) := by omega
        have hwi : IntKind.i64.wrap ((i : Int) + 1) = (i : Int) + 1 := IntWalk.i64_in _ (by omega)
        obtain ⟨o1, ho1⟩ : ∃ o1, o1 = oA + i * C := ⟨_, rfl⟩
        obtain ⟨k1, hk1⟩ : ∃ k1, k1 = k - i * C := ⟨_, rfl⟩
        have c0 := HCA.out wr i HGH.out hlt
        rw [← ho1, ← hk1] at c0
        have HSI : Hid (∀ u, Below ge w2 u → SI u (some ⟨bA, o1, none⟩) C (rowC xs C C i)) := Lib.hid (fun u hu => by rw [ho1]; exact HSX.out u i (HUP.out u hu) hlt)
        have HSTEP := Lib.hid (HST1.out i hlt)
        obtain ⟨wa, hwa⟩ : ∃ wa, wa = wr.alloc (.cells #[.slice (some ⟨bA, o1, none⟩) C k1, .slice (some ⟨bA, o1, none⟩) C k1] 22) := ⟨_, rfl⟩
        have HGR : Hid (ge ≤ wr.heap.size) := Lib.hid (by have := HBR.out.size; have := HGE.out; omega)
        have HBA : Hid (Below ge w2 wa) := Lib.hid (by rw [hwa]; exact HBR.out.alloc HGR.out _)
        have HBRA : Hid (Below wr.heap.size wr wa) := Lib.hid (by rw [hwa]; exact Below.alloc_self _ _)
        have HCC := Lib.hid (concat2_any wr.heap.size 2 C k1 C k1 (some ⟨bA, o1, none⟩) (some ⟨bA, o1, none⟩) (rowC xs C C i) (rowC xs C C i) wa (by rw [hwa]; exact Blk.new _ _ _) (HSI.out wa HBA.out) (HSI.out wa HBA.out) (by omega) (by omega))
        rw [hwa] at HCC
        have HWA := Lib.hid hwa
        clear ho1 hk1 hwa
        go_wp2_with (first
          | (go_at_call 75
             with_reducible refine HCC.out.mono ?_
             rintro e w5 ⟨A5, n5, c5, rfl, ho5, hb5⟩
             have HB5r : Hid (Below wr.heap.size wr w5) := Lib.hid (HBRA.out.trans (by rw [HWA.out]; exact hb5.mono (by simp)))
             have HB5 : Hid (Below ge w2 w5) := Lib.hid (HBR.out.trans (HB5r.out.mono HGR.out))
             have HAD := Lib.hid (HADD.out w5 ge n5 c5 A5 _ _ _ (HE.out.below HB5r.out (Nat.le_refl _)) (HOK.out i) (HLE.out i) ho5.si (HRX.out i))
             have HG5 : Hid (w5.heap[ga]? = w4.heap[ga]?) := Lib.hid ((HB5r.out.block ga (by obtain ⟨_, _, _, _, _, _, _, _, hK⟩ := HE.out; exact (hK ga rfl).1)).trans HGH.out)
             clear ho5 hb5)
          | (go_at_call 74
             with_reducible refine HAD.out.mono ?_
             rintro e w6 ⟨rfl, hE6, hb6, hk6⟩
             have HE6 := Lib.hid hE6
             have HB6 : Hid (Below ge w2 w6) := Lib.hid (HB5.out.trans hb6)
             have HG6 : Hid (w6.heap[ga]? = w4.heap[ga]?) := Lib.hid ((hk6 ga rfl).trans HG5.out)
             clear hE6 hb6 hk6)
          | fail)
        go_roundw
        case rel => exact ⟨i + 1, by omega, by go_num, by rw [HSTEP.out]; exact HE6.out, HG6.out, HB6.out⟩
        case measure => simp [intOf]; omega
      case neg =>
        obtain rfl : i = R := by omega
        have HKb := Lib.hid (HK2.out.below (HUP.out _ HBR.out) HK2.out.lt)
        have HGR : Hid (ge ≤ wr.heap.size) := Lib.hid (by have := HBR.out.size; have := HGE.out; omega)
        go_upto_region 10 with (first
          | (refine wpList_load_rowP rfl 27 (.tmp 3) rfl (g + 1) rfl 27 #[.int .i64 p', .int .i64 R', .int .i64 C, .slice A' n' k'] _ HKb.out Try.underlying27 rfl Try.infoMx ?_)
          | (go_at_call 70
             with_reducible refine (HARB.out wr).mono ?_
             rintro e w7 ⟨gb, rfl, hoh, hb7⟩
             have HOB := Lib.hid hoh
             have HB7r := Lib.hid hb7
             clear hoh hb7)
          | fail)
        have HB7 : Hid (Below ge w2 w7) := Lib.hid (HBR.out.trans (HB7r.out.mono HGR.out))
        have HE7 : Hid (EchK w7 ge ge p' (echel p' (L.take i)) (fun b => b = gb)) := Lib.hid ((HE.out.new HB7r.out HOB.out.at_.1 HOB.out.at_.2).more (fun b hb => .inr hb))
        have HCB : Hid (∀ (u : World) j, u.heap[gb]? = w7.heap[gb]? → j < R' → u.cell? ⟨gb, j, none⟩ = some (.slice (some ⟨bB, oB + j * C, none⟩) C (k' - j * C))) := Lib.hid (fun u j hu hj => (World.cell?_of_block (a := ⟨gb, j, none⟩) hu).trans (HOB.out.cellAt hj))
        clear HE HGH HBR HKb HCA HGR
        go_loopw [38] (fun jv wx => ∃ j : Nat, j ≤ R' ∧ jv = .int .i64 j ∧ EchK wx ge ge p' (echel p' (L.take (i + j))) (fun b => b = gb) ∧ wx.heap[gb]? = w7.heap[gb]? ∧ Below ge w2 wx)
          (fun jv _ => R' - (intOf jv).toNat)
        case atStart => exact ⟨0, Nat.zero_le _, rfl, HE7.out, rfl, HB7.out⟩
        case round =>
          obtain ⟨j, hj, rfl, hE, hgh, hbx⟩ := hrel
          obtain ⟨wx, hwx⟩ : ∃ v, v = wr := ⟨_, rfl⟩
          subst hwx
          have HE := Lib.hid hE
          have HGH := Lib.hid hgh
          have HBR := Lib.hid hbx
          have HGR : Hid (ge ≤ wx.heap.size) := Lib.hid (by have := HBR.out.size; have := HGE.out; omega)
          clear hE hgh hbx HE7
          by_cases hlt2 : j < R'
          case pos =>
            have hlI : (j : Int) < (R' : Int) := by omega
            have hwi : IntKind.i64.wrap ((j : Int) + 1) = (j : Int) + 1 := IntWalk.i64_in _ (by omega)
            obtain ⟨o1, ho1⟩ : ∃ o1, o1 = oB + j * C := ⟨_, rfl⟩
            obtain ⟨k1, hk1⟩ : ∃ k1, k1 = k' - j * C := ⟨_, rfl⟩
            have c0 := HCB.out wx j HGH.out hlt2
            rw [← ho1, ← hk1] at c0
            have c1 := (HC4.out wx HBR.out).2.2
            have HSI : Hid (∀ u, Below ge w2 u → SI u (some ⟨bB, o1, none⟩) C (rowC ys C C j)) := Lib.hid (fun u hu => by rw [ho1]; exact HSY.out u j (HUP.out u hu) hlt2)
            have HSTEP := Lib.hid (HST2.out j hlt2)
            have HCC := Lib.hid (fun (u : World) (A3 : Option Addr) (k3 : Nat) (hu : Below ge w2 u) (h : SI u A3 C (List.replicate C 0)) => concat2_any u.heap.size 2 C k1 C k3 (some ⟨bB, o1, none⟩) A3 (rowC ys C C j) (List.replicate C 0) (u.alloc (.cells #[.slice (some ⟨bB, o1, none⟩) C k1, .slice A3 C k3] 22)) (Blk.new _ _ _) ((HSI.out u hu).below (Below.alloc_self _ _) (Nat.le_refl _)) (h.below (Below.alloc_self _ _) (Nat.le_refl _)) (by omega) (by omega))
            clear ho1 hk1
            go_wp2_with (first
              | (at_make; refine wpList_make_zero rfl (.tmp 44) (.tmp 44) rfl C rfl rfl (by omega) ?_
                 intro w8 ho8 hb8
                 have HB8r : Hid (Below wx.heap.size wx w8) := Lib.hid hb8
                 have HB8 : Hid (Below ge w2 w8) := Lib.hid (HBR.out.trans (hb8.mono HGR.out))
                 have HCD := Lib.hid (HCC.out w8 _ C HB8.out ho8.si)
                 clear ho8 hb8)
              | (go_at_call 75
                 with_reducible refine HCD.out.mono ?_
                 rintro e w5 ⟨A5, n5, c5, rfl, ho5, hb5⟩
                 have HB5r : Hid (Below wx.heap.size wx w5) := Lib.hid (HB8r.out.trans ((Below.alloc_self _ _).mono HB8r.out.size |>.trans (hb5.mono (Nat.le_trans HB8r.out.size (by simp)))))
                 have HB5 : Hid (Below ge w2 w5) := Lib.hid (HBR.out.trans (HB5r.out.mono HGR.out))
                 have HAD := Lib.hid (HADD.out w5 ge n5 c5 A5 _ _ _ (HE.out.below HB5r.out (Nat.le_refl _)) (HOK.out (i + j)) (HLE.out (i + j)) ho5.si (HRY.out j))
                 have HG5 : Hid (w5.heap[gb]? = w7.heap[gb]?) := Lib.hid ((HB5r.out.block gb (by obtain ⟨_, _, _, _, _, _, _, _, hK⟩ := HE.out; exact (hK gb rfl).1)).trans HGH.out)
                 clear ho5 hb5)
              | (go_at_call 74
                 with_reducible refine HAD.out.mono ?_
                 rintro e w6 ⟨rfl, hE6, hb6, hk6⟩
                 have HE6 := Lib.hid hE6
                 have HB6 : Hid (Below ge w2 w6) := Lib.hid (HB5.out.trans hb6)
                 have HG6 : Hid (w6.heap[gb]? = w7.heap[gb]?) := Lib.hid ((hk6 gb rfl).trans HG5.out)
                 clear hE6 hb6 hk6)
              | fail)
            go_roundw
            case rel => exact ⟨j + 1, by omega, by go_num, by rw [← Nat.add_assoc, HSTEP.out]; exact HE6.out, HG6.out, HB6.out⟩
            case measure => simp [intOf]; omega
          case neg =>
            obtain rfl : j = R' := by omega
            obtain ⟨E, hEe⟩ : ∃ E, E = echel p' L := ⟨_, rfl⟩
            have hEall : echel p' (L.take (i + j)) = E := by rw [HALL.out, hEe]
            have HEQ := Lib.hid hEe
            obtain ⟨AR, nR, cR, AC, nC, cC, Ev, hDx, _⟩ := HE.out
            rw [hEall] at hDx
            have HEOK : Hid (EOk p' D E) := Lib.hid (by have := HOK.out (i + j); rwa [hEall] at this)
            have hE14 : E.length ≤ 14 := by have := HLE.out (i + j); rwa [hEall] at this
            have HDX := Lib.hid hDx
            have HLR := Lib.hid hDx.lenR
            have HLC := Lib.hid hDx.lenC
            have hnC : nC ≤ 14 := by have := hDx.lenC; omega
            obtain ⟨e0, e1, e2⟩ := hDx.cells
            obtain ⟨B8, hB8⟩ : ∃ B8, B8 = wx.heap.size := ⟨_, rfl⟩
            have HB8 := Lib.hid hB8
            clear hEe hEall hDx HE HGH hB8 HST1 HST2 HALL HADD
            go_wp2_with fail
            clear e0 e1 e2
            go_loopw [11, 53] (fun cv tv wy => ∃ (t no co : Nat) (Ao : Option Addr) (H : List Value), t ≤ nC ∧ tv = .int .i64 t ∧ cv = .slice Ao no co ∧ wy.ownsRow B8 22 1 (.slice Ao no co) no H ∧ no ≤ t ∧ (lateR C (E.take t)).length = no ∧ (∀ q, q < no → ∃ b c', H[q]? = some (.slice (some ⟨b, C, none⟩) C c') ∧ C ≤ c' ∧ SI wx (some ⟨b, C, none⟩) C (li (lateR C (E.take t)) q)) ∧ Below B8 wx wy)
              (fun _ tv _ => nC - (intOf tv).toNat)
            case atStart => exact ⟨0, 0, 0, none, [], Nat.zero_le _, rfl, rfl, World.ownsRow_nil _ _ _ _, Nat.le_refl _, by simp [lateR], fun q hq => absurd hq (Nat.not_lt_zero _), Below.refl _ _⟩
            case round =>
              obtain ⟨t, no, co, Ao, H, ht, rfl, rfl, how, hno, hll, hH, hby⟩ := hrel
              obtain ⟨wy, hwy⟩ : ∃ v, v = wr := ⟨_, rfl⟩
              subst hwy
              have HOW := Lib.hid how
              have HLL := Lib.hid hll
              have HHH := Lib.hid hH
              have HBY := Lib.hid hby
              have HDY := Lib.hid (HDX.out.below hby (Nat.le_of_eq HB8.out.symm))
              have HBW : Hid (Below ge w2 wy) := Lib.hid (HBR.out.trans (hby.mono (by have := HGR.out; have := HB8.out; omega)))
              obtain ⟨g0, g2, _⟩ := HC4.out wy HBW.out
              have HLY : Hid (B8 ≤ wy.heap.size) := Lib.hid (by have := hby.size; have := HB8.out; omega)
              clear how hll hH hby
              by_cases htn : t < nC
              case pos =>
                have htI : (t : Int) < (nC : Int) := by omega
                have hwt : IntKind.i64.wrap ((t : Int) + 1) = (t : Int) + 1 := IntWalk.i64_in _ (by omega)
                have htE : t < E.length := by have := HLC.out; omega
                have htR : t < nR := by have := HLR.out; omega
                have htRI : (t : Int) < (nR : Int) := by omega
                obtain ⟨gc, rfl, _⟩ := HDY.out.cols.place (by omega)
                obtain ⟨gr, rfl, _⟩ := HDY.out.rows.place (by omega)
                have cc := HDY.out.cols.cellAt htn
                have hcol : nth (E.map (·.2)) t = E[t].2 := by rw [nth_get (by simpa using htE)]; simp
                have hrow : li (E.map (·.1)) t = E[t].1 := by rw [li_get (by simpa using htE)]; simp
                have hei := HEOK.out.1 E[t] (List.getElem_mem htE)
                rw [hcol] at cc
                obtain ⟨c, hc⟩ : ∃ c, c = E[t].2 := ⟨_, rfl⟩
                have htk : E.take (t + 1) = E.take t ++ [E[t]] := List.take_succ_eq_append_getElem htE
                have hlate : lateR C (E.take (t + 1)) = if (C : Int) ≤ c then lateR C (E.take t) ++ [E[t].1.drop C] else lateR C (E.take t) := by
                  rw [htk, hc]; unfold lateR
                  rw [List.filter_append, List.map_append]
                  by_cases h : (C : Int) ≤ E[t].2
                  · rw [if_pos h]; simp [h]
                  · rw [if_neg h]; simp [h]
                rw [← hc] at cc
                have cc' : wy.cell? ⟨gc, t, none⟩ = some (.int .i64 c) := cc
                clear cc
                by_cases hge : (C : Int) ≤ c
                case neg =>
                  rw [if_neg hge] at hlate
                  have HLT := Lib.hid hlate
                  have hge' : c < (C : Int) := by omega
                  clear hlate htk hc hcol hrow hei g0
                  go_wp2
                  go_roundw
                  case rel => exact ⟨t + 1, no, co, Ao, H, by omega, by go_num, rfl, HOW.out, by omega, by rw [HLT.out]; exact HLL.out, by rw [HLT.out]; exact HHH.out, HBY.out⟩
                  case measure => simp [intOf]; omega
                case pos =>
                  rw [if_pos hge] at hlate
                  have HLT := Lib.hid hlate
                  have hcr := HDY.out.rows.cellAt htR
                  have hown := HDX.out.rows.2.2.2.1 t htR
                  rw [hrow] at hown
                  obtain ⟨⟨A9, n9, c9⟩, hEv⟩ : ∃ a, a = Ev t := ⟨_, rfl⟩
                  rw [← hEv] at hown hcr
                  have hcr' : wy.cell? ⟨gr, t, none⟩ = some (.slice A9 n9 c9) := hcr
                  have hown' : Own wx ge wx.heap.size A9 n9 c9 (E[t].1) := hown
                  obtain rfl : n9 = D := by have := hown'.len; have := hei.1; omega
                  obtain ⟨gj, rfl, _⟩ := hown'.place (by have := HD.out; omega)
                  have hcap := hown'.cap
                  have hDC : n9 - C = C := by have := HD.out; omega
                  have HDC := Lib.hid hDC
                  have hsub : SI wx (some ⟨gj, C, none⟩) C (E[t].1.drop C) := by
                    have h1 := hown'.si.dropK (k := C) (by have := HD.out; omega)
                    rw [hDC, Nat.zero_add] at h1; exact h1
                  have HSUB := Lib.hid hsub
                  obtain ⟨k9, hk9⟩ : ∃ k9, k9 = c9 - C := ⟨_, rfl⟩
                  have HCK : Hid (C ≤ k9) := Lib.hid (by omega)
                  have hcC : (C : Int) ≤ (n9 : Int) := by have := HD.out; omega
                  have hnc9 : (n9 : Int) ≤ (c9 : Int) := by omega
                  have hne9 : ¬ c9 = C := by omega
                  have e1 := HDY.out.cells.2.1
                  have MKS : Hid (∀ u, Below B8 wx u → (u.cell? ⟨ge, 1, none⟩ = some (.slice (some ⟨gr, 0, none⟩) nR cR) ∧ u.cell? ⟨gr, t, none⟩ = some (.slice (some ⟨gj, 0, none⟩) n9 c9) ∧ u.cell? ⟨g, 2, none⟩ = some (.int .i64 C))) := Lib.hid (fun u hu => by
                    have h1 := HDX.out.below hu (Nat.le_of_eq HB8.out.symm)
                    have h2 := h1.rows.cellAt htR
                    rw [← hEv] at h2
                    exact ⟨h1.cells.2.1, h2, (HC4.out u (HBR.out.trans (hu.mono (by have := HGR.out; have := HB8.out; omega)))).2.1⟩)
                  obtain ⟨i0, hi0, hz0, hz1, hz2⟩ := info_parts Try.infoLs
                  have HI := Lib.hid (And.intro hi0 (And.intro hz0 (And.intro hz1 hz2)))
                  have HKd : Hid (wy.drew.cell? ⟨ge, 1, none⟩ = some (.slice (some ⟨gr, 0, none⟩) nR cR) ∧ wy.drew.cell? ⟨gr, t, none⟩ = some (.slice (some ⟨gj, 0, none⟩) n9 c9) ∧ wy.drew.cell? ⟨g, 2, none⟩ = some (.int .i64 C)) := Lib.hid (MKS.out _ HBY.out.drew)
                  have HAL : Hid (∀ o, Below B8 wx (wy.drew.alloc o)) := Lib.hid (fun o => HBY.out.drew.alloc HLY.out o)
                  have HAZ : Hid (∀ o, B8 ≤ (wy.drew.alloc o).heap.size) := Lib.hid (fun o => by have := (HAL.out o).size; have := HB8.out; omega)
                  have KA := fun o => MKS.out (wy.drew.alloc o) (HAL.out o)
                  have KA2 := fun o => MKS.out ((wy.alloc o).drew) ((HBY.out.alloc HLY.out o).drew)
                  have HOWA : Hid (∀ o, (wy.drew.alloc o).ownsRow B8 22 1 (.slice Ao no co) no H) := Lib.hid (fun o => World.ownsRow.alloc (w := wy.drew) HOW.out o)
                  clear hlate htk hc hcol hrow hei hcr hcr' hown hown' hEv hsub e1 hi0 hz0 hz1 hz2 hDC hcap g0
                  have hck9 : c9 - C = k9 := hk9.symm
                  clear hk9
                  go_upto_region 19 with fail
                  clear cc' g2
                  go_region_held3 (fun u => u.cell? ⟨ge, 1, none⟩ = some (.slice (some ⟨gr, 0, none⟩) nR cR) ∧ u.cell? ⟨gr, t, none⟩ = some (.slice (some ⟨gj, 0, none⟩) n9 c9) ∧ u.cell? ⟨g, 2, none⟩ = some (.int .i64 C))
                    (first | with_reducible exact HKd.out | with_reducible exact KA _ | with_reducible exact KA2 _ | with_reducible exact K6)
                    (first
                      | (refine step_append_lies _ (by rfl) (.tmp 62) (.tmp 71) 41 (by rfl) B8 22 i0 (.slice none 0 0) 1 24 Try.underlying41 HI.out.1 HI.out.2.1 HI.out.2.2.1 HI.out.2.2.2 rfl (by decide) (.slice Ao no co) no H (by rfl) (HOWA.out (.cells #[.slice (some ⟨gj, C, none⟩) (n9 - C) k9] 22)) ⟨wy.heap.size, 0, none⟩ 1 1 [.slice (some ⟨gj, C, none⟩) (n9 - C) k9] (by rfl) (by rfl) (World.news_of_block (cs := #[.slice (some ⟨gj, C, none⟩) (n9 - C) k9]) (t := 22) (fr := (0, 0)) (heap_alloc_new wy.drew _)) (by simp [Value.oneCell']) (by omega) (by unfold maxLen; omega) (by omega) (HAZ.out (.cells #[.slice (some ⟨gj, C, none⟩) (n9 - C) k9] 22)) (wy.heap.size + 1) (by simp) ?_
                         intro g6 c6 w6 ho6 hg6 hat6 hlt6
                         have HO6 := Lib.hid ho6
                         have HB6 : Hid (Below B8 wx w6) := Lib.hid ((HAL.out (.cells #[.slice (some ⟨gj, C, none⟩) (n9 - C) k9] 22)).trans (grow_below hg6 (HAZ.out (.cells #[.slice (some ⟨gj, C, none⟩) (n9 - C) k9] 22)) (fun q hq => ((HOWA.out (.cells #[.slice (some ⟨gj, C, none⟩) (n9 - C) k9] 22)).lt q hq).1)))
                         have K6 := MKS.out w6 HB6.out
                         clear ho6 hg6 hat6 hlt6))
                  go_wp2
                  go_roundw
                  case rel =>
                    refine ⟨t + 1, no + 1, c6, _, H ++ [.slice (some ⟨gj, C, none⟩) (n9 - C) k9], by omega, by go_num, rfl, HO6.out, by omega, by rw [HLT.out, List.length_append, HLL.out]; rfl, fun q hq => ?_, HB6.out⟩
                    have hHl : H.length = no := by have := HOW.out.1; omega
                    by_cases hqn : q < no
                    · obtain ⟨b, c', h1, h2, h3⟩ := HHH.out q hqn
                      refine ⟨b, c', by rw [List.getElem?_append_left (by omega)]; exact h1, h2, ?_⟩
                      rw [HLT.out, li_appL (by rw [HLL.out]; exact hqn)]; exact h3
                    · obtain rfl : q = no := by omega
                      refine ⟨gj, k9, by rw [List.getElem?_append_right (by omega), hHl, Nat.sub_self, HDC.out]; rfl, HCK.out, ?_⟩
                      have e9 := li_appR (A := lateR C (E.take t)) (B := [E[t].1.drop C]) (i := 0) (by simp)
                      rw [HLL.out, Nat.add_zero] at e9
                      rw [HLT.out, e9]; exact HSUB.out
                  case measure => simp [intOf]; omega
              case neg =>
                obtain rfl : t = nC := by omega
                have hEt : E.take t = E := List.take_of_length_le (by have := HLC.out; omega)
                rw [hEt] at HLL HHH
                have HLS : Hid (LS wy Ao no (lateR C (echel p' L))) := Lib.hid (by
                  rw [← HEQ.out]
                  refine ⟨HLL.out, fun hn => ?_⟩
                  obtain ⟨ga2, cap2, e2, _, _⟩ := HOW.out.form (by omega)
                  injection e2 with e2
                  subst e2
                  refine ⟨ga2, 0, rfl, (HOW.out.lt ga2 rfl).2, fun q hq => ?_⟩
                  obtain ⟨b, c', h1, h2, h3⟩ := HHH.out q hq
                  refine ⟨some ⟨b, C, none⟩, C, c', ?_, h3.below HBY.out (Nat.le_of_eq HB8.out.symm), h2, fun h => by cases h⟩
                  rw [Nat.zero_add, World.ownsRow.cellAt HOW.out q (by omega)]; exact h1)
                have HSPX := Lib.hid (HSP.out Ao no co wy HLS.out (by omega))
                have HR7 := Lib.hid (HK3.out.below (HUP.out _ HBW.out) HK3.out.lt)
                clear hEt
                go_wp2_with (first
                  | (go_at_call 76
                     with_reducible refine HSPX.out.mono ?_
                     rintro e w8 ⟨B9, m9, d9, rfl, ho9, hb9⟩
                     have HO9 := Lib.hid ho9
                     have HB9 : Hid (Below w1.heap.size w1 w8) := Lib.hid ((HUP.out _ HBW.out).trans (hb9.mono (HUP.out _ HBW.out).size))
                     have HR9 := Lib.hid (HR7.out.below hb9 HR7.out.lt)
                     have HS9 : Hid (w1.heap.size ≤ wy.heap.size ∧ wy.heap.size ≤ w8.heap.size) := Lib.hid ⟨(HUP.out _ HBW.out).size, hb9.size⟩
                     clear ho9 hb9)
                  | (refine wpList_store_rowP rfl 27 (.tmp 4) (.tmp 79) rfl (g + 2) #[.int .i64 p', .int .i64 zr, .int .i64 C, .slice B9 m9 d9] rfl rfl 27 #[.int .i64 0, .int .i64 0, .int .i64 0, .slice none 0 0] HR9.out Try.infoMx rfl (by simp [Value.oneCell']) ?_; intro w9 hbb hgg)
                  | fail)
                refine bodyPost_ret (results_mx_tmp Try.results27 _ _ _ 27 #[.int .i64 p', .int .i64 zr, .int .i64 C, .slice B9 m9 d9] _ rfl hbb Try.underlying27 rfl Try.infoMx) rfl ?_
                have l1 := HSZ.out
                have l2 := HG.out
                have l3 := hgg.size
                have l4 := HS9.out
                have l5 := HB.out.size
                refine ⟨B9, m9, d9, rfl, ?_, ?_⟩
                · exact (HO9.out.grown hgg (fun q hq => by injection hq with hq; omega)).wide (by omega) (by omega)
                · exact (HB.out.trans (HB9.out.mono l5)).grown hgg (by omega) (by rintro q ⟨⟩; omega)
end Go.Proofs.Ytfaegfhbbkicgaa
