/-
  The sides of a puzzle, the program's side. Conditions: a puzzle with lists of the right lengths.
-/
import Derived.Test.YtdkcngilmdpbgaaPuzI
namespace Go.Proofs.Ytdkcngilmdpbgaa
open Go.RowKit

/-- 'make([]int, n)' in a region that draws. -/
theorem run_mk (n : Nat) (w : World) (hn : n ≤ 1099511627776) : ∃ g w', g = w.heap.size ∧ (Instr.makeSlice 22 (.int .i64 n) (.int .i64 n)).run Try.prog w = .ok (.slice (some ⟨g, 0, none⟩) n n) w' ∧
    Own w' g (g + 1) (some ⟨g, 0, none⟩) n n (List.replicate n 0) ∧ w.grownBy w' none ∧ g < w'.heap.size := by
  obtain ⟨i0, hi, hz0, hz1, hz2⟩ := info_parts Try.infoInt
  obtain ⟨w', hrun, r1, r2⟩ := run_make_full (P := Try.prog) w w.heap.size 22 3 i0 (.int .i64 0) 1 Try.underlying22 hi hz0 hz1 .i64 .i64 n (by rw [hz2]; omega) (by unfold maxLen; omega) (Nat.le_refl _)
  have e : (madeCells (Value.int .i64 0).cells (n * 1)).toList = (List.replicate n (0 : Int)).map (Value.int .i64) := by
    rw [show (Value.int .i64 0).cells = #[Value.int .i64 0] from rfl, Nat.mul_one, toList_madeCells_one]; simp
  rw [e] at r1
  exact ⟨w.heap.size, w', rfl, hrun, ⟨r1, fun k hk => by simp [Value.ownBlock] at hk; omega⟩, r2, (r1.lt w.heap.size rfl).2⟩
/-- The left side and the right side when i rows are done. -/
def lfL (m : Nat) (x1 : List Int) (i : Nat) : List Int := (List.range m).map fun j => if m ≤ j + i then nth x1 (tri (m - 1 - j)) else 0
def rgL (m : Nat) (x2 : List Int) (i : Nat) : List Int := (List.range m).map fun j => if j < i then nth x2 (tri j + j) else 0
theorem lfL_len (m : Nat) (x : List Int) (i : Nat) : (lfL m x i).length = m := by simp [lfL]
theorem rgL_len (m : Nat) (x : List Int) (i : Nat) : (rgL m x i).length = m := by simp [rgL]
theorem lfL_nth {m : Nat} {x : List Int} {i j : Nat} (h : j < m) : nth (lfL m x i) j = if m ≤ j + i then nth x (tri (m - 1 - j)) else 0 := by rw [nth_get (by rw [lfL_len]; exact h)]; simp [lfL]
theorem rgL_nth {m : Nat} {x : List Int} {i j : Nat} (h : j < m) : nth (rgL m x i) j = if j < i then nth x (tri j + j) else 0 := by rw [nth_get (by rw [rgL_len]; exact h)]; simp [rgL]
theorem lfL_zero (m : Nat) (x : List Int) : lfL m x 0 = List.replicate m 0 := by
  refine list_ext_nth (by simp [lfL]) fun k hk => ?_
  rw [lfL_len] at hk
  rw [lfL_nth hk, if_neg (by omega), nth_get (by simpa using hk)]; simp
theorem rgL_zero (m : Nat) (x : List Int) : rgL m x 0 = List.replicate m 0 := by
  refine list_ext_nth (by simp [rgL]) fun k hk => ?_
  rw [rgL_len] at hk
  rw [rgL_nth hk, if_neg (by omega), nth_get (by simpa using hk)]; simp
theorem lfL_set {m : Nat} {x : List Int} {i : Nat} (h : i < m) : (lfL m x i).set (m - 1 - i) (nth x (tri i)) = lfL m x (i + 1) := by
  refine list_ext_nth (by simp [lfL_len]) fun k hk => ?_
  have hk' : k < m := by simpa [lfL_len] using hk
  rw [nth_set _ (by rw [lfL_len]; omega), lfL_nth hk', lfL_nth hk']
  by_cases e : k = m - 1 - i
  · rw [if_pos e, if_pos (by omega), e, show m - 1 - (m - 1 - i) = i by omega]
  · rw [if_neg e]
    by_cases e2 : m ≤ k + i
    · rw [if_pos e2, if_pos (by omega)]
    · rw [if_neg e2, if_neg (by omega)]
theorem rgL_set {m : Nat} {x : List Int} {i : Nat} (h : i < m) : (rgL m x i).set i (nth x (tri i + i)) = rgL m x (i + 1) := by
  refine list_ext_nth (by simp [rgL_len]) fun k hk => ?_
  have hk' : k < m := by simpa [rgL_len] using hk
  rw [nth_set _ (by rw [rgL_len]; omega), rgL_nth hk', rgL_nth hk']
  by_cases e : k = i
  · rw [if_pos e, if_pos (by omega), e]
  · rw [if_neg e]
    by_cases e2 : k < i
    · rw [if_pos e2, if_pos (by omega)]
    · rw [if_neg e2, if_neg (by omega)]
theorem lfL_all (m : Nat) (x : List Int) : lfL m x m = sdA m x := by
  refine list_ext_nth (by rw [lfL_len, sdA_len]) fun k hk => ?_
  rw [lfL_len] at hk
  rw [lfL_nth hk, if_pos (by omega), sdA_nth hk]
theorem rgL_all (m : Nat) (x : List Int) : rgL m x m = sdB m x := by
  refine list_ext_nth (by rw [rgL_len, sdB_len]) fun k hk => ?_
  rw [rgL_len] at hk
  rw [rgL_nth hk, if_pos hk, sdB_nth hk]
theorem grown_setD (w : World) (a : Addr) (u : Value) : w.grownBy (w.setCell a u).drew (some a.block) := ⟨rfl, rfl, rfl, (grown_setP w a u).size, (grown_setP w a u).block⟩
theorem nth_drop (xs : List Int) (T k : Nat) : nth (xs.drop T) k = nth xs (T + k) := by simp [nth, List.getD]
theorem SI.drop {w : World} {A : Option Addr} {n k : Nat} {xs : List Int} (h : SI w A n xs) (hk : k ≤ n) : ∀ b o, A = some ⟨b, o, none⟩ → SI w (some ⟨b, o + k, none⟩) (n - k) (xs.drop k) := fun b o e => by
  refine ⟨by rw [List.length_drop, h.1], fun hn => ?_⟩
  obtain ⟨b', o', e', hb, hc⟩ := h.2 (by omega)
  rw [e'] at e
  injection e with e
  injection e with e1 e2
  subst e1 e2
  exact ⟨b', o' + k, rfl, hb, fun j hj => by rw [nth_drop, Nat.add_assoc]; exact hc (k + j) (by omega)⟩
/-- What a call that makes three sides hands back. -/
def FreshSd (w w' : World) (e : Ending) (a b c : List Int) : Prop :=
  ∃ gl gr Ac nc cc n, e = .returned (.tuple #[.slice (some ⟨gl, 0, none⟩) n n, .slice (some ⟨gr, 0, none⟩) n n, .slice Ac nc cc]) ∧ gl ≠ gr ∧ w.heap.size ≤ gl ∧ w.heap.size ≤ gr ∧
    Own w' gl (gl + 1) (some ⟨gl, 0, none⟩) n n a ∧ Own w' gr (gr + 1) (some ⟨gr, 0, none⟩) n n b ∧ (∃ lo, gl < lo ∧ gr < lo ∧ Own w' lo w'.heap.size Ac nc cc c) ∧ Below w.heap.size w w'
set_option maxRecDepth 100000 in
set_option maxHeartbeats 4000000 in
theorem pzSides_any (m : Nat) (A1 A2 A3 : Option Addr) (n1 c1 n2 c2 n3 c3 : Nat) (x1 x2 x3 : List Int) (w : World) (h1 : SI w A1 n1 x1) (h2 : SI w A2 n2 x2) (h3 : SI w A3 n3 x3) (hm : 1 ≤ m ∧ m ≤ 7) (hl : n1 = tri m ∧ n2 = tri m ∧ n3 = tri m) (hc3 : n3 ≤ c3) :
    Calls Try.prog 89 #[.agg #[.int .i64 m, .slice A1 n1 c1, .slice A2 n2 c2, .slice A3 n3 c3]] w fun e w' => FreshSd w w' e (sdA m x1) (sdB m x2) (sdC m x3) := by
  obtain ⟨w1, hw1⟩ : ∃ w1, w1 = w.alloc (.cells #[.int .i64 m, .slice A1 n1 c1, .slice A2 n2 c2, .slice A3 n3 c3] 47) := ⟨_, rfl⟩
  obtain ⟨g, hg⟩ : ∃ g, g = w.heap.size := ⟨_, rfl⟩
  have hk : Blk w1 g 47 #[.int .i64 m, .slice A1 n1 c1, .slice A2 n2 c2, .slice A3 n3 c3] := by rw [hw1, hg]; exact Blk.new _ _ _
  have hb : Below w.heap.size w w1 := by rw [hw1]; exact Below.alloc_self _ _
  have HB1 := Lib.hid hb
  have HW := Lib.hid hw1
  have HG := Lib.hid hg
  have HK1 := Lib.hid hk
  have HS := Lib.hid (And.intro (h1.below hb (Nat.le_refl _)) (And.intro (h2.below hb (Nat.le_refl _)) (h3.below hb (Nat.le_refl _))))
  obtain ⟨q0, q1, q2, q3⟩ := cells4 hk
  have HLL := Lib.hid hl
  have HM := Lib.hid hm
  have HC3 := Lib.hid hc3
  have HSZ : Hid (w1.heap.size = g + 1) := Lib.hid (by rw [hw1, hg]; simp)
  have hm7 : m ≤ 7 := hm.2
  clear hw1 hg hk hl hm h1 h2 h3 hb hc3
  go_enter Try.func89, Try.ntmps89
  go_upto_region 1 with fail
  rw [← HW.out, ← HG.out]
  go_upto_region 2 with fail
  clear q0 q1 q2 q3
  go_region_held3 (fun w' => w1.heap.size ≤ w'.heap.size)
    (first | (exact Nat.le_refl _) | (show w1.heap.size ≤ w1.drew.heap.size; exact Nat.le_refl _) | exact K4 | exact K5)
    (first
      | (show Oper.upon _ { dst := some 12, op := _, type := _, pos := _, after := _, guard := _ } _ _ _ _
         obtain ⟨gl, wz, hgl, hrun, ho, hb, hlt⟩ := run_mk m wy (by omega)
         rw [hrun]
         simp only [Result.andThen, Oper.upon_value, Oper.upon_skip]
         have HF : Hid (Own wz gl (gl + 1) (some ⟨gl, 0, none⟩) m m (List.replicate m 0) ∧ Own wz gr (gr + 1) (some ⟨gr, 0, none⟩) m m (List.replicate m 0) ∧ (g + 1 ≤ gl ∧ g + 1 ≤ gr ∧ gl ≠ gr ∧ gl < wz.heap.size ∧ gr < wz.heap.size) ∧ Below (g + 1) w1 wz) := Lib.hid ⟨ho, HR1.out.1.grown hb (fun _ e => by cases e), by have := HR1.out.2.1; have := HR1.out.2.2.2; have := HSZ.out; have := hb.size; omega, (HR1.out.2.2.1.mono (by have := HSZ.out; omega)).grown hb (by have := HR1.out.2.2.1.size; have := HSZ.out; omega) (fun _ e => by cases e)⟩
         have K5 : w1.heap.size ≤ wz.heap.size := by have := HF.out.2.2.2.size; omega
         clear hgl ho hb hlt hrun)
      | (show Oper.upon _ { dst := some 14, op := _, type := _, pos := _, after := _, guard := _ } _ _ _ _
         obtain ⟨gr, wz, hgr, hrun, ho, hb, hlt⟩ := run_mk m wy (by omega)
         rw [hrun]
         simp only [Result.andThen, Oper.upon_value, Oper.upon_skip]
         have HF : Hid (Own wz gl (gl + 1) (some ⟨gl, 0, none⟩) m m (List.replicate m 0) ∧ Own wz gr (gr + 1) (some ⟨gr, 0, none⟩) m m (List.replicate m 0) ∧ (g + 1 ≤ gl ∧ g + 1 ≤ gr ∧ gl ≠ gr ∧ gl < wz.heap.size ∧ gr < wz.heap.size) ∧ Below (g + 1) w1 wz) := Lib.hid ⟨HL1.out.1.grown hb (fun _ e => by cases e), ho, by have := HL1.out.2.1; have := HL1.out.2.2.2; have := HSZ.out; have := hb.size; omega, (HL1.out.2.2.1.mono (by have := HSZ.out; omega)).grown hb (by have := HL1.out.2.2.1.size; have := HSZ.out; omega) (fun _ e => by cases e)⟩
         have K5 : w1.heap.size ≤ wz.heap.size := by have := HF.out.2.2.2.size; omega
         clear hgr ho hb hlt hrun)
      | (show Oper.upon _ { dst := some 12, op := _, type := _, pos := _, after := _, guard := _ } _ _ _ _
         obtain ⟨gl, wy, hgl, hrun, ho, hb, hlt⟩ := run_mk m w1.drew (by omega)
         rw [hrun]
         simp only [Result.andThen, Oper.upon_value, Oper.upon_skip]
         have HL1 : Hid (Own wy gl (gl + 1) (some ⟨gl, 0, none⟩) m m (List.replicate m 0) ∧ w1.heap.size ≤ gl ∧ Below w1.heap.size w1 wy ∧ gl < wy.heap.size) := Lib.hid ⟨ho, by rw [hgl]; exact Nat.le_refl _, ((Below.refl _ _).drew).grown hb (Nat.le_refl _) (fun _ e => by cases e), hlt⟩
         have K4 : w1.heap.size ≤ wy.heap.size := HL1.out.2.2.1.size
         clear hgl ho hb hlt hrun)
      | (show Oper.upon _ { dst := some 14, op := _, type := _, pos := _, after := _, guard := _ } _ _ _ _
         obtain ⟨gr, wy, hgr, hrun, ho, hb, hlt⟩ := run_mk m w1.drew (by omega)
         rw [hrun]
         simp only [Result.andThen, Oper.upon_value, Oper.upon_skip]
         have HR1 : Hid (Own wy gr (gr + 1) (some ⟨gr, 0, none⟩) m m (List.replicate m 0) ∧ w1.heap.size ≤ gr ∧ Below w1.heap.size w1 wy ∧ gr < wy.heap.size) := Lib.hid ⟨ho, by rw [hgr]; exact Nat.le_refl _, ((Below.refl _ _).drew).grown hb (Nat.le_refl _) (fun _ e => by cases e), hlt⟩
         have K4 : w1.heap.size ≤ wy.heap.size := HR1.out.2.2.1.size
         clear hgr ho hb hlt hrun)
      | fail)
  all_goals
  (clear K4 K5
   go_wp2_with fail
   go_loopw [16] (fun iv wr => ∃ i : Nat, i ≤ m ∧ iv = .int .i64 i ∧ Own wr gl (gl + 1) (some ⟨gl, 0, none⟩) m m (lfL m x1 i) ∧ Own wr gr (gr + 1) (some ⟨gr, 0, none⟩) m m (rgL m x2 i) ∧ Below (g + 1) w1 wr)
     (fun iv _ => m - (intOf iv).toNat)
   case atStart => exact ⟨0, Nat.zero_le _, rfl, by rw [lfL_zero]; exact HF.out.1, by rw [rgL_zero]; exact HF.out.2.1, HF.out.2.2.2⟩
   case round =>
     obtain ⟨i, hi, rfl, hol, hor, hbw⟩ := hrel
     have HOL := Lib.hid hol
     have HOR := Lib.hid hor
     have HB := Lib.hid hbw
     have HX := Lib.hid (HF.out.2.2.1)
     clear hol hor hbw
     have HK := Lib.hid (HK1.out.below HB.out (by omega))
     have HSI := Lib.hid (And.intro (HS.out.1.below HB.out (by have := HSZ.out; omega)) (And.intro (HS.out.2.1.below HB.out (by have := HSZ.out; omega)) (HS.out.2.2.below HB.out (by have := HSZ.out; omega))))
     obtain ⟨q0, q1, q2, q3⟩ := cells4 HK.out
     by_cases hlt : i < m
     case neg =>
       have him : i = m := by omega
       subst him
       clear q0 q1 q2
       have hm1 : 1 ≤ i := HM.out.1
       obtain ⟨j, hj⟩ : ∃ j, j = i - 1 := ⟨_, rfl⟩
       have w1i : IntKind.i64.wrap ((i : Int) - 1) = (i : Int) - 1 := IntWalk.i64_in _ (by omega)
       have HPL := Lib.hid (fun w => smallPlace_at (i := (i : Int) - 1) (j := 0) j 0 (tri j) (by omega) rfl rfl w (by omega) (by omega))
       obtain ⟨T, hT⟩ : ∃ T, T = tri j := ⟨_, rfl⟩
       have hTn : T + i = n3 := by
         have h5 := HLL.out.2.2
         have h6 := tri_succ j
         rw [show j + 1 = i by omega] at h6
         omega
       rw [← hT] at HPL
       have HC : Hid ((x3.drop T) = sdC i x3) := Lib.hid (by
         have h5 := HSI.out.2.2.1
         refine list_ext_nth (by rw [List.length_drop, sdC_len]; omega) fun k hk => ?_
         have hk' : k < i := by rw [List.length_drop] at hk; omega
         rw [sdC_nth hk', ← hj, ← hT, nth_drop])
       have HSD := Lib.hid (HSI.out.2.2.drop (k := T) (by omega))
       have HTN := Lib.hid hTn
       have hTI : (T : Int) ≤ (n3 : Int) := by omega
       have hcT : ¬ c3 = T := by have := HC3.out; omega
       have hcI : (T : Int) ≤ (c3 : Int) := by have := HC3.out; omega
       obtain ⟨b3, o3, rfl, _, _⟩ := HSI.out.2.2.at_ (by omega)
       have HCL := Lib.hid (fun w' (hb' : Below wr.heap.size wr w') c' => clone_any (some ⟨b3, o3 + T, none⟩) (n3 - T) c' (x3.drop T) w' ((HSD.out b3 o3 rfl).below hb' (Nat.le_refl _)) (fun h => by cases h) (by have := HTN.out; omega))
       have hqd : wr.drew.cell? ⟨g, 3, none⟩ = some (.slice (some ⟨b3, o3, none⟩) n3 c3) := q3
       have HGW : Hid (g < wr.heap.size ∧ gl < wr.heap.size ∧ gr < wr.heap.size) := Lib.hid ⟨by have := HB.out.size; have := HSZ.out; omega, (HOL.out.1.lt gl rfl).2, (HOR.out.1.lt gr rfl).2⟩
       have HQD := Lib.hid (And.intro q3 hqd)
       clear hj hT hTn q3 hqd
       go_wp2_with fail
       go_region_held3 (fun w' => w'.cell? ⟨g, 3, none⟩ = some (.slice (some ⟨b3, o3, none⟩) n3 c3))
         (first | exact HQD.out.1 | exact HQD.out.2 | exact K5)
         (first
           | (go_at_call 121; with_reducible refine (HPL.out _).mono ?_; rintro e w3 ⟨rfl, rfl⟩)
           | (go_at_call 109
              with_reducible refine (HCL.out _ ((Below.refl _ _).drew) _).mono ?_
              rintro e w4 ⟨A4, n4, c4, rfl, ho4, hb4⟩
              have hb4' : Below wr.heap.size wr w4 := ((Below.refl _ _).drew).trans hb4
              have K5 : w4.cell? ⟨g, 3, none⟩ = some (.slice (some ⟨b3, o3, none⟩) n3 c3) := (hb4'.cell (p := ⟨g, 3, none⟩) HGW.out.1).trans HQD.out.1
              have HO4 : Hid (Own w4 wr.heap.size w4.heap.size A4 n4 c4 (sdC i x3)) := Lib.hid (by rw [← HC.out]; exact ho4)
              have HB4 := Lib.hid hb4'
              clear ho4 hb4 hb4'))
       go_wp2
       go_returns
       have l1 := HX.out
       have l2 := HGW.out
       have l3 := HG.out
       refine ⟨gl, gr, A4, n4, c4, i, rfl, l1.2.2.1, by omega, by omega, ?_, ?_, ⟨wr.heap.size, l2.2.1, l2.2.2, HO4.out⟩, (HB1.out.trans (HB.out.mono (by omega))).trans (HB4.out.mono (by have := HB.out.size; have := HSZ.out; omega))⟩
       · rw [← lfL_all]; exact HOL.out.below HB4.out (by omega)
       · rw [← rgL_all]; exact HOR.out.below HB4.out (by omega)
     case pos =>
       have hltI : (i : Int) < (m : Int) := by omega
       obtain ⟨t, ht⟩ : ∃ t, t = m - 1 - i := ⟨_, rfl⟩
       have hti : (m : Int) - 1 - (i : Int) = (t : Int) := by omega
       have wm1 : IntKind.i64.wrap ((m : Int) - 1) = (m : Int) - 1 := IntWalk.i64_in _ (by omega)
       have wmi : IntKind.i64.wrap ((m : Int) - 1 - (i : Int)) = (t : Int) := by rw [hti]; exact IntWalk.i64_in _ (by omega)
       obtain ⟨a, ha⟩ : ∃ a, a = tri i := ⟨_, rfl⟩
       obtain ⟨d, hd⟩ : ∃ d, d = tri i + i := ⟨_, rfl⟩
       have HP1 := Lib.hid (fun w => smallPlace_st (i := (i : Int)) (j := 0) i 0 a rfl rfl ha w (by omega) (by omega))
       have HP2 := Lib.hid (fun w => smallPlace_st (i := (i : Int)) (j := (i : Int)) i i d rfl rfl hd w (by omega) (by omega))
       have had : a < n1 ∧ d < n2 := by
         have h5 := HLL.out
         have h6 := tri_lt (a := i) (b := m) (k := i) hlt (Nat.le_refl _)
         omega
       obtain ⟨b1, o1, rfl, _, hc1⟩ := HSI.out.1.at_ (by omega)
       obtain ⟨b2, o2, rfl, _, hc2⟩ := HSI.out.2.1.at_ (by omega)
       have HOLD : Hid (b2 < w1.heap.size ∧ b2 ≠ gl) := Lib.hid (by
         obtain ⟨b', o', e, hb', _⟩ := HS.out.2.1.at_ (by omega)
         injection e with e; injection e with e1 e2
         have := HX.out; have := HSZ.out
         omega)
       have hd1 := hc1 a had.1
       obtain ⟨u, hu⟩ : ∃ u, u = nth x1 a := ⟨_, rfl⟩
       obtain ⟨v, hv⟩ : ∃ v, v = nth x2 d := ⟨_, rfl⟩
       rw [← hu] at hd1
       have HC2 : Hid (∀ wv : World, Drawn wr wv → wv.cell? ⟨b2, o2 + d, none⟩ = some (.int .i64 v)) := Lib.hid (fun wv h => by obtain ⟨z, rfl⟩ := h; rw [hv]; exact hc2 d had.2)
       have i1 : (a : Int) < (n1 : Int) := by omega
       have i2 : (d : Int) < (n2 : Int) := by omega
       have htm : t < m := by omega
       have htI : (t : Int) < (m : Int) := by omega
       have hcl := HOL.out.cellAt (k := t) htm
       have hfl := HOL.out.frozenAt t
       have HSL : Hid (∀ wv : World, Drawn wr wv → Own (wv.setCell ⟨gl, t, none⟩ (.int .i64 u)) gl (gl + 1) (some ⟨gl, 0, none⟩) m m (lfL m x1 (i + 1))) := Lib.hid (fun wv h => by
         have h5 := ((HOL.out.drawn h).set_ (k := t) u).1
         rw [ht, hu, ha, lfL_set hlt] at h5
         rw [ht, hu, ha]; exact h5)
       have HSR : Hid (∀ wv : World, Own wv gr (gr + 1) (some ⟨gr, 0, none⟩) m m (rgL m x2 i) → Own (wv.setCell ⟨gr, i, none⟩ (.int .i64 v)) gr (gr + 1) (some ⟨gr, 0, none⟩) m m (rgL m x2 (i + 1))) := Lib.hid (fun wv h => by
         have h5 := (h.set_ (k := i) v).1
         rw [hv, hd, rgL_set hlt] at h5
         rw [hv, hd]; exact h5)
       clear hc1 hc2 ht hti ha hd had hu hv
       go_upto_region 6 with fail
       refine wp_region_still_tail 12 (by kernel_rfl) (by kernel_rfl) ?_
       simp only [List.take_succ_cons, List.take_zero, List.drop_succ_cons, List.drop_zero]
       repeat (first | still_step | still_call (HP1.out _))
       refine wpStill_nil ?_
       change wpList _ _ _ _ _ wr.drew
       go_upto_region 7 with fail
       obtain ⟨ws, hws⟩ : ∃ ws, ws = (wr.setCell ⟨gl, t, none⟩ (.int .i64 u)).drew := ⟨_, rfl⟩
       rw [← hws]
       have HOL2 : Hid (Own ws gl (gl + 1) (some ⟨gl, 0, none⟩) m m (lfL m x1 (i + 1))) := Lib.hid (by rw [hws]; exact (HSL.out _ (Drawn.refl _)).drawn ⟨1, rfl⟩)
       have hgs : wr.grownBy ws (some gl) := by rw [hws]; exact grown_setD _ _ _
       have HOR2 : Hid (Own ws gr (gr + 1) (some ⟨gr, 0, none⟩) m m (rgL m x2 i)) := Lib.hid (HOR.out.grown hgs (fun q e => by injection e with e; have := HX.out; omega))
       have HB2 : Hid (Below (g + 1) w1 ws) := Lib.hid (by rw [hws]; exact (HB.out.setCell (by have := HX.out; show g + 1 ≤ gl; omega) _).drew)
       have hk2 : Blk ws g 47 #[.int .i64 m, .slice (some ⟨b1, o1, none⟩) n1 c1, .slice (some ⟨b2, o2, none⟩) n2 c2, .slice A3 n3 c3] := by rw [hws]; exact (Blk.far HK.out (by have := HX.out; show g ≠ gl; omega) _).drawn ⟨1, rfl⟩
       have hcx : ws.cell? ⟨b2, o2 + d, none⟩ = some (.int .i64 v) := hgs.cell (HC2.out wr (Drawn.refl _)) (fun e => by injection e with e; exact HOLD.out.2 e)
       clear q0 q1 q2 q3 hd1 hcl hfl hws
       obtain ⟨q0, q1, q2, q3⟩ := cells4 hk2
       have hcr := HOR2.out.cellAt (k := i) hlt
       have hfr := HOR2.out.frozenAt i
       have HGS := Lib.hid hgs
       clear hk2 hgs
       refine wp_region_still_tail 10 (by kernel_rfl) (by kernel_rfl) ?_
       simp only [List.take_succ_cons, List.take_zero, List.drop_succ_cons, List.drop_zero]
       repeat (first | still_step | still_call (HP2.out _))
       refine wpStill_nil ?_
       change wpList _ _ _ _ _ ws.drew
       go_wp2
       go_roundw
       case rel => exact ⟨i + 1, by omega, by go_num, HOL2.out.grown (grown_setD ws ⟨gr, i, none⟩ _) (fun q e => by injection e with e; have := HX.out; simp at e; omega), (HSR.out ws HOR2.out).drawn ⟨1, rfl⟩, (HB2.out.setCell (by have := HX.out; show g + 1 ≤ gr; omega) _).drew⟩
       case measure => simp [intOf]; omega)
end Go.Proofs.Ytdkcngilmdpbgaa
