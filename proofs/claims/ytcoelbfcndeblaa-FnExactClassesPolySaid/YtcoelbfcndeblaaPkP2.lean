/-
  Texts GatS to SumE, merged. Conditions: as each says.
-/
import Derived.Deep.CutRange
import Derived.StillTailTactics
import Derived.Sort.Grow
import Derived.Deep.MidRow
import Derived.Laws.BitsLemmas
import Derived.Deep.RegionHeld3
import Derived.Laws.CopyOwn
import Derived.Deep.AppendLies
import Derived.Maps.RangeWalk
import Derived.DeepKeys4
import Derived.Deep.Cut
import Derived.Test.YtcoelbfcndeblaaPkP1
/-
  The document's gathering of terms: sorted by merging, what is alike added up, what is 0 left out. Conditions: lengths below 2^40.
-/




namespace Go.Proofs.Ytcoelbfcndeblaa
open Go.RowKit

/-- 'make([]l2Mon, 0, n)'. -/
theorem wpList_makeM {ops : Array Oper} {rest : List Oper} {o : Oper} {a : Act} {w : World} {Q : Exit → Act → World → Prop} (hgd : o.guard = none) (l c : Operand) (ho : o.op = .makeSlice 88 l c)
    (n : Nat) (hl : a.eval l = .int .i64 0) (hc : a.eval c = .int .i64 n) (hn : n ≤ 1099511627776)
    (hK : ∀ w', OwnM w' w.heap.size w'.heap.size (some ⟨w.heap.size, 0, none⟩) 0 n [] → Below w.heap.size w w' → wpList Try.prog ops Q rest (a.put o.dst (.slice (some ⟨w.heap.size, 0, none⟩) 0 n)) w') :
    wpList Try.prog ops Q (o :: rest) a w := by
  obtain ⟨i0, hi, hz0, hz1, hz2⟩ := info_parts Try.infoMonZ
  refine wpList_make_own w hgd l c 88 ho w.heap.size 163 i0 (.agg #[.int .i64 0, .int .i64 0]) 2 Try.underlying88 hi hz0 hz1 .i64 .i64 n n hl hc rfl (by rw [hz2]; omega) (by unfold maxLen; omega) (Nat.le_refl _) ?_
  intro w1 ho1 hg1
  exact hK w1 ⟨rfl, ho1, fun k hk => (ho1.lt k hk).2⟩ (grow_below hg1 (Nat.le_refl _) (by intro k hk; cases hk))
theorem cells2_one {n : Nat} {cs : List Ce} : ∀ u ∈ cells2 n (cv cs), u.oneCell' = true := by
  intro u hu
  unfold cells2 at hu
  obtain ⟨j, _, rfl⟩ := List.mem_map.1 hu
  split <;> rfl
set_option maxRecDepth 100000 in
/-- 'append([]l2Mon{}, l...)'. -/
theorem wpList_cloneM {ops : Array Oper} {rest : List Oper} {o : Oper} {a : Act} {w : World} {Q : Exit → Act → World → Prop} (hgd : o.guard = none) (s x : Operand)
    (ho : o.op = .call { callee := .builtin .append, args := #[s, x], argTypes := #[88, 88] })
    (lo : Nat) (A : Option Addr) (c : Nat) (A2 : Option Addr) (m c2 : Nat) (ys : List Ce) (hs : a.eval s = .slice A 0 c) (hx : a.eval x = .slice A2 m c2)
    (hown : OwnM w lo w.heap.size A 0 c []) (hsi : MS w A2 m ys) (hlo : lo ≤ w.heap.size) (hm : m ≤ 1099511627776)
    (hK : ∀ A' c' w', OwnM w' lo w'.heap.size A' m c' ys → Below lo w w' → wpList Try.prog ops Q rest (a.put o.dst (.slice A' m c')) w') :
    wpList Try.prog ops Q (o :: rest) a w := by
  obtain ⟨i0, hi, hz0, hz1, hz2⟩ := info_parts Try.infoMonZ
  by_cases h0 : 0 < m
  · obtain ⟨b, off, rfl, hb, hc⟩ := hsi.2 h0
    refine Go.wpList_append_own_at _ hgd s x 88 ho lo 163 i0 (.agg #[.int .i64 0, .int .i64 0]) 2 16 Try.underlying88 hi hz0 hz1 hz2 rfl (by decide) _ 0 _ hs hown.2.1 ⟨b, off, none⟩ m c2 (cells2 m (cv ys)) hx (cells2_len _ _) ?_ cells2_one (by unfold maxLen; omega) (by omega) hlo ?_
    · intro j u hj
      have hjl : j < m * 2 := by
        rcases Nat.lt_or_ge j (m * 2) with h | h
        · exact h
        · rw [List.getElem?_eq_none (by rw [cells2_len]; exact h)] at hj; cases hj
      rw [cells2_get _ hjl] at hj
      rw [add_pt]
      have h1 := hc (j / 2) (by omega)
      rcases Nat.mod_two_eq_zero_or_one j with e | e
      · rw [if_pos e] at hj
        rw [show off + j = off + j / 2 * 2 by omega, h1.1]; exact hj
      · rw [if_neg (by omega)] at hj
        rw [show off + j = off + j / 2 * 2 + 1 by omega, h1.2]; exact hj
    · intro v' w1 ho1 hg1 _ hat
      rw [Nat.zero_add] at ho1
      obtain ⟨g, cap, rfl, _, _⟩ := ho1.form h0
      exact hK _ _ w1 ⟨hsi.1, rowm_eq ho1 (by rw [show cells2 0 (cv []) = [] from rfl, List.nil_append]), fun k hk => (ho1.lt k hk).2⟩ (grow_below hg1 hlo (fun k hk => (hown.2.1.lt k hk).1))
  · have hm0 : m = 0 := by omega
    subst hm0
    have hy : ys = [] := List.eq_nil_of_length_eq_zero hsi.1
    subst hy
    have hk0 := hK A c w hown (Below.refl _ _)
    refine wpList_plain hgd fun K hK' => ?_
    have hrun : (Builtin.append_ #[88, 88] o.type #[.slice A 0 c, .slice A2 0 c2]).run Try.prog w = .ok (.slice A 0 c) w := by
      have hg := hown.2.1
      have hl0 : ∀ v, (loadCells v 0).run Try.prog w = .ok #[] w := fun v => by simp [loadCells, loadCellsFrom]
      rcases hg.2 with ⟨e, h0⟩ | ⟨g, cap, cur, e, _, hgg, hnc, _⟩
      · injection e with e1 e2 e3
        subst e1; subst e3
        cases A2 <;> simp [Builtin.append_, run_underlying Try.underlying88, sizeOf, typeInfo, hi, Builtin.lenOf, Builtin.firstCells, hl0]
      · injection e with e1 e2 e3
        subst e1; subst e3
        cases A2 <;> simp [Builtin.append_, run_underlying Try.underlying88, sizeOf, typeInfo, hi, Builtin.lenOf, Builtin.firstCells, storeCells, hl0]
    unfold Oper.wp
    simp [execOp, ho, resolve, invoke, builtin, hs, hx, hrun, Result.andThen]
    exact hK' _ _ hk0

def leM (a b : Mn) : Bool := decide (b.1 ≤ a.1)
theorem leM_trans (a b c : Mn) (h : leM a b = true) (h' : leM b c = true) : leM a c = true := by simp [leM] at *; omega
theorem leM_total (a b : Mn) : (leM a b || leM b a) = true := by simp [leM]; omega

/-- Where a merge stands: what is done, and what is still to be merged. -/
def mrg (cur : List Mn) (a mid en : Nat) (nxt nx : List Mn) (ii jj : Nat) : Prop := ∃ done, nx = nxt ++ done ∧ done ++ List.merge (seg cur ii mid) (seg cur jj en) leM = List.merge (seg cur a mid) (seg cur mid en) leM
theorem mrg_start (cur : List Mn) (a mid en : Nat) (nxt : List Mn) : mrg cur a mid en nxt nxt a mid := ⟨[], by simp, rfl⟩
theorem seg_ce {cur : List Mn} {i j : Nat} (h : i < j) (hj : j ≤ cur.length) : seg cur i j = ce cur i :: seg cur (i + 1) j := by
  obtain ⟨x, h1, h2⟩ := seg_cons h hj
  rw [h2]
  unfold ce
  rw [List.getD_eq_getElem?_getD, h1]; rfl
theorem mrg_left {cur : List Mn} {a mid en : Nat} {nxt nx : List Mn} {ii jj : Nat} (h : mrg cur a mid en nxt nx ii jj) (h1 : ii < mid) (h2 : mid ≤ cur.length) (h3 : en ≤ cur.length) (hx : en ≤ jj ∨ leM (ce cur ii) (ce cur jj) = true) : mrg cur a mid en nxt (nx ++ [ce cur ii]) (ii + 1) jj := by
  obtain ⟨done, e1, e2⟩ := h
  refine ⟨done ++ [ce cur ii], by rw [e1, List.append_assoc], ?_⟩
  rw [← e2, List.append_assoc, seg_ce h1 h2]
  congr 1
  rcases Nat.lt_or_ge jj en with hj | hj
  · rw [seg_ce hj h3, List.cons_merge_cons]
    rw [if_pos (by rcases hx with h | h; · omega
                   · exact h)]
    rfl
  · rw [seg_nil hj, List.merge_right, List.merge_right]; rfl
theorem mrg_right {cur : List Mn} {a mid en : Nat} {nxt nx : List Mn} {ii jj : Nat} (h : mrg cur a mid en nxt nx ii jj) (h1 : jj < en) (h2 : mid ≤ cur.length) (h3 : en ≤ cur.length) (hx : mid ≤ ii ∨ leM (ce cur ii) (ce cur jj) = false) : mrg cur a mid en nxt (nx ++ [ce cur jj]) ii (jj + 1) := by
  obtain ⟨done, e1, e2⟩ := h
  refine ⟨done ++ [ce cur jj], by rw [e1, List.append_assoc], ?_⟩
  rw [← e2, List.append_assoc, seg_ce h1 h3]
  congr 1
  rcases Nat.lt_or_ge ii mid with hj | hj
  · rw [seg_ce hj h2, List.cons_merge_cons]
    rw [if_neg (by rcases hx with h | h; · omega
                   · rw [h]; simp)]
    rfl
  · rw [seg_nil hj, List.nil_merge, List.nil_merge]; rfl
theorem mrg_end {cur : List Mn} {a mid en : Nat} {nxt nx : List Mn} {ii jj : Nat} (h : mrg cur a mid en nxt nx ii jj) (h1 : mid ≤ ii) (h2 : en ≤ jj) : nx = nxt ++ List.merge (seg cur a mid) (seg cur mid en) leM := by
  obtain ⟨done, e1, e2⟩ := h
  rw [seg_nil h1, seg_nil h2, List.nil_merge, List.append_nil] at e2
  rw [e1, e2]

theorem last_ce {acc : List Mn} {m : Nat} (h : acc.length = m + 1) : acc.getLastD (0, 0) = ce acc m := by
  rcases List.eq_nil_or_concat acc with e | ⟨L, u, e⟩
  · subst e; simp at h
  · rw [List.concat_eq_append] at e
    subst e
    simp at h
    unfold ce
    simp [List.getD, h]
theorem sumStep_eq {acc : List Mn} {t : Mn} {m : Nat} (h : acc.length = m + 1) (hk : (ce acc m).1 = t.1) : sumStep acc t = acc.set m ((ce acc m).1, w64 ((ce acc m).2 + t.2)) := by
  unfold sumStep
  have hl := last_ce h
  rw [if_pos ⟨fun e => by rw [e] at h; simp at h, by rw [hl]; exact hk⟩, hl, ← hk]
  rcases List.eq_nil_or_concat acc with e | ⟨L, u, e⟩
  · subst e; simp at h
  · rw [List.concat_eq_append] at e
    subst e
    simp at h
    rw [List.set_append_right _ _ (by omega), h]
    simp
theorem sumStep_ne {acc : List Mn} {t : Mn} {m : Nat} (h : acc.length = m + 1) (hk : (ce acc m).1 ≠ t.1) : sumStep acc t = acc ++ [t] := by
  unfold sumStep
  rw [if_neg (fun e => hk (by rw [← last_ce h]; exact e.2))]
theorem sumStep_nil {t : Mn} : sumStep [] t = [t] := by
  unfold sumStep
  rw [if_neg (fun e => e.1 rfl)]; rfl
theorem sums_next {cur : List Mn} {k : Nat} (h : k < cur.length) : (cur.take (k + 1)).foldl sumStep [] = sumStep ((cur.take k).foldl sumStep []) (ce cur k) := by
  rw [List.take_succ_eq_append_getElem h, List.foldl_append, ce_get h]; rfl
theorem sumStep_len (acc : List Mn) (t : Mn) : (sumStep acc t).length ≤ acc.length + 1 := by
  unfold sumStep
  split
  · simp
  · simp
theorem sums_len : ∀ (l acc : List Mn), (l.foldl sumStep acc).length ≤ acc.length + l.length
  | [], acc => by simp
  | t :: l, acc => by
    rw [List.foldl_cons]
    have := sums_len l (sumStep acc t)
    have := sumStep_len acc t
    simp; omega
theorem wrap_w64 (x : Int) : IntKind.i64.wrap x = w64 x := by
  unfold w64
  rw [Int.bmod_def]
  simp [IntKind.wrap, IntKind.bits, IntKind.signed]
  split <;> split <;> omega
theorem left_next {acc : List Mn} {k : Nat} (h : k < acc.length) : leftL (acc.take (k + 1)) = if (ce acc k).2 = 0 then leftL (acc.take k) else leftL (acc.take k) ++ [ce acc k] := by
  rw [List.take_succ_eq_append_getElem h, ← ce_get h]
  unfold leftL
  rw [List.filter_append]
  split
  · rename_i h0
    simp [h0]
  · rename_i h0
    simp [h0]
theorem left_len (l : List Mn) : (leftL l).length ≤ l.length := List.length_filter_le _ _

theorem mrg_len {cur : List Mn} {a mid en : Nat} {nxt nx : List Mn} {ii jj : Nat} (h : mrg cur a mid en nxt nx ii jj) : nx.length ≤ nxt.length + 2 * cur.length := by
  obtain ⟨done, e1, e2⟩ := h
  have := congrArg List.length e2
  simp only [List.length_append, List.length_merge, seg_len] at this
  rw [e1, List.length_append]
  omega

set_option maxRecDepth 100000 in
set_option maxHeartbeats 4000000 in
theorem specGather_any (A : Option Addr) (n c : Nat) (l : List Mn) (w : World) (hs : MS w A n l) (hn : n ≤ 1000000000) (h64 : ∀ t ∈ l, in64 t.2) :
    Calls Try.prog 158 #[.slice A n c] w fun e w' => FreshM w w' e (gatherL l) := by
  have HL := Lib.hid hs.1
  have H64 := Lib.hid h64
  clear h64
  go_enter Try.func158, Try.ntmps158
  obtain ⟨B, hB⟩ : ∃ B, B = w.heap.size := ⟨_, rfl⟩
  have HB0 : Hid (B = w.heap.size) := Lib.hid hB
  go_wp2_with (refine wpList_cloneM rfl (.tmp 15) (.tmp 16) rfl w.heap.size (some ⟨w.heap.size, 0, none⟩) 0 A n c l rfl rfl (by simpa using OwnM.empty w) (hs.below ((Below.refl w.heap.size w).alloc (Nat.le_refl _) _) (Nat.le_refl _)) (by simp) (by omega) ?_; intro A1 c1 w1 ho1 hb1)
  rw [← hB] at ho1 hb1 ⊢
  have hb1' : Below B w w1 := ((Below.refl w.heap.size w).alloc (Nat.le_refl _) _ |>.mono (by rw [hB]; exact Nat.le_refl _)).trans hb1
  clear hb1 hs hB
  go_loopw [3, 4] (fun o s wr => ∃ A' c' cur sz, o = .slice A' n c' ∧ s = .int .i64 (sz : Nat) ∧ 1 ≤ sz ∧ sz ≤ 2 * n + 2 ∧ List.Perm cur l ∧ runs leM sz cur ∧ OwnM wr B wr.heap.size A' n c' cur ∧ Below B w wr)
    (fun _ s _ => 2 * n + 2 - (intOf s).toNat)
  case atStart => exact ⟨A1, c1, l, 1, rfl, rfl, by omega, by omega, List.Perm.refl _, runs_one _ _, ho1, hb1'⟩
  case round =>
    obtain ⟨A2, c2, cur, sz, rfl, rfl, h1, h2, hperm, hruns, hown, hbel⟩ := hrel
    clear ho1 hb1'
    have HP := Lib.hid hperm
    have HR := Lib.hid hruns
    have HO := Lib.hid hown
    have HB := Lib.hid hbel
    have HCL : Hid (cur.length = n) := Lib.hid (by rw [hperm.length_eq]; exact HL.out)
    clear hperm hruns hown hbel
    by_cases hlt : sz < n
    · have hltI : (sz : Int) < (n : Int) := by omega
      go_wp2_with (at_make; refine wpList_makeM rfl (.const (.int .i64 0)) (.tmp 25) rfl n rfl rfl (by omega) ?_; intro w2 ho2 hb2; have HO2 := Lib.hid ho2; have HB2 := Lib.hid hb2; clear ho2 hb2)
      obtain ⟨B2, hB2⟩ : ∃ B2, B2 = wr.heap.size := ⟨_, rfl⟩
      have HG0 : Hid (B2 = wr.heap.size) := Lib.hid hB2
      have hBB : B ≤ B2 := by rw [hB2, HB0.out]; exact HB0.out ▸ HB.out.size
      rw [← hB2] at HO2 HB2 HO ⊢
      have HOC := Lib.hid (HO.out.below HB2.out (Nat.le_refl _))
      have HBW := Lib.hid (HB.out.trans (HB2.out.mono hBB))
      have HZ2 : Hid (B2 ≤ w2.heap.size) := Lib.hid (by have := HB2.out.size; rw [← HG0.out] at this; exact this)
      clear hB2 HO HB HB2
      go_loopw [5, 6] (fun nx at_ wx => ∃ A3 c3 m nxt p a, nx = .slice A3 m c3 ∧ at_ = .int .i64 (a : Nat) ∧ a = p * (2 * sz) ∧ a ≤ n + 2 * sz ∧ passed leM sz p cur nxt ∧ OwnM wx B2 wx.heap.size A3 m c3 nxt ∧ OwnM wx B B2 A2 n c2 cur ∧ Below B w wx ∧ B2 ≤ wx.heap.size)
        (fun _ at_ _ => n - (intOf at_).toNat)
      case atStart => exact ⟨_, n, 0, [], 0, 0, rfl, rfl, by omega, by omega, passed_zero _ _ _, HO2.out, HOC.out, HBW.out, HZ2.out⟩
      case round =>
        obtain ⟨A3, c3, m, nxt, p, a, rfl, rfl, hap, han, hpas, hon, hoc, hbel, hsz3⟩ := hrel
        have HSZ3 := Lib.hid hsz3
        clear HO2 HOC HBW
        have HAP := Lib.hid hap
        have HPA := Lib.hid hpas
        have HON := Lib.hid hon
        have HOC := Lib.hid hoc
        have HBW := Lib.hid hbel
        have hml : m ≤ n := by
          have := hpas.1.length_eq
          rw [List.length_take, HCL.out] at this
          have := hon.len
          omega
        clear hap hpas hon hoc hbel hsz3 HZ2
        by_cases hal : a < n
        · have halI : (a : Int) < (n : Int) := by omega
          obtain ⟨mid, hmid⟩ : ∃ mid, mid = min (a + sz) n := ⟨_, rfl⟩
          obtain ⟨en, hen⟩ : ∃ en, en = min (a + 2 * sz) n := ⟨_, rfl⟩
          have HMID := Lib.hid hmid
          have HEN := Lib.hid hen
          clear hmid hen
          go_upto_region 10 with fail
          go_cut [8] from 27 to 96 (fun v wx => v = .int .i64 (mid : Int) ∧ wx = wr)
          case first =>
            go_wp2_with fail
            all_goals go_meet
            case rel => exact ⟨by have := HMID.out; congr 1; omega, rfl⟩
            case rel => exact ⟨by have := HMID.out; congr 1; omega, rfl⟩
          case rest =>
            obtain ⟨rfl, rfl⟩ := hcut
            go_upto_region 12 with fail
            go_cut [10] from 27 to 96 (fun v wx => v = .int .i64 (en : Int) ∧ wx = wc)
            case first =>
              go_wp2_with fail
              all_goals go_meet
              case rel => exact ⟨by have := HEN.out; congr 1; omega, rfl⟩
              case rel => exact ⟨by have := HEN.out; congr 1; omega, rfl⟩
            case rest =>
              obtain ⟨rfl, rfl⟩ := hcut
              have hmc : mid ≤ cur.length := by have := HMID.out; have := HCL.out; omega
              have hec : en ≤ cur.length := by have := HEN.out; have := HCL.out; omega
              have hme : mid ≤ en := by have := HEN.out; have := HMID.out; omega
              have ham : a ≤ mid := by have := HMID.out; omega
              have hnl : nxt.length ≤ n := by have := HON.out.len; omega
              go_wp2_with fail
              go_loopw [5, 7, 9] (fun nx i j wy => ∃ A4 c4 m' nx' ii jj, nx = .slice A4 m' c4 ∧ i = .int .i64 (ii : Nat) ∧ j = .int .i64 (jj : Nat) ∧ a ≤ ii ∧ ii ≤ mid ∧ mid ≤ jj ∧ jj ≤ en ∧ mrg cur a mid en nxt nx' ii jj ∧ OwnM wy B2 wy.heap.size A4 m' c4 nx' ∧ OwnM wy B B2 A2 n c2 cur ∧ Below B w wy ∧ B2 ≤ wy.heap.size)
                (fun _ i j _ => (mid - (intOf i).toNat) + (en - (intOf j).toNat))
              case atStart => exact ⟨A3, c3, m, nxt, a, mid, rfl, rfl, rfl, Nat.le_refl _, ham, Nat.le_refl _, hme, mrg_start _ _ _ _ _, HON.out, HOC.out, HBW.out, HSZ3.out⟩
              case round =>
                obtain ⟨A4, c4, m', nx', ii, jj, rfl, rfl, rfl, hi1, hi2, hj1, hj2, hmrg, hn4, hc4, hb4, hsz4⟩ := hrel
                clear HON HOC HBW HSZ3
                have HN4 := Lib.hid hn4
                have HC4 := Lib.hid hc4
                have HB4 := Lib.hid hb4
                have HMR := Lib.hid hmrg
                have hm4 : m' ≤ 1099511627776 := by have := mrg_len hmrg; have := hn4.len; have := HCL.out; omega
                clear hmrg hn4 hb4
                have HSZ := Lib.hid hsz4
                clear hsz4
                have hmn : mid ≤ n := by have := HMID.out; omega
                have hen' : en ≤ n := by have := HEN.out; omega
                by_cases hje : en ≤ jj
                · have hjI : ¬ (jj : Int) < (en : Int) := by omega
                  have hjG : (en : Int) ≤ (jj : Int) := by omega
                  by_cases hii : ii < mid
                  · have hiI : (ii : Int) < (mid : Int) := by omega
                    have hiN : (ii : Int) < (n : Int) := by omega
                    obtain ⟨b, o, rfl, hb, hi0, hi1'⟩ := hc4.si.at_ (k := ii) (by omega)
                    have HM := Lib.hid (mrg_left HMR.out hii hmc hec (.inl hje))
                    obtain ⟨p1, hp1⟩ : ∃ p1, p1 = (ce cur ii).1 := ⟨_, rfl⟩
                    obtain ⟨q1, hq1⟩ : ∃ q1, q1 = (ce cur ii).2 := ⟨_, rfl⟩
                    have HPQ : Hid (ce cur ii = (p1, q1)) := Lib.hid (by rw [hp1, hq1])
                    rw [← hp1] at hi0
                    rw [← hq1] at hi1'
                    have HRG : Hid (∀ q, (wr.drewN q).rangeAt b (o + ii * 2) [.int .i64 p1, .int .i64 q1]) := Lib.hid (fun q => MS.range hi0 hi1')
                    clear hp1 hq1 hb hc4
                    go_wp2_with fail
                    go_quiet (fail)
                    go_wp2_with (first
                      | (with_reducible refine wpList_load_mid rfl 163 (.tmp 82) rfl b (o + ii * 2) rfl [.int .i64 p1, .int .i64 q1] _ (HRG.out nq) Try.underlying163 rfl Try.infoMon ?_)
                      | (at_builtin; refine wpList_appendM rfl (.tmp 79) (.tmp 84) rfl B2 A4 m' c4 nx' p1 q1 rfl rfl (HN4.out.drawn ⟨nq, rfl⟩) HSZ.out hm4 ?_; intro A6 c6 w6 ho6 hb6 hg6 hn6; have HO6 := Lib.hid ho6; have HB6 := Lib.hid hb6; clear ho6 hb6 hg6 hn6))
                    go_roundw
                    case rel => exact ⟨A6, c6, m' + 1, nx' ++ [ce cur ii], ii + 1, jj, rfl, by go_num, by go_num, by omega, by omega, by omega, by omega, HM.out, by rw [HPQ.out]; exact HO6.out, (HC4.out.drawn ⟨nq, rfl⟩).below HB6.out (Nat.le_refl _), (HB4.out.drawnN nq).trans (HB6.out.mono hBB), Nat.le_trans HSZ.out HB6.out.size⟩
                    case measure => simp [intOf]; omega
                  · have hiI : ¬ (ii : Int) < (mid : Int) := by omega
                    have HM : Hid (nx' = nxt ++ List.merge (seg cur a mid) (seg cur mid en) leM) := Lib.hid (mrg_end HMR.out (by omega) hje)
                    have HNX : Hid (passed leM sz (p + 1) cur nx') := Lib.hid (by
                      have h := passed_next leM_trans leM_total HPA.out HR.out (by rw [← HAP.out, HCL.out]; exact hal)
                      rw [← HAP.out, HCL.out, ← HMID.out, ← HEN.out, ← HM.out] at h
                      exact h)
                    have HA2 : Hid (a + 2 * sz = (p + 1) * (2 * sz)) := Lib.hid (by rw [Nat.add_mul, Nat.one_mul, ← HAP.out])
                    clear hc4
                    go_wp2
                    go_roundw
                    case rel => exact ⟨A4, c4, m', nx', p + 1, a + 2 * sz, rfl, by go_num, HA2.out, by omega, HNX.out, HN4.out, HC4.out, HB4.out, HSZ.out⟩
                    case measure => simp [intOf]; omega
                · have hjI : (jj : Int) < (en : Int) := by omega
                  have hjG : ¬ (en : Int) ≤ (jj : Int) := by omega
                  have hjN : (jj : Int) < (n : Int) := by omega
                  by_cases hii : ii < mid
                  · have hiI : (ii : Int) < (mid : Int) := by omega
                    have hiN : (ii : Int) < (n : Int) := by omega
                    obtain ⟨b, o, rfl, hb, hi0, hi1'⟩ := hc4.si.at_ (k := ii) (by omega)
                    obtain ⟨b', o', e2, _, hj0, hj1'⟩ := hc4.si.at_ (k := jj) (by omega)
                    simp only [Option.some.injEq, Addr.mk.injEq, and_true] at e2
                    obtain ⟨rfl, rfl⟩ := e2
                    by_cases hk : (ce cur jj).1 ≤ (ce cur ii).1
                    · have HM := Lib.hid (mrg_left HMR.out hii hmc hec (.inr (by simp [leM]; exact hk)))
                      obtain ⟨p1, hp1⟩ : ∃ p1, p1 = (ce cur ii).1 := ⟨_, rfl⟩
                      obtain ⟨q1, hq1⟩ : ∃ q1, q1 = (ce cur ii).2 := ⟨_, rfl⟩
                      have HPQ : Hid (ce cur ii = (p1, q1)) := Lib.hid (by rw [hp1, hq1])
                      rw [← hp1] at hi0
                      rw [← hq1] at hi1'
                      have HRG : Hid (∀ q, (wr.drewN q).rangeAt b (o + ii * 2) [.int .i64 p1, .int .i64 q1]) := Lib.hid (fun q => MS.range hi0 hi1')
                      obtain ⟨p2, hp2⟩ : ∃ p2, p2 = (ce cur jj).1 := ⟨_, rfl⟩
                      rw [← hp2] at hj0
                      have hpp : p2 ≤ p1 := by rw [hp1, hp2]; exact hk
                      clear hp1 hq1 hb hc4 hp2 hk hj1'
                      go_wp2_with fail
                      go_quiet (fail)
                      go_wp2_with (first
                        | (with_reducible refine wpList_load_mid rfl 163 (.tmp 82) rfl b (o + ii * 2) rfl [.int .i64 p1, .int .i64 q1] _ (HRG.out nq) Try.underlying163 rfl Try.infoMon ?_)
                        | (at_builtin; refine wpList_appendM rfl (.tmp 79) (.tmp 84) rfl B2 A4 m' c4 nx' p1 q1 rfl rfl (HN4.out.drawn ⟨nq, rfl⟩) HSZ.out hm4 ?_; intro A6 c6 w6 ho6 hb6 hg6 hn6; have HO6 := Lib.hid ho6; have HB6 := Lib.hid hb6; clear ho6 hb6 hg6 hn6))
                      go_roundw
                      case rel => exact ⟨A6, c6, m' + 1, nx' ++ [ce cur ii], ii + 1, jj, rfl, by go_num, by go_num, by omega, by omega, by omega, by omega, HM.out, by rw [HPQ.out]; exact HO6.out, (HC4.out.drawn ⟨nq, rfl⟩).below HB6.out (Nat.le_refl _), (HB4.out.drawnN nq).trans (HB6.out.mono hBB), Nat.le_trans HSZ.out HB6.out.size⟩
                      case measure => simp [intOf]; omega
                    · have HM := Lib.hid (mrg_right HMR.out (by omega) hmc hec (.inr (by simp [leM]; omega)))
                      obtain ⟨p1, hp1⟩ : ∃ p1, p1 = (ce cur jj).1 := ⟨_, rfl⟩
                      obtain ⟨q1, hq1⟩ : ∃ q1, q1 = (ce cur jj).2 := ⟨_, rfl⟩
                      have HPQ : Hid (ce cur jj = (p1, q1)) := Lib.hid (by rw [hp1, hq1])
                      rw [← hp1] at hj0
                      rw [← hq1] at hj1'
                      have HRG : Hid (∀ q, (wr.drewN q).rangeAt b (o + jj * 2) [.int .i64 p1, .int .i64 q1]) := Lib.hid (fun q => MS.range hj0 hj1')
                      obtain ⟨p2, hp2⟩ : ∃ p2, p2 = (ce cur ii).1 := ⟨_, rfl⟩
                      rw [← hp2] at hi0
                      have hpp : ¬ p1 ≤ p2 := by rw [hp1, hp2]; exact hk
                      clear hp1 hq1 hb hc4 hp2 hk hi1'
                      go_wp2_with fail
                      go_quiet (fail)
                      go_wp2_with (first
                        | (with_reducible refine wpList_load_mid rfl 163 (.tmp 91) rfl b (o + jj * 2) rfl [.int .i64 p1, .int .i64 q1] _ (HRG.out nq) Try.underlying163 rfl Try.infoMon ?_)
                        | (at_builtin; refine wpList_appendM rfl (.tmp 88) (.tmp 93) rfl B2 A4 m' c4 nx' p1 q1 rfl rfl (HN4.out.drawn ⟨nq, rfl⟩) HSZ.out hm4 ?_; intro A6 c6 w6 ho6 hb6 hg6 hn6; have HO6 := Lib.hid ho6; have HB6 := Lib.hid hb6; clear ho6 hb6 hg6 hn6))
                      go_roundw
                      case rel => exact ⟨A6, c6, m' + 1, nx' ++ [ce cur jj], ii, jj + 1, rfl, by go_num, by go_num, by omega, by omega, by omega, by omega, HM.out, by rw [HPQ.out]; exact HO6.out, (HC4.out.drawn ⟨nq, rfl⟩).below HB6.out (Nat.le_refl _), (HB4.out.drawnN nq).trans (HB6.out.mono hBB), Nat.le_trans HSZ.out HB6.out.size⟩
                      case measure => simp [intOf]; omega
                  · have hiI : ¬ (ii : Int) < (mid : Int) := by omega
                    obtain ⟨b, o, rfl, hb, hj0, hj1'⟩ := hc4.si.at_ (k := jj) (by omega)
                    have HM := Lib.hid (mrg_right HMR.out (by omega) hmc hec (.inl (by omega)))
                    obtain ⟨p1, hp1⟩ : ∃ p1, p1 = (ce cur jj).1 := ⟨_, rfl⟩
                    obtain ⟨q1, hq1⟩ : ∃ q1, q1 = (ce cur jj).2 := ⟨_, rfl⟩
                    have HPQ : Hid (ce cur jj = (p1, q1)) := Lib.hid (by rw [hp1, hq1])
                    rw [← hp1] at hj0
                    rw [← hq1] at hj1'
                    have HRG : Hid (∀ q, (wr.drewN q).rangeAt b (o + jj * 2) [.int .i64 p1, .int .i64 q1]) := Lib.hid (fun q => MS.range hj0 hj1')
                    clear hp1 hq1 hb hc4
                    go_wp2_with fail
                    go_quiet (fail)
                    go_wp2_with (first
                      | (with_reducible refine wpList_load_mid rfl 163 (.tmp 91) rfl b (o + jj * 2) rfl [.int .i64 p1, .int .i64 q1] _ (HRG.out nq) Try.underlying163 rfl Try.infoMon ?_)
                      | (at_builtin; refine wpList_appendM rfl (.tmp 88) (.tmp 93) rfl B2 A4 m' c4 nx' p1 q1 rfl rfl (HN4.out.drawn ⟨nq, rfl⟩) HSZ.out hm4 ?_; intro A6 c6 w6 ho6 hb6 hg6 hn6; have HO6 := Lib.hid ho6; have HB6 := Lib.hid hb6; clear ho6 hb6 hg6 hn6))
                    go_roundw
                    case rel => exact ⟨A6, c6, m' + 1, nx' ++ [ce cur jj], ii, jj + 1, rfl, by go_num, by go_num, by omega, by omega, by omega, by omega, HM.out, by rw [HPQ.out]; exact HO6.out, (HC4.out.drawn ⟨nq, rfl⟩).below HB6.out (Nat.le_refl _), (HB4.out.drawnN nq).trans (HB6.out.mono hBB), Nat.le_trans HSZ.out HB6.out.size⟩
                    case measure => simp [intOf]; omega
        · have HE : Hid (List.Perm nxt cur ∧ runs leM (2 * sz) nxt) := Lib.hid (passed_end HPA.out (by rw [HCL.out, ← HAP.out]; omega))
          have hmn : m = n := by rw [← HON.out.len, HE.out.1.length_eq]; exact HCL.out
          rw [hmn] at HON ⊢
          go_wp2
          go_roundw
          case rel =>
           exact ⟨A3, c3, nxt, 2 * sz, rfl, by go_num, by omega, by omega, HE.out.1.trans HP.out, HE.out.2, HON.out.wide hBB (Nat.le_refl _), HBW.out⟩
          case measure => simp [intOf]; omega
    · have HSO : Hid (leftL (sumsL cur) = gatherL l) := Lib.hid (doc_gather HP.out ((runs_all HR.out (by rw [HCL.out]; omega)).imp (fun h => by simpa [leM] using h)) H64.out)
      have hltI : ¬ (sz : Int) < (n : Int) := by omega
      obtain ⟨B2, hB2⟩ : ∃ B2, B2 = wr.heap.size := ⟨_, rfl⟩
      have hBB : B ≤ B2 := by rw [hB2, HB0.out]; exact HB0.out ▸ HB.out.size
      have HO2 : Hid (OwnM (wr.alloc (.cells #[] 163)) B2 (wr.alloc (.cells #[] 163)).heap.size (some ⟨B2, 0, none⟩) 0 0 []) := Lib.hid (by rw [hB2]; simpa using OwnM.empty wr)
      have HBW : Hid (Below B w (wr.alloc (.cells #[] 163))) := Lib.hid (HB.out.alloc (by omega) _)
      have HZ2 : Hid (B2 ≤ (wr.alloc (.cells #[] 163)).heap.size) := Lib.hid (by rw [hB2]; simp)
      have HOC : Hid (OwnM (wr.alloc (.cells #[] 163)) B B2 A2 n c2 cur) := Lib.hid (by rw [hB2]; exact HO.out.below ((Below.refl _ _).alloc (Nat.le_refl _) _) (Nat.le_refl _))
      go_wp2_with fail
      rw [← hB2]
      clear hB2 HO HB HP HR
      go_loopw [11, 12] (fun sm k wx => ∃ A4 c4 m acc kk, sm = .slice A4 m c4 ∧ k = .int .i64 (kk : Nat) ∧ kk ≤ n ∧ acc = (cur.take kk).foldl sumStep [] ∧ OwnM wx B2 wx.heap.size A4 m c4 acc ∧ OwnM wx B B2 A2 n c2 cur ∧ Below B w wx ∧ B2 ≤ wx.heap.size)
        (fun _ k _ => n - (intOf k).toNat)
      case atStart => exact ⟨_, 0, 0, [], 0, rfl, rfl, Nat.zero_le _, rfl, HO2.out, HOC.out, HBW.out, HZ2.out⟩
      case round =>
        obtain ⟨A4, c4, m, acc, k, rfl, rfl, hk, hacc, hn4, hc4, hb4, hsz4⟩ := hrel
        clear HO2 HOC HBW HZ2
        have HACC := Lib.hid hacc
        have HN4 := Lib.hid hn4
        have HC4 := Lib.hid hc4
        have HB4 := Lib.hid hb4
        have HSZ := Lib.hid hsz4
        have hmk : m ≤ k := by
          have h1 := sums_len (cur.take k) []
          have h2 := hn4.len
          rw [hacc] at h2
          simp at h1
          omega
        clear hacc hb4 hsz4
        by_cases hlt : k < n
        · have hltK : (k : Int) < (n : Int) := by omega
          have HNX := Lib.hid (sums_next (cur := cur) (k := k) (by rw [HCL.out]; exact hlt))
          obtain ⟨b, o, rfl, hb, hi0, hi1⟩ := hc4.si.at_ (k := k) hlt
          obtain ⟨p1, hp1⟩ : ∃ p1, p1 = (ce cur k).1 := ⟨_, rfl⟩
          obtain ⟨q1, hq1⟩ : ∃ q1, q1 = (ce cur k).2 := ⟨_, rfl⟩
          have HPQ : Hid (ce cur k = (p1, q1)) := Lib.hid (by rw [hp1, hq1])
          rw [← hp1] at hi0
          rw [← hq1] at hi1
          have HRG : Hid (∀ q, (wr.drewN q).rangeAt b (o + k * 2) [.int .i64 p1, .int .i64 q1]) := Lib.hid (fun q => MS.range hi0 hi1)
          by_cases hm0 : m = 0
          · subst hm0
            have hae : acc = [] := List.eq_nil_of_length_eq_zero hn4.len
            subst hae
            clear hc4 hn4 hp1 hq1 hb
            go_wp2_with fail
            go_quiet (fail)
            go_wp2_with (first
              | (with_reducible refine wpList_load_mid rfl 163 (.tmp 145) rfl b (o + k * 2) rfl [.int .i64 p1, .int .i64 q1] _ (HRG.out nq) Try.underlying163 rfl Try.infoMon ?_)
              | (at_builtin; refine wpList_appendM rfl (.tmp 142) (.tmp 147) rfl B2 A4 0 c4 [] p1 q1 rfl rfl (HN4.out.drawn ⟨nq, rfl⟩) HSZ.out (by omega) ?_; intro A6 c6 w6 ho6 hb6 hg6 hn6; have HO6 := Lib.hid ho6; have HB6 := Lib.hid hb6; clear ho6 hb6 hg6 hn6))
            go_roundw
            case rel => exact ⟨A6, c6, 1, [(p1, q1)], k + 1, rfl, by go_num, by omega, by rw [HNX.out, ← HACC.out, sumStep_nil, HPQ.out], HO6.out, (HC4.out.drawn ⟨nq, rfl⟩).below HB6.out (Nat.le_refl _), (HB4.out.drawnN nq).trans (HB6.out.mono hBB), Nat.le_trans HSZ.out HB6.out.size⟩
            case measure => simp [intOf]; omega
          · obtain ⟨m, rfl⟩ : ∃ m', m = m' + 1 := ⟨m - 1, by omega⟩
            obtain ⟨g4, rfl, hg1, hg2⟩ := hn4.place (by omega)
            obtain ⟨hj0, hj1, hfz⟩ := hn4.cells (k := m) (by omega)
            have hfz1 := hfz (m * 2 + 1)
            obtain ⟨p2, hp2⟩ : ∃ p2, p2 = (ce acc m).1 := ⟨_, rfl⟩
            obtain ⟨q2, hq2⟩ : ∃ q2, q2 = (ce acc m).2 := ⟨_, rfl⟩
            have HP2 : Hid (ce acc m = (p2, q2)) := Lib.hid (by rw [hp2, hq2])
            have HAL : Hid (acc.length = m + 1) := Lib.hid hn4.len
            rw [← hp2] at hj0
            rw [← hq2] at hj1
            have hmw : IntKind.i64.wrap (((m + 1 : Nat) : Int) - 1) = (m : Int) := by rw [IntWalk.i64_in _ (by omega)]; omega
            have hm0' : (0 : Int) < ((m + 1 : Nat) : Int) := by omega
            have hm1 : (m : Int) < ((m + 1 : Nat) : Int) := by omega
            by_cases hpp : p2 = p1
            · have hst := hn4.set2 (k := m) (by omega) (w64 (q2 + q1))
              rw [HP2.out] at hst
              have HST := Lib.hid (fun q => ((hn4.drawn ⟨q, rfl⟩ : OwnM (wr.drewN q) B2 wr.heap.size (some ⟨g4, 0, none⟩) (m + 1) c4 acc)).set2 (k := m) (by omega) (w64 (q2 + q1)))
              have HEQ : Hid (sumStep acc (p1, q1) = acc.set m (p2, w64 (q2 + q1))) := Lib.hid (by have := sumStep_eq (t := (p1, q1)) HAL.out (by rw [HP2.out]; exact hpp); rw [HP2.out] at this; exact this)
              have hww : IntKind.i64.wrap (q2 + q1) = w64 (q2 + q1) := wrap_w64 _
              subst hpp
              obtain ⟨z, hz⟩ : ∃ z, z = w64 (q2 + q1) := ⟨_, rfl⟩
              rw [← hz] at HST HEQ hww
              clear hc4 hn4 hp1 hq1 hb hp2 hq2 hst hfz hz
              go_wp2_with fail
              go_quiet (fail)
              go_wp2_with fail
              obtain ⟨wz, hwz⟩ : ∃ wz, wz = wr.drewN nq := ⟨_, rfl⟩
              have hi1z : wz.cell? ⟨b, o + k * 2 + 1, none⟩ = some (.int .i64 q1) := by rw [hwz]; exact hi1
              have hj1z : wz.cell? ⟨g4, m * 2 + 1, none⟩ = some (.int .i64 q2) := by rw [hwz]; exact hj1
              have hfz : wz.frozen? ⟨g4, m * 2 + 1, none⟩ = false := by rw [hwz]; exact hfz1
              rw [← hwz]
              have HWZ := Lib.hid hwz
              have hmw2 : IntKind.i64.wrap (m : Int) = (m : Int) := IntWalk.i64_in _ (by omega)
              have hmw3 : (m : Int) < (m : Int) + 1 := by omega
              have hmw4 : (0 : Int) ≤ (m : Int) := by omega
              clear hwz hi0 hi1 hj0 hj1 hfz1
              refine wp_region_still_tail 19 (by kernel_rfl) (by kernel_rfl) ?_
              simp only [List.take_succ_cons, List.take_zero, List.drop_succ_cons, List.drop_zero]
              repeat still_step
              refine wpStill_nil ?_
              change wpList _ _ _ _ _ wz.drew
              go_wp2
              go_roundw
              case rel =>
                have e := HWZ.out
                subst e
                have h1 : OwnM ((wr.drewN nq).drew.setCell ⟨g4, m * 2 + 1, none⟩ (.int .i64 z)) B2 wr.heap.size (some ⟨g4, 0, none⟩) (m + 1) c4 (acc.set m ((ce acc m).1, z)) := (HST.out (nq + 1)).1
                rw [HP2.out] at h1
                refine ⟨some ⟨g4, 0, none⟩, c4, m + 1, acc.set m (p2, z), k + 1, rfl, by go_num, by omega, by rw [HNX.out, ← HACC.out, HPQ.out, HEQ.out], h1.wide (Nat.le_refl _) (by simp), ?_, ?_, ?_⟩
                · exact (HC4.out.drawn ⟨nq + 1, rfl⟩ : OwnM (wr.drewN nq).drew B B2 _ n c2 cur).below ((Below.refl B2 _).setCell (p := ⟨g4, m * 2 + 1, none⟩) hg1 _) (Nat.le_refl _)
                · exact ((HB4.out.drawnN (nq + 1)) : Below B w (wr.drewN nq).drew).setCell (p := ⟨g4, m * 2 + 1, none⟩) (Nat.le_trans hBB hg1) _
                · have := HSZ.out; simpa using this
              case measure => simp [intOf]; omega
            · have HEQ : Hid (sumStep acc (p1, q1) = acc ++ [(p1, q1)]) := Lib.hid (sumStep_ne HAL.out (by rw [HP2.out]; exact hpp))
              have hpb : (p2 == p1) = false := by simpa using hpp
              clear hc4 hn4 hp1 hq1 hb hp2 hq2 hfz hfz1 hpp
              go_wp2_with fail
              go_quiet (fail)
              go_wp2_with (first
                | (with_reducible refine wpList_load_mid rfl 163 (.tmp 145) rfl b (o + k * 2) rfl [.int .i64 p1, .int .i64 q1] _ (HRG.out nq) Try.underlying163 rfl Try.infoMon ?_)
                | (at_builtin; refine wpList_appendM rfl (.tmp 142) (.tmp 147) rfl B2 (some ⟨g4, 0, none⟩) (m + 1) c4 acc p1 q1 rfl rfl (HN4.out.drawn ⟨nq, rfl⟩) HSZ.out (by omega) ?_; intro A6 c6 w6 ho6 hb6 hg6 hn6; have HO6 := Lib.hid ho6; have HB6 := Lib.hid hb6; clear ho6 hb6 hg6 hn6))
              go_roundw
              case rel => exact ⟨A6, c6, m + 1 + 1, acc ++ [(p1, q1)], k + 1, rfl, by go_num, by omega, by rw [HNX.out, ← HACC.out, HPQ.out, HEQ.out], HO6.out, (HC4.out.drawn ⟨nq, rfl⟩).below HB6.out (Nat.le_refl _), (HB4.out.drawnN nq).trans (HB6.out.mono hBB), Nat.le_trans HSZ.out HB6.out.size⟩
              case measure => simp [intOf]; omega
        · have hkn : k = n := by omega
          have HSUM : Hid (acc = sumsL cur) := Lib.hid (by rw [HACC.out, List.take_of_length_le (by rw [HCL.out]; omega)]; rfl)
          have hltK : ¬ (k : Int) < (n : Int) := by omega
          have hmn : m ≤ n := by omega
          have HAL : Hid (acc.length = m) := Lib.hid hn4.len
          obtain ⟨B3, hB3⟩ : ∃ B3, B3 = wr.heap.size := ⟨_, rfl⟩
          have hB23 : B2 ≤ B3 := by rw [hB3]; exact HSZ.out
          have HO5 : Hid (OwnM (wr.alloc (.cells #[] 163)) B3 (wr.alloc (.cells #[] 163)).heap.size (some ⟨B3, 0, none⟩) 0 0 []) := Lib.hid (by rw [hB3]; simpa using OwnM.empty wr)
          have HB5 : Hid (Below B w (wr.alloc (.cells #[] 163))) := Lib.hid (HB4.out.alloc (by omega) _)
          have HZ5 : Hid (B3 ≤ (wr.alloc (.cells #[] 163)).heap.size) := Lib.hid (by rw [hB3]; simp)
          have HN5 : Hid (OwnM (wr.alloc (.cells #[] 163)) B2 B3 A4 m c4 acc) := Lib.hid (by rw [hB3]; exact HN4.out.below ((Below.refl _ _).alloc (Nat.le_refl _) _) (Nat.le_refl _))
          clear hc4 hn4
          go_wp2_with fail
          rw [← hB3]
          clear hB3 HN4 HB4 HC4 HACC
          go_loopw [13, 14] (fun lf k wx => ∃ A5 c5 q kk, lf = .slice A5 q c5 ∧ k = .int .i64 (kk : Nat) ∧ kk ≤ m ∧ OwnM wx B3 wx.heap.size A5 q c5 (leftL (acc.take kk)) ∧ OwnM wx B2 B3 A4 m c4 acc ∧ Below B w wx ∧ B3 ≤ wx.heap.size)
            (fun _ k _ => m - (intOf k).toNat)
          case atStart => exact ⟨_, 0, 0, 0, rfl, rfl, Nat.zero_le _, by simpa [leftL] using HO5.out, HN5.out, HB5.out, HZ5.out⟩
          case round =>
            obtain ⟨A5, c5, q, i, rfl, rfl, hi, hl5, hn5, hb5, hsz5⟩ := hrel
            clear HO5 HB5 HZ5 HN5
            have HL5 := Lib.hid hl5
            have HN5 := Lib.hid hn5
            have HB5 := Lib.hid hb5
            have HZ5 := Lib.hid hsz5
            have hqi : q ≤ i := by
              have h1 := left_len (acc.take i)
              have h2 := hl5.len
              rw [List.length_take] at h1
              omega
            clear hl5 hb5 hsz5
            by_cases him : i < m
            · have himI : (i : Int) < (m : Int) := by omega
              have HNX := Lib.hid (left_next (acc := acc) (k := i) (by rw [HAL.out]; exact him))
              obtain ⟨b, o, rfl, hb, hi0, hi1⟩ := hn5.si.at_ (k := i) him
              obtain ⟨p1, hp1⟩ : ∃ p1, p1 = (ce acc i).1 := ⟨_, rfl⟩
              obtain ⟨q1, hq1⟩ : ∃ q1, q1 = (ce acc i).2 := ⟨_, rfl⟩
              have HPQ : Hid (ce acc i = (p1, q1)) := Lib.hid (by rw [hp1, hq1])
              rw [← hp1] at hi0
              rw [← hq1] at hi1
              have HRG : Hid (wr.rangeAt b (o + i * 2) [.int .i64 p1, .int .i64 q1]) := Lib.hid (MS.range hi0 hi1)
              rw [HPQ.out] at HNX
              clear hn5 hp1 hq1 hb
              by_cases hq0 : q1 = 0
              · have HNX2 := Lib.hid (HNX.out.trans (if_pos hq0))
                have hqb : (q1 != 0) = false := by simpa using hq0
                clear hq0 HNX
                go_wp2
                go_roundw
                case rel => exact ⟨A5, c5, q, i + 1, rfl, by go_num, by omega, by rw [HNX2.out]; exact HL5.out, HN5.out, HB5.out, HZ5.out⟩
                case measure => simp [intOf]; omega
              · have HNX2 := Lib.hid (HNX.out.trans (if_neg hq0))
                have hqb : (q1 != 0) = true := by simpa using hq0
                clear hq0 HNX
                go_wp2_with (first
                  | (with_reducible refine wpList_load_mid rfl 163 (.tmp 165) rfl b (o + i * 2) rfl [.int .i64 p1, .int .i64 q1] _ HRG.out Try.underlying163 rfl Try.infoMon ?_)
                  | (at_builtin; refine wpList_appendM rfl (.tmp 162) (.tmp 167) rfl B3 A5 q c5 (leftL (acc.take i)) p1 q1 rfl rfl HL5.out HZ5.out (by omega) ?_; intro A6 c6 w6 ho6 hb6 hg6 hn6; have HO6 := Lib.hid ho6; have HB6 := Lib.hid hb6; clear ho6 hb6 hg6 hn6))
                go_roundw
                case rel => exact ⟨A6, c6, q + 1, i + 1, rfl, by go_num, by omega, by rw [HNX2.out]; exact HO6.out, HN5.out.below HB6.out (Nat.le_refl _), HB5.out.trans (HB6.out.mono (by omega)), Nat.le_trans HZ5.out HB6.out.size⟩
                case measure => simp [intOf]; omega
            · have him' : i = m := by omega
              subst him'
              have HLL : Hid (leftL (acc.take i) = gatherL l) := Lib.hid (by rw [List.take_of_length_le (by rw [HAL.out]; omega), HSUM.out]; exact HSO.out)
              go_wp2
              go_ret
              rw [← HLL.out]
              refine ⟨A5, q, c5, rfl, HL5.out.wide (by rw [← HB0.out]; omega) (Nat.le_refl _), by rw [← HB0.out]; exact HB5.out⟩
end Go.Proofs.Ytcoelbfcndeblaa

/-
  Sums over terms, and what the document's operations on lists of terms give: plain lemmas. No conditions but the exponents' bounds.
-/


namespace Go.Proofs.Ytcoelbfcndeblaa
open Go.RowKit

/-- The coefficients' sum, each taken as often as F says at its key. -/
def tot (F : Int → Int) : List Mn → Int
  | [] => 0
  | t :: l => t.2 * F t.1 + tot F l
theorem tot_app (F : Int → Int) (a b : List Mn) : tot F (a ++ b) = tot F a + tot F b := by
  induction a with
  | nil => simp [tot]
  | cons t a ih => show t.2 * F t.1 + tot F (a ++ b) = t.2 * F t.1 + tot F a + tot F b; rw [ih]; omega
theorem tot_addM (F : Int → Int) (t : Mn) : ∀ g : List Mn, eqm (tot F (addM t g)) (t.2 * F t.1 + tot F g)
  | [] => by
    unfold addM
    have h := (w64_eqm t.2).mul_right (F t.1)
    split
    · rename_i h0
      rw [h0] at h
      show eqm 0 (t.2 * F t.1 + 0)
      rw [eqm_iff] at *; omega
    · show eqm (w64 t.2 * F t.1 + 0) (t.2 * F t.1 + 0)
      rw [eqm_iff] at *; omega
  | v :: g => by
    unfold addM
    have h := (w64_eqm t.2).mul_right (F t.1)
    split
    · split
      · rename_i h0
        rw [h0] at h
        rw [eqm_iff] at *; omega
      · show eqm (w64 t.2 * F t.1 + tot F (v :: g)) (t.2 * F t.1 + tot F (v :: g))
        rw [eqm_iff] at *; omega
    · split
      · rename_i _ e
        have h2 := (w64_eqm (v.2 + t.2)).mul_right (F t.1)
        rw [Int.add_mul] at h2
        split
        · rename_i h0
          rw [h0] at h2
          show eqm (tot F g) (t.2 * F t.1 + (v.2 * F v.1 + tot F g))
          rw [e]
          rw [eqm_iff] at *; omega
        · show eqm (w64 (v.2 + t.2) * F v.1 + tot F g) (t.2 * F t.1 + (v.2 * F v.1 + tot F g))
          rw [e]
          rw [eqm_iff] at *; omega
      · have ih := tot_addM F t g
        show eqm (v.2 * F v.1 + tot F (addM t g)) (t.2 * F t.1 + (v.2 * F v.1 + tot F g))
        rw [eqm_iff] at *; omega
theorem tot_gather (F : Int → Int) : ∀ l : List Mn, eqm (tot F (gatherL l)) (tot F l)
  | [] => eqm.refl _
  | t :: l => (tot_addM F t (gatherL l)).trans ((eqm.refl _).add (tot_gather F l))
theorem tot_congr (F : Int → Int) {a b : List Mn} (h : ∀ k, eqm (cfL a k) (cfL b k)) : eqm (tot F a) (tot F b) := by
  refine (tot_gather F a).symm.trans ?_
  rw [gatherL_congr h]
  exact tot_gather F b
theorem tot_F {F G : Int → Int} : ∀ {l : List Mn}, (∀ t ∈ l, eqm (F t.1) (G t.1)) → eqm (tot F l) (tot G l)
  | [], _ => eqm.refl _
  | t :: _, h => ((h t List.mem_cons_self).mul_left t.2).add (tot_F fun u hu => h u (List.mem_cons_of_mem _ hu))
/-- A list's coefficients, each so many times. -/
def scaleM (c : Int) (l : List Mn) : List Mn := l.map fun u => (u.1, w64 (c * u.2))
theorem cfL_scale (c k : Int) : ∀ l : List Mn, eqm (cfL (scaleM c l) k) (c * cfL l k)
  | [] => by show eqm 0 (c * 0); rw [Int.mul_zero]; exact eqm.refl _
  | u :: l => by
    have ih := cfL_scale c k l
    have h := w64_eqm (c * u.2)
    show eqm ((if u.1 = k then w64 (c * u.2) else 0) + cfL (scaleM c l) k) (c * ((if u.1 = k then u.2 else 0) + cfL l k))
    rw [Int.mul_add]
    split
    · exact h.add ih
    · rw [Int.mul_zero]; exact (eqm.refl _).add ih
/-- Each term of a list by what it gives. -/
def linL (f : Int → List Mn) (l : List Mn) : List Mn := l.flatMap fun t => scaleM t.2 (f t.1)
theorem cfL_lin (f : Int → List Mn) (k : Int) : ∀ l : List Mn, eqm (cfL (linL f l) k) (tot (fun x => cfL (f x) k) l)
  | [] => eqm.refl _
  | t :: l => by
    show eqm (cfL (scaleM t.2 (f t.1) ++ linL f l) k) (t.2 * cfL (f t.1) k + tot (fun x => cfL (f x) k) l)
    rw [cfL_app]
    exact (cfL_scale t.2 k (f t.1)).add (cfL_lin f k l)
theorem lin_congr (f : Int → List Mn) {a b : List Mn} (h : ∀ k, eqm (cfL a k) (cfL b k)) (k : Int) : eqm (cfL (linL f a) k) (cfL (linL f b) k) :=
  (cfL_lin f k a).trans ((tot_congr _ h).trans (cfL_lin f k b).symm)

/-- Exponents that keys can hold. -/
def ex7 (e : List Int) : Prop := e.length = 7 ∧ ∀ k, k < 7 → 0 ≤ nth e k ∧ nth e k ≤ 127
theorem ex7_cases {e : List Int} (h : ex7 e) : ∃ a b c d f g i : Int, e = [a, b, c, d, f, g, i] ∧ (0 ≤ a ∧ a ≤ 127) ∧ (0 ≤ b ∧ b ≤ 127) ∧ (0 ≤ c ∧ c ≤ 127) ∧ (0 ≤ d ∧ d ≤ 127) ∧ (0 ≤ f ∧ f ≤ 127) ∧ (0 ≤ g ∧ g ≤ 127) ∧ (0 ≤ i ∧ i ≤ 127) := by
  obtain ⟨hl, hb⟩ := h
  match e, hl with
  | [a, b, c, d, f, g, i], _ => exact ⟨a, b, c, d, f, g, i, rfl, hb 0 (by omega), hb 1 (by omega), hb 2 (by omega), hb 3 (by omega), hb 4 (by omega), hb 5 (by omega), hb 6 (by omega)⟩
theorem key7_lit (a b c d f g i : Int) : key7 [a, b, c, d, f, g, i] = ((((((i * 128 + g) * 128 + f) * 128 + d) * 128 + c) * 128 + b) * 128 + a) := by simp [key7]
theorem key7_inj {e e' : List Int} (h : ex7 e) (h' : ex7 e') (hk : key7 e = key7 e') : e = e' := by
  obtain ⟨a, b, c, d, f, g, i, rfl, h1, h2, h3, h4, h5, h6, h7⟩ := ex7_cases h
  obtain ⟨a', b', c', d', f', g', i', rfl, k1, k2, k3, k4, k5, k6, k7⟩ := ex7_cases h'
  rw [key7_lit, key7_lit] at hk
  obtain rfl : a = a' := by omega
  obtain rfl : b = b' := by omega
  obtain rfl : c = c' := by omega
  obtain rfl : d = d' := by omega
  obtain rfl : f = f' := by omega
  obtain rfl : g = g' := by omega
  obtain rfl : i = i' := by omega
  rfl
theorem key7_range {e : List Int} (h : ex7 e) : 0 ≤ key7 e ∧ key7 e < 562949953421312 := by
  obtain ⟨a, b, c, d, f, g, i, rfl, h1, h2, h3, h4, h5, h6, h7⟩ := ex7_cases h
  rw [key7_lit]; omega
theorem smallE_ex7 {e : List Int} (hl : e.length = 7) (h : smallE e = true) : ex7 e := ⟨hl, fun k hk => by have := smallE_nth h (k := k) (by omega); omega⟩
theorem lt6 {i : Nat} (h : i < 6) : i = 0 ∨ i = 1 ∨ i = 2 ∨ i = 3 ∨ i = 4 ∨ i = 5 := by omega
/-- Two exponents, one beside the other, put anew. -/
def putE (e : List Int) (i : Nat) (x y : Int) : List Int := (e.set i x).set (i + 1) y
theorem putE_len (e : List Int) (i : Nat) (x y : Int) : (putE e i x y).length = e.length := by simp [putE]
theorem putE_nth {e : List Int} {i : Nat} (_hi : i + 1 < e.length) (x y : Int) {k : Nat} (hk : k < e.length) : nth (putE e i x y) k = if k = i + 1 then y else if k = i then x else nth e k := by
  rw [nth_get (by rw [putE_len]; exact hk)]
  unfold putE
  rw [List.getElem_set]
  by_cases h1 : i + 1 = k
  · rw [if_pos h1, if_pos h1.symm]
  · rw [if_neg h1, if_neg (fun h => h1 h.symm), List.getElem_set]
    by_cases h2 : i = k
    · rw [if_pos h2, if_pos h2.symm]
    · rw [if_neg h2, if_neg (fun h => h2 h.symm), nth_get hk]
theorem putE_ex7 {e : List Int} (h : ex7 e) {i : Nat} (hi : i < 6) {x y : Int} (hx : 0 ≤ x ∧ x ≤ 127) (hy : 0 ≤ y ∧ y ≤ 127) : ex7 (putE e i x y) := by
  refine ⟨by rw [putE_len]; exact h.1, fun k hk => ?_⟩
  rw [putE_nth (by rw [h.1]; omega) x y (by rw [h.1]; exact hk)]
  split
  · exact hy
  · split
    · exact hx
    · exact h.2 k hk
def unitI (i : Nat) : Int := 128 ^ i
theorem putE_key {e : List Int} (h : e.length = 7) {i : Nat} (hi : i < 6) (x y : Int) : key7 (putE e i x y) = key7 e - nth e i * unitI i - nth e (i + 1) * unitI (i + 1) + x * unitI i + y * unitI (i + 1) := by
  match e, h with
  | [a, b, c, d, f, g, j], _ =>
    rcases lt6 hi with rfl | rfl | rfl | rfl | rfl | rfl <;> simp [putE, key7, nth, unitI] <;> omega
/-- The exponent at a place, out of the key. -/
theorem key7_at {e : List Int} (h : ex7 e) {i : Nat} (hi : i < 7) : key7 e / unitI i % 128 = nth e i := by
  obtain ⟨a, b, c, d, f, g, j, rfl, h1, h2, h3, h4, h5, h6, h7⟩ := ex7_cases h
  rw [key7_lit]
  rcases (by omega : i = 0 ∨ i = 1 ∨ i = 2 ∨ i = 3 ∨ i = 4 ∨ i = 5 ∨ i = 6) with rfl | rfl | rfl | rfl | rfl | rfl | rfl <;> simp [nth, unitI] <;> omega
/-- Exponents added up, place by place. -/
def addE (e e' : List Int) : List Int := (List.range 7).map fun k => nth e k + nth e' k
theorem addE_nth (e e' : List Int) {k : Nat} (hk : k < 7) : nth (addE e e') k = nth e k + nth e' k := by
  rw [nth_get (by simp [addE]; exact hk)]; simp [addE]
theorem addE_len (e e' : List Int) : (addE e e').length = 7 := by simp [addE]
theorem addE_key {e e' : List Int} (h : e.length = 7) (h' : e'.length = 7) : key7 (addE e e') = key7 e + key7 e' := by
  match e, h, e', h' with
  | [a, b, c, d, f, g, j], _, [a', b', c', d', f', g', j'], _ =>
    simp [addE, List.range_succ, nth, key7]; omega

/-- The divided difference of one term: exponents, and the sign. -/
def ddE (e : List Int) (i : Nat) : List (List Int) :=
  (List.range (nth e i - nth e (i + 1)).natAbs).map fun (j : Nat) => putE e i (min (nth e i) (nth e (i + 1)) + (nth e i - nth e (i + 1)).natAbs - 1 - j) (min (nth e i) (nth e (i + 1)) + j)
def ddS (e : List Int) (i : Nat) : Int := if nth e i < nth e (i + 1) then -1 else 1
end Go.Proofs.Ytcoelbfcndeblaa

/-
  Worlds that have only grown: draws, and new blocks behind the heap. Plain lemmas. No conditions.
-/


namespace Go.Proofs.Ytcoelbfcndeblaa
open Go.RowKit

/-- w' is w, some draws on, with new blocks behind. -/
def Grew (w w' : World) : Prop := ∃ q os, w' = Go.Sort.grow (w.drewN q) os
theorem Grew.refl (w : World) : Grew w w := ⟨0, #[], by simp [Go.Sort.grow, World.drewN]⟩
theorem Grew.drewN {w w' : World} (h : Grew w w') (n : Nat) : Grew w (w'.drewN n) := by
  obtain ⟨q, os, rfl⟩ := h
  exact ⟨q + n, os, by simp [Go.Sort.grow, World.drewN, Nat.add_assoc]⟩
theorem Grew.drew {w w' : World} (h : Grew w w') : Grew w w'.drew := by
  obtain ⟨q, os, rfl⟩ := h
  exact ⟨q + 1, os, by simp [Go.Sort.grow, World.drewN, World.drew, Nat.add_assoc]⟩
theorem Grew.alloc {w w' : World} (h : Grew w w') (o : Obj) : Grew w (w'.alloc o) := by
  obtain ⟨q, os, rfl⟩ := h
  exact ⟨q, os ++ #[o], by rw [Go.Sort.alloc_eq_grow, Go.Sort.grow_grow]⟩
theorem Grew.trans {w w' w'' : World} (h : Grew w w') (h' : Grew w' w'') : Grew w w'' := by
  obtain ⟨q, os, rfl⟩ := h
  obtain ⟨q', os', rfl⟩ := h'
  exact ⟨q + q', os ++ os', by simp [Go.Sort.grow, World.drewN, Nat.add_assoc, Array.append_assoc]⟩
theorem Grew.of_drawn {w w' : World} (h : Drawn w w') : Grew w w' := by
  obtain ⟨m, rfl⟩ := h
  exact ⟨m, #[], (Go.Sort.grow_empty _).symm⟩
theorem Grew.below {w w' : World} (h : Grew w w') : Below w.heap.size w w' := by
  obtain ⟨q, os, rfl⟩ := h
  exact ⟨rfl, rfl, rfl, by simp, fun k hk => Go.Sort.heap_grow_old (w.drewN q) os hk⟩
theorem Grew.size {w w' : World} (h : Grew w w') : w.heap.size ≤ w'.heap.size := h.below.size
end Go.Proofs.Ytcoelbfcndeblaa

/-
  Keys of exponents and comparison of terms, on both sides. No conditions but the exponents' bounds.
-/




namespace Go.Proofs.Ytcoelbfcndeblaa
open Go.RowKit

theorem nth_drop (e : List Int) (m k : Nat) : nth (e.drop m) k = nth e (m + k) := by simp [nth, List.getD]
theorem keyD {e : List Int} (hl : e.length = 7) (hs : smallE e = true) (m : Nat) : 0 ≤ key7 (e.drop m) ∧ key7 (e.drop m) ≤ 562949953421312 := by
  have h := key7_bound (e.drop m) (fun k hk => by rw [nth_drop]; exact smallE_nth hs (by simp at hk; omega))
  have h1 : (128 : Int) ^ (e.drop m).length ≤ 562949953421312 := by
    have : (e.drop m).length ≤ 7 := by simp; omega
    generalize (e.drop m).length = q at this
    match q, this with
    | 0, _ | 1, _ | 2, _ | 3, _ | 4, _ | 5, _ | 6, _ | 7, _ => decide
  omega
set_option maxHeartbeats 400000 in
theorem l2Key_any (A : Option Addr) (c : Nat) (e : List Int) (w : World) (hs : SI w A 7 e) (hsm : smallE e = true) :
    Calls Try.prog 156 #[.slice A 7 c] w fun r w' => r = .returned (.int .i64 (key7 e)) ∧ Drawn w w' := by
  have hl := hs.1
  have HK := Lib.hid (keyD hl hsm)
  have HS := Lib.hid hsm
  have HL := Lib.hid hl
  clear hl hsm
  go_enter Try.func156, Try.ntmps156
  go_wp2
  go_loopw [3, 4] (fun v i wr => ∃ m : Nat, m ≤ 7 ∧ i = .int .i64 ((m : Int) - 1) ∧ v = .int .i64 (key7 (e.drop m)) ∧ Drawn w wr)
    (fun _ i _ => (intOf i + 1).toNat)
  case atStart => exact ⟨7, by omega, by go_num, by rw [List.drop_of_length_le (by rw [HL.out]; omega)]; rfl, Drawn.refl _⟩
  case round =>
    obtain ⟨m, hm, rfl, rfl, hD⟩ := hrel
    have hs := hD.si hs
    have HD := Lib.hid hD
    clear hD
    by_cases h0 : 0 < m
    · obtain ⟨k, rfl⟩ : ∃ k, m = k + 1 := ⟨m - 1, by omega⟩
      obtain ⟨b, o, rfl, hb, hc⟩ := hs.at_ (by omega)
      have hc1 := hc k (by omega)
      have hx1 := smallE_nth HS.out (k := k) (by rw [HL.out]; omega)
      have hv := HK.out (k + 1)
      have he := key7_drop (e := e) (i := k) (by rw [HL.out]; omega)
      obtain ⟨x, hx⟩ : ∃ x, x = nth e k := ⟨_, rfl⟩
      obtain ⟨y, hy⟩ : ∃ y, y = key7 (e.drop (k + 1)) := ⟨_, rfl⟩
      rw [← hx] at hc1 hx1 he
      rw [← hy] at hv he ⊢
      have HE := Lib.hid he
      obtain ⟨hx0, hx2⟩ := hx1
      obtain ⟨hv0, hv1⟩ := hv
      have hi : ((k + 1 : Nat) : Int) - 1 = (k : Int) := by omega
      rw [hi]
      have hw1 : IntKind.i64.wrap (y * 128) = y * 128 := IntWalk.i64_in _ (by omega)
      have hw2 : IntKind.i64.wrap (y * 128 + x) = y * 128 + x := IntWalk.i64_in _ (by omega)
      clear hc hs hx hy he hi
      go_wp2
      go_roundw
      case rel => exact ⟨k, by omega, by go_num, by rw [HE.out], HD.out⟩
      case measure => simp [intOf]
    · have hm0 : m = 0 := by omega
      subst hm0
      go_wp2
      go_ret
      exact ⟨rfl, HD.out⟩

/-- What comparing two numbers answers. -/
def cmpI (x y : Int) : Int := if x < y then -1 else if y < x then 1 else 0
theorem isNaN_any (x : Int) (w : World) : Calls Try.prog 190 #[.int .i64 x] w fun r w' => r = .returned (.bool false) ∧ w' = w := by
  go_enter Try.func190, Try.ntmps190
  go_wp2
  go_ret
  exact ⟨rfl, rfl⟩
theorem compare_any (x y : Int) (w : World) : Calls Try.prog 144 #[.int .i64 x, .int .i64 y] w fun r w' => r = .returned (.int .i64 (cmpI x y)) ∧ w' = w := by
  unfold cmpI
  by_cases h1 : x < y
  · rw [if_pos h1]
    go_enter Try.func144, Try.ntmps144
    go_wp2_with (go_at_call 190; refine (isNaN_any _ _).mono ?_; rintro e w1 ⟨rfl, rfl⟩)
    go_ret
    exact ⟨rfl, rfl⟩
  · rw [if_neg h1]
    by_cases h2 : y < x
    · rw [if_pos h2]
      go_enter Try.func144, Try.ntmps144
      go_wp2_with (go_at_call 190; refine (isNaN_any _ _).mono ?_; rintro e w1 ⟨rfl, rfl⟩)
      go_ret
      exact ⟨rfl, rfl⟩
    · rw [if_neg h2]
      go_enter Try.func144, Try.ntmps144
      go_wp2_with (go_at_call 190; refine (isNaN_any _ _).mono ?_; rintro e w1 ⟨rfl, rfl⟩)
      go_ret
      exact ⟨rfl, rfl⟩

theorem compare_q (x y : Int) (w : World) : Calls Try.prog 144 #[.int .i64 x, .int .i64 y] w fun r w' => r = .returned (.int .i64 (cmpI x y)) ∧ Drawn w w' :=
  (compare_any x y w).mono fun _ _ ⟨he, hw⟩ => ⟨he, hw ▸ Drawn.refl _⟩
/-- What comparing two terms answers: the greater key stands first. -/
def cmpK (a b : List Int) : Int := if key7 b < key7 a then -1 else if key7 a < key7 b then 1 else 0
theorem smallE_P {e : List Int} (h : smallE e = true) : ∀ k, k < e.length → 0 ≤ nth e k ∧ nth e k ≤ 127 := fun _ hk => by have := smallE_nth h hk; omega
/-- What comparing two lists of exponents answers: from the last one, the greater one stands first. -/
def cmpX (xs ys : List Int) : Nat → Int
  | 0 => 0
  | m + 1 => if nth xs m = nth ys m then cmpX xs ys m else cmpI (nth ys m) (nth xs m)
theorem cmpX_eq {xs ys : List Int} {m : Nat} (h : nth xs m = nth ys m) : cmpX xs ys (m + 1) = cmpX xs ys m := by
  show (if nth xs m = nth ys m then cmpX xs ys m else cmpI (nth ys m) (nth xs m)) = _; rw [if_pos h]
theorem cmpX_ne {xs ys : List Int} {m : Nat} (h : ¬ nth xs m = nth ys m) : cmpX xs ys (m + 1) = cmpI (nth ys m) (nth xs m) := by
  show (if nth xs m = nth ys m then cmpX xs ys m else cmpI (nth ys m) (nth xs m)) = _; rw [if_neg h]
theorem cmpK_eq {a b : List Int} (hl : a.length = b.length) (h : ∀ j, j < a.length → nth a j = nth b j) : cmpK a b = 0 := by
  have e : a = b := by
    apply List.ext_getElem hl
    intro j h1 h2
    have := h j h1
    rwa [nth_get h1, nth_get h2] at this
  subst e
  unfold cmpK
  rw [if_neg (by omega), if_neg (by omega)]
theorem cmpK_ne {a b : List Int} {i : Nat} (ha : a.length = 7) (hb : b.length = 7) (sa : ∀ k, k < 7 → 0 ≤ nth a k ∧ nth a k ≤ 127) (sb : ∀ k, k < 7 → 0 ≤ nth b k ∧ nth b k ≤ 127) (hi : i < 7) (h : ∀ j, i < j → j < 7 → nth a j = nth b j) (hne : nth a i ≠ nth b i) :
    cmpK a b = cmpI (nth b i) (nth a i) := by
  unfold cmpK cmpI
  by_cases h1 : nth b i < nth a i
  · have := key7_lt b a i (by omega) (by rw [hb]; exact sb) (by rw [ha]; exact sa) (by omega) (fun j h1 h2 => (h j h1 (by omega)).symm) h1
    rw [if_pos this, if_pos h1]
  · have := key7_lt a b i (by omega) (by rw [ha]; exact sa) (by rw [hb]; exact sb) (by omega) (fun j h1 h2 => h j h1 (by omega)) (by omega)
    rw [if_neg (by omega), if_pos this, if_neg h1, if_pos (by omega)]
theorem cmpX_key {a b : List Int} (ha : a.length = 7) (hb : b.length = 7) (sa : ∀ k, k < 7 → 0 ≤ nth a k ∧ nth a k ≤ 127) (sb : ∀ k, k < 7 → 0 ≤ nth b k ∧ nth b k ≤ 127) :
    ∀ m, m ≤ 7 → (∀ j, m ≤ j → j < 7 → nth a j = nth b j) → cmpX a b m = cmpK a b
  | 0, _, h => (cmpK_eq (by omega) fun j hj => h j (by omega) (by omega)).symm
  | m + 1, hm, h => by
    by_cases e : nth a m = nth b m
    · rw [cmpX_eq e]
      exact cmpX_key ha hb sa sb m (by omega) fun j h1 h2 => by
        rcases Nat.lt_or_ge m j with h3 | h3
        · exact h j (by omega) h2
        · obtain rfl : j = m := by omega
          exact e
    · rw [cmpX_ne e]
      exact (cmpK_ne ha hb sa sb (by omega) (fun j h1 h2 => h j (by omega) h2) e).symm

theorem Try.undExp : Try.prog.underlying 156 = some (.array 7 3) := Try.underlying156
theorem Try.infoExp : (Try.prog.info? 156).map (·.size) = some 7 := by kernel_rfl
set_option maxHeartbeats 1600000 in
theorem compareExps_any (xs ys : List Int) (w : World) :
    Calls Try.prog 163 #[arr xs, arr ys] w fun r w' => r = .returned (.int .i64 (cmpX xs ys 7)) ∧ Grew w w' := by
  have hb0 : Grew w ((w.alloc (.cells (arrC xs) 156)).alloc (.cells (arrC ys) 156)) := ((Grew.refl w).alloc _).alloc _
  have hK1 : Blk ((w.alloc (.cells (arrC xs) 156)).alloc (.cells (arrC ys) 156)) w.heap.size 156 (arrC xs) := (Blk.new w _ _).alloc _
  have hK2 : Blk ((w.alloc (.cells (arrC xs) 156)).alloc (.cells (arrC ys) 156)) (w.heap.size + 1) 156 (arrC ys) := by
    have := (Blk.new (w.alloc (.cells (arrC xs) 156)) 156 (arrC ys))
    simpa using this
  obtain ⟨g, hg⟩ : ∃ g, g = w.heap.size := ⟨_, rfl⟩
  have HG := Lib.hid hg
  rw [← hg] at hK1 hK2
  have H0 := Lib.hid hb0
  have H1 := Lib.hid hK1
  have H2 := Lib.hid hK2
  clear hb0 hK1 hK2
  go_enter Try.func163, Try.ntmps163
  go_wp2
  obtain ⟨w0, hw0⟩ : ∃ w0, w0 = ((w.alloc (.cells (arrC xs) 156)).alloc (.cells (arrC ys) 156)) := ⟨_, rfl⟩
  rw [← hg]
  clear hg
  rw [← hw0] at H0 H1 H2
  rw [← hw0]
  have HW0 := Lib.hid hw0
  clear hw0
  go_loopw [5] (fun i wr => ∃ m : Nat, m ≤ 7 ∧ i = .int .i64 ((m : Int) - 1) ∧ cmpX xs ys 7 = cmpX xs ys m ∧ Drawn w0 wr)
    (fun i _ => (intOf i + 1).toNat)
  case atStart => exact ⟨7, by omega, by go_num, rfl, Drawn.refl _⟩
  case round =>
    obtain ⟨m, hm, rfl, hall, hD⟩ := hrel
    have HA := Lib.hid hall
    have K1 := H1.out.drawn hD
    have K2 := H2.out.drawn hD
    have HD := Lib.hid hD
    clear hall hD
    by_cases h0 : 0 < m
    · obtain ⟨k, rfl⟩ : ∃ k, m = k + 1 := ⟨m - 1, by omega⟩
      have hc1 : wr.cell? ⟨g, k, none⟩ = some (.int .i64 (nth xs k)) := (K1.cell _).trans (arrC_get _ k (by omega))
      have hc1' : wr.cell? ⟨g + 1, k, none⟩ = some (.int .i64 (nth ys k)) := (K2.cell _).trans (arrC_get _ k (by omega))
      have hi : ((k + 1 : Nat) : Int) - 1 = (k : Int) := by omega
      rw [hi]
      have hkI : (k : Int) < 7 := by omega
      clear K1 K2 hi
      by_cases heq : nth xs k = nth ys k
      · have HE := Lib.hid heq
        rw [← heq] at hc1'
        obtain ⟨p, hp⟩ : ∃ p, p = nth xs k := ⟨_, rfl⟩
        rw [← hp] at hc1 hc1'
        clear heq hp
        go_wp2_with fail
        go_quiet (fail)
        go_wp2
        go_roundw
        case rel => exact ⟨k, by omega, by go_num, by rw [HA.out, cmpX_eq HE.out], HD.out.drewN _⟩
        case measure => simp [intOf]
      · have HE := Lib.hid heq
        obtain ⟨p, hp⟩ : ∃ p, p = nth xs k := ⟨_, rfl⟩
        obtain ⟨q, hq⟩ : ∃ q, q = nth ys k := ⟨_, rfl⟩
        have HP := Lib.hid (And.intro hp hq)
        rw [← hp] at hc1 heq
        rw [← hq] at hc1' heq
        have hb : (p != q) = true := by simpa using heq
        clear heq hp hq
        go_wp2_with fail
        go_quiet (fail)
        go_wp2_with fail
        obtain ⟨w2, hw2⟩ : ∃ w2, w2 = wr.drewN nq := ⟨_, rfl⟩
        have hcb1 : w2.cell? ⟨g, k, none⟩ = some (.int .i64 p) := by rw [hw2]; exact hc1
        have hcb2 : w2.cell? ⟨g + 1, k, none⟩ = some (.int .i64 q) := by rw [hw2]; exact hc1'
        have HD2 : Hid (Drawn w0 w2) := Lib.hid (by rw [hw2]; exact HD.out.drewN _)
        rw [← hw2]
        clear hw2 hc1 hc1' hb
        go_quiet ((go_at_call 144; exact Calls.quiet_of (compare_q q p _)))
        go_wp2
        go_ret
        refine ⟨ret_int ?_, H0.out.trans (Grew.of_drawn (HD2.out.drewN _))⟩
        rw [HA.out, cmpX_ne HE.out, HP.out.1, HP.out.2]
    · have hm0 : m = 0 := by omega
      subst hm0
      go_wp2
      go_ret
      exact ⟨ret_int HA.out.symm, H0.out.trans (Grew.of_drawn HD.out)⟩

theorem arrC_map {l : List Int} (hl : l.length = 7) : arrC l = (l.map (Value.int .i64)).toArray := by
  match l, hl with
  | [a, b, c, d, e, f, g], _ => rfl
theorem quiet_loadcell1 {C : World → Prop} {a : Act} {o : Oper} {K : Act → Prop} (ty : TypeId) (x : Operand) (ho : o.op = .load ty x) (b off : Nat) (hx : a.eval x = .pointer (some ⟨b, off, none⟩)) (v : Value)
    (hb : ∀ w, C w → w.cell? ⟨b, off, none⟩ = some v) (hu : ty = 35) (hk : K (a.put o.dst v)) : o.quiet Try.prog a C K :=
  ⟨_, fun w hw => by
    subst hu
    have hc := hb w hw
    have hl : (loadVar 35 ⟨b, off, none⟩).run Try.prog w = .ok v w := by
      simp [loadVar, isAgg, underlying, Try.underlying35, hc, Result.andThen]
    unfold Oper.quietAt execOp
    simp only [ho, hx, Instr.loadAt, Instr.sureAddr, Sem.run_bind, Sem.run_pure, Result.andThen_ok, hl]
    exact ⟨rfl, rfl⟩, hk⟩
/-- A load at a class of worlds, the load's own run given. -/
theorem quiet_loadrun {C : World → Prop} {a : Act} {o : Oper} {K : Act → Prop} (ty : TypeId) (x : Operand) (ho : o.op = .load ty x) (b off : Nat) (hx : a.eval x = .pointer (some ⟨b, off, none⟩)) (v : Value)
    (hb : ∀ w, C w → (loadVar ty ⟨b, off, none⟩).run Try.prog w = .ok v w) (hk : K (a.put o.dst v)) : o.quiet Try.prog a C K :=
  ⟨_, fun w hw => by
    have hl := hb w hw
    unfold Oper.quietAt execOp
    simp only [ho, hx, Instr.loadAt, Instr.sureAddr, Sem.run_bind, Sem.run_pure, Result.andThen_ok, hl]
    exact ⟨rfl, rfl⟩, hk⟩
/-- A slice of seven numbers read as an array. -/
theorem SI.load7 {w : World} {b o : Nat} {xs : List Int} (h : SI w (some ⟨b, o, none⟩) 7 xs) : (loadVar 156 ⟨b, o, none⟩).run Try.prog w = .ok (arr xs) w := by
  have hl := h.1
  obtain ⟨b', o', e, hb, hc⟩ := h.2 (by omega)
  simp only [Option.some.injEq, Addr.mk.injEq, and_true] at e
  obtain ⟨rfl, rfl⟩ := e
  rw [show arr xs = .agg (xs.map (Value.int .i64)).toArray by show Value.agg (arrC xs) = _; rw [arrC_map hl]]
  refine run_loadVar_mid w b o 156 (xs.map (Value.int .i64)) _ (fun j v hj => ?_) Try.undExp rfl (by rw [Try.infoExp]; simp [hl])
  have hjl : j < xs.length := by
    rcases Nat.lt_or_ge j xs.length with h | h
    · exact h
    · rw [List.getElem?_eq_none (by simpa using h)] at hj; cases hj
  rw [List.getElem?_map, nth_get? hjl] at hj
  rw [hc j (by omega)]
  exact hj

theorem arrayAt7 (p : Addr) (c : Nat) (w : World) : (Instr.arrayAt 156 (.slice (some p) 7 c)).run Try.prog w = .ok (.pointer (some p)) w := by
  simp [Instr.arrayAt, underlying, Result.andThen]
set_option maxRecDepth 100000 in
set_option maxHeartbeats 1600000 in
/-- Two terms of seven exponents each, whatever they are. -/
theorem compareTermsX_any (A A' : Option Addr) (c c' : Nat) (xs ys : List Int) (x y : Int) (w : World) (hs : SI w A 7 xs) (hs' : SI w A' 7 ys) :
    Calls Try.prog 93 #[.agg #[.slice A 7 c, .int .i64 x], .agg #[.slice A' 7 c', .int .i64 y]] w fun r w' => r = .returned (.int .i64 (cmpX xs ys 7)) ∧ Grew w w' := by
  obtain ⟨b, o, rfl, _⟩ := hs.at_ (by omega)
  obtain ⟨b', o', rfl, _⟩ := hs'.at_ (by omega)
  have hb0 : Grew w ((w.alloc (.cells #[.slice (some ⟨b, o, none⟩) 7 c, .int .i64 x] 94)).alloc (.cells #[.slice (some ⟨b', o', none⟩) 7 c', .int .i64 y] 94)) := ((Grew.refl w).alloc _).alloc _
  have hK1 : Blk ((w.alloc (.cells #[.slice (some ⟨b, o, none⟩) 7 c, .int .i64 x] 94)).alloc (.cells #[.slice (some ⟨b', o', none⟩) 7 c', .int .i64 y] 94)) w.heap.size 94 #[.slice (some ⟨b, o, none⟩) 7 c, .int .i64 x] := (Blk.new w _ _).alloc _
  have hK2 : Blk ((w.alloc (.cells #[.slice (some ⟨b, o, none⟩) 7 c, .int .i64 x] 94)).alloc (.cells #[.slice (some ⟨b', o', none⟩) 7 c', .int .i64 y] 94)) (w.heap.size + 1) 94 #[.slice (some ⟨b', o', none⟩) 7 c', .int .i64 y] := by
    have := (Blk.new (w.alloc (.cells #[.slice (some ⟨b, o, none⟩) 7 c, .int .i64 x] 94)) 94 #[.slice (some ⟨b', o', none⟩) 7 c', .int .i64 y])
    simpa using this
  obtain ⟨g, hg⟩ : ∃ g, g = w.heap.size := ⟨_, rfl⟩
  rw [← hg] at hK1 hK2
  have HG := Lib.hid hg
  go_enter Try.func93, Try.ntmps93
  go_wp2_with fail
  rw [← hg]
  generalize ((w.alloc (.cells #[.slice (some ⟨b, o, none⟩) 7 c, .int .i64 x] 94)).alloc (.cells #[.slice (some ⟨b', o', none⟩) 7 c', .int .i64 y] 94)) = w0 at *
  have hs0 := hs.below hb0.below (Nat.le_refl _)
  have hs0' := hs'.below hb0.below (Nat.le_refl _)
  have hltb := (hs0.at_ (by omega))
  have hltb' := (hs0'.at_ (by omega))
  have L1 : ∀ w', Grew w0 w' → (loadVar 156 ⟨b, o, none⟩).run Try.prog w' = .ok (arr xs) w' := fun w' hw' => (hs0.below hw'.below (Nat.le_refl _)).load7
  have L2 : ∀ w', Grew w0 w' → (loadVar 156 ⟨b', o', none⟩).run Try.prog w' = .ok (arr ys) w' := fun w' hw' => (hs0'.below hw'.below (Nat.le_refl _)).load7
  have hc1 : ∀ w', Grew w0 w' → w'.cell? ⟨g, 0, none⟩ = some (.slice (some ⟨b, o, none⟩) 7 c) := fun w' hw' => (Below.cell hw'.below (p := ⟨g, 0, none⟩) hK1.lt).trans (hK1.cell 0)
  have hc2 : ∀ w', Grew w0 w' → w'.cell? ⟨g + 1, 0, none⟩ = some (.slice (some ⟨b', o', none⟩) 7 c') := fun w' hw' => (Below.cell hw'.below (p := ⟨g + 1, 0, none⟩) hK2.lt).trans (hK2.cell 0)
  have CA : ∀ w', Grew w0 w' → Calls Try.prog 163 #[arr xs, arr ys] w' (fun r w'' => r = .returned (.int .i64 (cmpX xs ys 7)) ∧ Grew w0 w'') := fun w' hw' =>
    (compareExps_any xs ys w').mono fun r w'' ⟨hr, hb⟩ => ⟨hr, hw'.trans hb⟩
  obtain ⟨q, hq⟩ : ∃ q, q = cmpX xs ys 7 := ⟨_, rfl⟩
  rw [← hq] at CA
  have HQ := Lib.hid hq
  have HB := Lib.hid hb0
  have HL1 := Lib.hid L1
  have HL2 := Lib.hid L2
  have HC1 := Lib.hid hc1
  have HC2 := Lib.hid hc2
  have HCA := Lib.hid CA
  clear hg hK1 hK2 hs hs' hb0 hs0 hs0' hltb hltb' L1 L2 hc1 hc2 CA hq
  refine tq_class (Grew w0) (by kernel_rfl) (by kernel_rfl) (Grew.refl _).drew ?_
  go_big_quiet_want
  go_big_quiet_op
  first | go_big_quiet_on | (refine ⟨_, fun _ _ => rfl, ?_⟩; go_big_quiet_on)
  go_big_quiet_want
  refine quiet_loadcell1 35 (.tmp 5) rfl g 0 rfl _ HC1.out rfl ?_
  go_big_quiet_on
  go_simp
  go_big_quiet_want
  go_big_quiet_op
  refine ⟨.pointer (some ⟨b, o, none⟩), fun w' _ => by rw [arrayAt7]; exact ⟨rfl, rfl⟩, ?_⟩
  go_big_quiet_on
  go_big_quiet_want
  refine quiet_loadrun 156 (.tmp 7) rfl b o rfl _ HL1.out ?_
  go_big_quiet_on
  go_simp
  go_big_quiet_want
  go_big_quiet_op
  first | go_big_quiet_on | (refine ⟨_, fun _ _ => rfl, ?_⟩; go_big_quiet_on)
  go_big_quiet_want
  refine quiet_loadcell1 35 (.tmp 9) rfl (g + 1) 0 rfl _ HC2.out rfl ?_
  go_big_quiet_on
  go_simp
  go_big_quiet_want
  go_big_quiet_op
  refine ⟨.pointer (some ⟨b', o', none⟩), fun w' _ => by rw [arrayAt7]; exact ⟨rfl, rfl⟩, ?_⟩
  go_big_quiet_on
  go_big_quiet_want
  refine quiet_loadrun 156 (.tmp 11) rfl b' o' rfl _ HL2.out ?_
  go_big_quiet_on
  go_simp
  go_big_quiet_want
  go_big_quiet_op
  refine ⟨.int .i64 q, fun w' hw' => HCA.out w' hw', ?_⟩
  go_big_quiet_on
  go_big_quiet_want
  go_big_quiet_op
  first | go_big_quiet_on | (refine ⟨_, fun _ _ => rfl, ?_⟩; go_big_quiet_on)
  refine wpQuiet_nil ?_
  intro w6 hw6
  have HB6 := Lib.hid (HB.out.trans hw6)
  clear hw6 HCA HL1 HL2 HC1 HC2
  go_wp2
  go_ret
  exact ⟨ret_int HQ.out, HB6.out⟩
theorem compareTerms_any (A A' : Option Addr) (c c' : Nat) (xs ys : List Int) (x y : Int) (w : World) (hs : SI w A 7 xs) (hs' : SI w A' 7 ys) (sx : smallE xs = true) (sy : smallE ys = true) :
    Calls Try.prog 93 #[.agg #[.slice A 7 c, .int .i64 x], .agg #[.slice A' 7 c', .int .i64 y]] w fun r w' => r = .returned (.int .i64 (cmpK xs ys)) ∧ Below w.heap.size w w' := by
  have e := cmpX_key (a := xs) (b := ys) hs.1 hs'.1 (fun k hk => smallE_P sx k (by rw [hs.1]; exact hk)) (fun k hk => smallE_P sy k (by rw [hs'.1]; exact hk)) 7 (Nat.le_refl _) (fun j h1 h2 => absurd h1 (by omega))
  rw [← e]
  exact (compareTermsX_any A A' c c' xs ys x y w hs hs').mono fun _ _ ⟨hr, hb⟩ => ⟨hr, hb.below⟩
end Go.Proofs.Ytcoelbfcndeblaa

/-
  The document's keys: exponents out of a key, keys of exchanged exponents. Conditions: keys below 2^49.
-/





namespace Go.Proofs.Ytcoelbfcndeblaa
open Go.RowKit

theorem wraps_i64_63 (n : Int) (h₀ : 0 ≤ n) (h₁ : n < 2 ^ 63) : IntKind.i64.wrap n = n := IntWalk.i64_in _ (by omega)
theorem lt7s {i : Nat} (h : i < 7) : i = 0 ∨ i = 1 ∨ i = 2 ∨ i = 3 ∨ i = 4 ∨ i = 5 ∨ i = 6 := by omega
theorem and127 (x : Int) (h0 : 0 ≤ x) (h1 : x < 9223372036854775808) : bits .and .i64 x 127 = x % 128 := by
  have h := bits_mask .i64 63 (by decide) wraps_i64_63 7 (by decide) x (by omega) (by omega)
  simpa using h
set_option maxHeartbeats 400000 in
theorem l2At_any (x : Int) (i : Nat) (hi : i < 7) (h0 : 0 ≤ x) (h1 : x < 562949953421312) (w : World) :
    Calls Try.prog 159 #[.int .i64 x, .int .i64 i] w fun e w' => e = .returned (.int .i64 (x / unitI i % 128)) ∧ w' = w := by
  go_enter Try.func159, Try.ntmps159
  rcases lt7s hi with rfl | rfl | rfl | rfl | rfl | rfl | rfl
  all_goals
    go_wp2
    go_ret
    refine ⟨ret_int ?_, rfl⟩
    rw [and127 _ (by omega) (by omega)]
    simp [unitI]
set_option maxHeartbeats 400000 in
theorem l2Unit_any (i : Nat) (hi : i < 7) (w : World) :
    Calls Try.prog 160 #[.int .i64 i] w fun e w' => e = .returned (.int .i64 (unitI i)) ∧ w' = w := by
  go_enter Try.func160, Try.ntmps160
  rcases lt7s hi with rfl | rfl | rfl | rfl | rfl | rfl | rfl
  all_goals
    go_wp2
    go_ret
    refine ⟨ret_int ?_, rfl⟩
    simp [unitI]

theorem unitI_pos {i : Nat} (h : i < 7) : 1 ≤ unitI i ∧ unitI i ≤ 4398046511104 := by
  rcases lt7s h with rfl | rfl | rfl | rfl | rfl | rfl | rfl <;> simp [unitI]
theorem mul_bnd {d U : Int} (h1 : -127 ≤ d) (h2 : d ≤ 127) (h3 : 1 ≤ U) (h4 : U ≤ 4398046511104) : -558551906910208 ≤ d * U ∧ d * U ≤ 558551906910208 := by
  have a1 := Int.mul_le_mul_of_nonneg_right h2 (show 0 ≤ U by omega)
  have a2 := Int.mul_le_mul_of_nonneg_right h1 (show 0 ≤ U by omega)
  constructor <;> omega
/-- A key with two exponents, one beside the other, exchanged. -/
def swK (x : Int) (i : Nat) : Int := x + (x / unitI (i + 1) % 128 - x / unitI i % 128) * unitI i + (x / unitI i % 128 - x / unitI (i + 1) % 128) * unitI (i + 1)
theorem l2At_at {x j : Int} (i : Nat) (hj : j = (i : Int)) (hi : i < 7) (h0 : 0 ≤ x) (h1 : x < 562949953421312) {a : Int} (ha : a = x / unitI i % 128) (w : World) :
    Calls Try.prog 159 #[.int .i64 x, .int .i64 j] w fun e w' => e = .returned (.int .i64 a) ∧ w' = w := by
  subst hj; subst ha; exact l2At_any x i hi h0 h1 w
theorem l2Unit_at {j : Int} (i : Nat) (hj : j = (i : Int)) (hi : i < 7) {U : Int} (hU : U = unitI i) (w : World) :
    Calls Try.prog 160 #[.int .i64 j] w fun e w' => e = .returned (.int .i64 U) ∧ w' = w := by
  subst hj; subst hU; exact l2Unit_any i hi w
/-- Keys that 49 bits hold. -/
def in49 (x : Int) : Prop := 0 ≤ x ∧ x < 562949953421312
theorem ce_mem {l : List Ce} {k : Nat} (h : k < l.length) : ce l k ∈ l := by rw [ce_get h]; exact List.getElem_mem h
theorem take_ce {l : List Ce} {k : Nat} (h : k < l.length) : l.take (k + 1) = l.take k ++ [ce l k] := by rw [List.take_succ_eq_append_getElem h, ce_get h]
theorem map_take_ce {l : List Ce} {f : Ce → Ce} {k : Nat} (h : k < l.length) : (l.take (k + 1)).map f = (l.take k).map f ++ [f (ce l k)] := by rw [take_ce h]; simp
/-- 'out = append(out, l2Mon{..})' in a region that draws. -/
theorem step_appendM (w : World) {ops : Array Oper} {o : Oper} {a : Act} {K : Act → World → Prop} {Q : Exit → Act → World → Prop} {E0 : Prop} (hgd : o.guard = none) (s x : Operand)
    (ho : o.op = .call { callee := .builtin .append, args := #[s, x], argTypes := #[88, 88] })
    (lo hi : Nat) (A : Option Addr) (n c : Nat) (cs : List Ce) (p q : Int) (nb : Nat) (hs : a.eval s = .slice A n c) (hx : a.eval x = .slice (some ⟨nb, 0, none⟩) 1 1) (hblk : Blk w nb 163 #[.int .i64 p, .int .i64 q])
    (hown : OwnM w lo hi A n c cs) (hlo : lo ≤ w.heap.size) (hn : n ≤ 1099511627776)
    (h : ∀ A' c' w', OwnM w' lo w'.heap.size A' (n + 1) c' (cs ++ [(p, q)]) → Below lo w w' → K (a.put o.dst (.slice A' (n + 1) c')) w') :
    if Region.wanted o (yielded ops a.tmps) = true then Oper.wp Try.prog o a w K Q else E0 := by
  obtain ⟨i0, hi0, hz0, hz1, hz2⟩ := info_parts Try.infoMonZ
  refine step_append_lies w hgd s x 88 ho lo 163 i0 (.agg #[.int .i64 0, .int .i64 0]) 2 16 Try.underlying88 hi0 hz0 hz1 hz2 rfl (by decide) _ n _ hs hown.2.1 ⟨nb, 0, none⟩ 1 1 [.int .i64 p, .int .i64 q] hx rfl
    (World.news_of_block hblk) (by intro u hu; simp at hu; rcases hu with rfl | rfl <;> rfl) (by omega) (by unfold maxLen; omega) (by omega) hlo w.heap.size rfl ?_
  intro g cap w1 ho1 hg1 _ hlt
  rw [cells2_app] at ho1
  refine h _ _ w1 ⟨by simp [hown.1], rowm_eq ho1 (cells2_congr fun j hj => ?_), fun k hk => (ho1.lt k hk).2⟩ (grow_below hg1 hlo (fun k hk => (hown.2.1.lt k hk).1))
  unfold cv
  by_cases e : j = n
  · subst e
    rw [if_pos rfl]
    have := @ce_app_at cs (p, q)
    rw [hown.1] at this
    rw [this]
  · rw [if_neg e, ce_app_lt (by rw [hown.1]; omega)]
end Go.Proofs.Ytcoelbfcndeblaa

/-
  Is a list of terms a polynomial: both sides answer polyB. Conditions: lengths below 2^40.
-/

namespace Go.Proofs.Ytcoelbfcndeblaa
open Go.RowKit

theorem isCoef_yes {x : Int} (h : x ≠ 0 ∧ -1000000 ≤ x ∧ x ≤ 1000000) (w : World) : Calls Try.prog 177 #[.int .i64 x] w fun r w' => r = .returned (.bool true) ∧ w' = w := by
  obtain ⟨h0, h1, h2⟩ := h
  have hb : (x != 0) = true := by simpa using h0
  go_enter Try.func177, Try.ntmps177
  go_wp2
  go_ret
  exact ⟨rfl, rfl⟩
theorem isCoef_no {x : Int} (h : ¬ (x ≠ 0 ∧ -1000000 ≤ x ∧ x ≤ 1000000)) (w : World) : Calls Try.prog 177 #[.int .i64 x] w fun r w' => r = .returned (.bool false) ∧ w' = w := by
  by_cases h0 : x = 0
  · subst h0
    clear h
    go_enter Try.func177, Try.ntmps177
    go_wp2
    go_ret
    exact ⟨rfl, rfl⟩
  · have hb : (x != 0) = true := by simpa using h0
    by_cases h1 : -1000000 ≤ x
    · have h2 : ¬ x ≤ 1000000 := fun h2 => h ⟨h0, h1, h2⟩
      clear h h0
      go_enter Try.func177, Try.ntmps177
      go_wp2
      go_ret
      exact ⟨rfl, rfl⟩
    · clear h h0
      go_enter Try.func177, Try.ntmps177
      go_wp2
      go_ret
      exact ⟨rfl, rfl⟩
set_option maxHeartbeats 1600000 in
theorem isValid_any (A : Option Addr) (n c : Nat) (xs : List Int) (x : Int) (w : World) (hs : SI w A n xs) (hn : n ≤ 1099511627776) :
    Calls Try.prog 152 #[.agg #[.slice A n c, .int .i64 x]] w fun r w' => r = .returned (.bool (goodT (xs, x))) ∧ Below w.heap.size w w' := by
  have hl := hs.1
  have no : ∀ (h : ¬ (xs.length = 7 ∧ smallE xs = true ∧ x ≠ 0 ∧ -1000000 ≤ x ∧ x ≤ 1000000)), goodT (xs, x) = false := fun h => goodT_no h
  have NO := Lib.hid no
  have HL := Lib.hid hl
  clear no hl
  by_cases h7 : n = 7
  · subst h7
    by_cases hc3 : x ≠ 0 ∧ -1000000 ≤ x ∧ x ≤ 1000000
    · go_enter Try.func152, Try.ntmps152
      go_wp2_with (go_at_call 177; refine (isCoef_yes hc3 _).mono ?_; rintro e w1 ⟨rfl, rfl⟩)
      have hb0 : Below w.heap.size w (w.alloc (.cells #[.slice A 7 c, .int .i64 x] 94)) := by go_grown
      have hs0 := hs.below hb0 (Nat.le_refl _)
      generalize (w.alloc (.cells #[.slice A 7 c, .int .i64 x] 94)) = w0 at *
      have HB := Lib.hid hb0
      clear hb0 hs
      go_loopw [18] (fun i wr => ∃ k : Nat, k ≤ 7 ∧ i = .int .i64 k ∧ (∀ j, j < k → 0 ≤ nth xs j ∧ nth xs j ≤ 24) ∧ Drawn w0 wr)
        (fun i _ => 7 - (intOf i).toNat)
      case atStart => exact ⟨0, Nat.zero_le _, rfl, fun j hj => absurd hj (by omega), Drawn.refl _⟩
      case round =>
        obtain ⟨k, hk, rfl, hall, hD⟩ := hrel
        have HA := Lib.hid hall
        have hs := hD.si hs0
        have HD := Lib.hid hD
        clear hall hD
        by_cases hlt : k < 7
        · obtain ⟨b, o, rfl, hb, hc⟩ := hs.at_ (by omega)
          have hc1 := hc k hlt
          obtain ⟨p, hp⟩ : ∃ p, p = nth xs k := ⟨_, rfl⟩
          rw [← hp] at hc1
          have HP := Lib.hid hp
          have hkI : (k : Int) < 7 := by omega
          clear hc hs hs0 hp
          by_cases hp0 : p < 0
          · go_wp2
            go_ret
            exact ⟨ret_bool (NO.out (fun h => by have := smallE_nth h.2.1 (k := k) (by rw [HL.out]; exact hlt); rw [← HP.out] at this; omega)).symm, HB.out.trans (HD.out.below _)⟩
          · by_cases hp1 : 24 < p
            · go_wp2
              go_ret
              exact ⟨ret_bool (NO.out (fun h => by have := smallE_nth h.2.1 (k := k) (by rw [HL.out]; exact hlt); rw [← HP.out] at this; omega)).symm, HB.out.trans (HD.out.below _)⟩
            · go_wp2
              go_roundw
              case rel => exact ⟨k + 1, by omega, by go_num, fun j hj => by
                rcases Nat.lt_or_ge j k with h | h
                · exact HA.out j h
                · obtain rfl : j = k := by omega
                  rw [← HP.out]; omega, HD.out⟩
              case measure => simp [intOf]; omega
        · have hk7 : k = 7 := by omega
          subst hk7
          go_wp2
          go_ret
          refine ⟨ret_bool ((goodT_iff _).2 ⟨HL.out, smallE_all (by show ∀ k, k < xs.length → _; rw [HL.out]; exact HA.out), hc3.1, hc3.2.1, hc3.2.2⟩).symm, HB.out.trans (HD.out.below _)⟩
    · go_enter Try.func152, Try.ntmps152
      go_wp2_with (go_at_call 177; refine (isCoef_no hc3 _).mono ?_; rintro e w1 ⟨rfl, rfl⟩)
      go_ret
      exact ⟨ret_bool (NO.out (fun h => hc3 h.2.2)).symm, by go_grown⟩
  · have h7' : ¬ (n : Int) = 7 := by omega
    go_enter Try.func152, Try.ntmps152
    go_wp2
    go_ret
    exact ⟨ret_bool (NO.out (fun h => by have := HL.out; omega)).symm, by go_grown⟩

set_option maxRecDepth 100000 in
set_option maxHeartbeats 1200000 in
theorem specPolyOk_any (A : Option Addr) (n c : Nat) (ts : List Tm) (w : World) (hs : TS w A n ts) (hn : n ≤ 1099511627776) (hne : ∀ k, k < n → (tm ts k).1.length ≤ 1099511627776) :
    Calls Try.prog 84 #[.slice A n c] w fun r w' => r = .returned (.bool (polyB ts)) ∧ Drawn w w' := by
  have HL := Lib.hid hs.1
  have HNE := Lib.hid hne
  clear hne
  by_cases hbig : 600 < n
  · go_enter Try.func84, Try.ntmps84
    go_wp2
    go_ret
    exact ⟨ret_bool (polyB_big (by rw [HL.out]; exact hbig)).symm, Drawn.refl _⟩
  go_enter Try.func84, Try.ntmps84
  go_wp2
  go_loopw [3] (fun i wr => ∃ k : Nat, k ≤ n ∧ i = .int .i64 k ∧ (∀ j, j < k → okAt ts j = true) ∧ Drawn w wr)
    (fun i _ => n - (intOf i).toNat)
  case atStart => exact ⟨0, Nat.zero_le _, rfl, fun j hj => absurd hj (by omega), Drawn.refl _⟩
  case round =>
    obtain ⟨k, hk, rfl, hall, hD⟩ := hrel
    have HA := Lib.hid hall
    have HD := Lib.hid hD
    have hts := hs.drawn hD
    clear hall hD hs
    by_cases hlt : k < n
    · have hlI : (k : Int) < (n : Int) := by omega
      obtain ⟨b, o, A', n', c', rfl, hb, hc0, hc1, hsi, hnc, hnil⟩ := hts.at_ hlt
      have no : goodT (tm ts k) = false → polyB ts = false := fun h => polyB_no (by rw [HL.out]; exact hlt) (okAt_bad h)
      have NO := Lib.hid no
      have HT := Lib.hid hts
      have HSI := Lib.hid hsi
      obtain ⟨x, hx⟩ : ∃ x, x = (tm ts k).2 := ⟨_, rfl⟩
      rw [← hx] at hc1
      have HX := Lib.hid hx
      have hlx : n' = (tm ts k).1.length := hsi.1.symm
      have HLX := Lib.hid hlx
      clear hts hsi hx no hnil hlx
      by_cases h7 : n' = 7
      · subst h7
        by_cases h0 : x = 0
        · subst h0
          go_wp2
          go_ret
          exact ⟨ret_bool (NO.out (goodT_no (fun h => h.2.2.1 HX.out.symm))).symm, HD.out⟩
        · have hx0 : (x == 0) = false := by simpa using h0
          by_cases hr : -1000000 ≤ x ∧ x ≤ 1000000
          · obtain ⟨hr0, hr1⟩ := hr
            go_wp2_with (go_at_call 104; refine (l1In_yes' hr0 hr1 _).mono ?_; rintro e w1 ⟨rfl, rfl⟩)
            go_loopw [4] (fun i w2 => ∃ j : Nat, j ≤ 7 ∧ i = .int .i64 j ∧ (∀ t, t < j → 0 ≤ nth (tm ts k).1 t ∧ nth (tm ts k).1 t ≤ 24) ∧ Drawn wr w2)
              (fun i _ => 7 - (intOf i).toNat)
            case atStart => exact ⟨0, Nat.zero_le _, rfl, fun j hj => absurd hj (by omega), Drawn.refl _⟩
            case round =>
              obtain ⟨j, hj, rfl, hall2, hD2⟩ := hrel
              have HA2 := Lib.hid hall2
              have hsi := hD2.si HSI.out
              have hts := HT.out.drawn hD2
              have HD2 := Lib.hid (HD.out.trans hD2)
              have HDw := Lib.hid hD2
              have hcx : wr.cell? ⟨b, o + k * 2, none⟩ = some (.slice A' 7 c') := by obtain ⟨m, rfl⟩ := hD2; exact hc0
              clear hall2 hD2 hc0 hc1
              by_cases hj7 : j < 7
              · have hjI : (j : Int) < 7 := by omega
                obtain ⟨b2, o2, rfl, hb2, hc2⟩ := hsi.at_ (by omega)
                have hcj := hc2 j hj7
                obtain ⟨p, hp⟩ : ∃ p, p = nth (tm ts k).1 j := ⟨_, rfl⟩
                rw [← hp] at hcj
                have HP := Lib.hid hp
                clear hc2 hsi hts hp
                by_cases hpr : 0 ≤ p ∧ p ≤ 24
                · obtain ⟨hp0, hp1⟩ := hpr
                  go_wp2_with (go_at_call 104; refine (l1In_yes' hp0 hp1 _).mono ?_; rintro e w1 ⟨rfl, rfl⟩)
                  go_roundw
                  case rel => exact ⟨j + 1, by omega, by go_num, fun t ht => by
                    rcases Nat.lt_or_ge t j with h | h
                    · exact HA2.out t h
                    · obtain rfl : t = j := by omega
                      rw [← HP.out]; omega, HDw.out⟩
                  case measure => simp [intOf]; omega
                · go_wp2_with (go_at_call 104; refine (l1In_no' (by omega) _).mono ?_; rintro e w1 ⟨rfl, rfl⟩)
                  go_ret
                  exact ⟨ret_bool (NO.out (goodT_no (fun h => hpr (by rw [HP.out]; exact smallE_nth h.2.1 (by rw [← HLX.out]; exact hj7))))).symm, HD2.out⟩
              · have hj7 : j = 7 := by omega
                subst hj7
                have hgood : goodT (tm ts k) = true := (goodT_iff _).2 ⟨HLX.out.symm, smallE_all (by rw [← HLX.out]; exact HA2.out), by rw [← HX.out]; exact h0, by rw [← HX.out]; exact hr0, by rw [← HX.out]; exact hr1⟩
                have HG := Lib.hid hgood
                have HSI2 := Lib.hid hsi
                clear hgood hsi
                by_cases hk0 : k = 0
                · subst hk0
                  clear hts
                  go_wp2_with fail
                  go_quiet (fail)
                  go_wp2
                  go_roundw
                  case rel => exact ⟨1, by omega, by go_num, fun j hj => by
                    obtain rfl : j = 0 := by omega
                    exact okAt_zero HG.out, HD2.out.drewN _⟩
                  case measure => simp [intOf]; omega
                · obtain ⟨m, rfl⟩ : ∃ m, k = m + 1 := ⟨k - 1, by omega⟩
                  obtain ⟨b3, o3, A3, n3, c3, e3, hb3, hd0, hd1, hsi3, hnc3, hnil3⟩ := hts.at_ (k := m) (by omega)
                  injection e3 with e3
                  injection e3 with e31 e32 e33
                  subst e31; subst e32
                  have hg3 := (goodT_iff _).1 (okAt_good (HA.out m (by omega)))
                  have e7 : n3 = 7 := by rw [← hsi3.1]; exact hg3.1
                  subst e7
                  have HSI3 := Lib.hid hsi3
                  have HG3 := Lib.hid hg3.2.1
                  have HG2 := Lib.hid ((goodT_iff _).1 HG.out).2.1
                  have hmw : IntKind.i64.wrap (((m + 1 : Nat) : Int) - 1) = (m : Int) := by rw [IntWalk.i64_in _ (by omega)]; omega
                  have hm0 : (0 : Int) < ((m + 1 : Nat) : Int) := by omega
                  have hmI : (m : Int) < (n : Int) := by omega
                  obtain ⟨p, hp⟩ : ∃ p, p = key7 (tm ts m).1 := ⟨_, rfl⟩
                  obtain ⟨q, hq⟩ : ∃ q, q = key7 (tm ts (m + 1)).1 := ⟨_, rfl⟩
                  have HPQ := Lib.hid (And.intro hp hq)
                  have K1 := fun nd => Calls.quiet_of (l2Key_any A3 c3 (tm ts m).1 (wr.drewN nd) (HSI3.out.drewN nd) HG3.out)
                  have K2 := fun nd => Calls.quiet_of (l2Key_any A' c' (tm ts (m + 1)).1 (wr.drewN nd) (HSI2.out.drewN nd) HG2.out)
                  rw [← hp] at K1
                  rw [← hq] at K2
                  have HK1 := Lib.hid K1
                  have HK2 := Lib.hid K2
                  clear hts hsi3 hg3 hd1 hp hq K1 K2 hnil3
                  by_cases hpq : p ≤ q
                  · go_wp2_with fail
                    go_quiet ((go_at_call 156; first | with_reducible exact HK1.out _ | with_reducible exact HK2.out _))
                    go_wp2
                    go_ret
                    exact ⟨ret_bool (polyB_no (k := m + 1) (by rw [HL.out]; exact hlt) (okAt_wrong (by omega) (by show ¬ key7 (tm ts (m + 1)).1 < key7 (tm ts m).1; rw [← HPQ.out.1, ← HPQ.out.2]; omega))).symm, HD2.out.drewN _⟩
                  · go_wp2_with fail
                    go_quiet ((go_at_call 156; first | with_reducible exact HK1.out _ | with_reducible exact HK2.out _))
                    go_wp2
                    go_roundw
                    case rel => exact ⟨m + 1 + 1, by omega, by go_num, fun j hj => by
                      rcases Nat.lt_or_ge j (m + 1) with h | h
                      · exact HA.out j h
                      · obtain rfl : j = m + 1 := by omega
                        exact okAt_step HG.out (by show key7 (tm ts (m + 1)).1 < key7 (tm ts m).1; rw [← HPQ.out.1, ← HPQ.out.2]; omega), HD2.out.drewN _⟩
                    case measure => simp [intOf]; omega
          · go_wp2_with (go_at_call 104; refine (l1In_no' (by omega) _).mono ?_; rintro e w1 ⟨rfl, rfl⟩)
            go_ret
            exact ⟨ret_bool (NO.out (goodT_no (fun h => hr (by rw [HX.out]; exact h.2.2.2)))).symm, HD.out⟩
      · have h7' : ¬ (n' : Int) = 7 := by omega
        go_wp2
        go_ret
        exact ⟨ret_bool (NO.out (goodT_no (fun h => h7 (by rw [HLX.out]; exact h.1)))).symm, HD.out⟩
    · have hkn : k = n := by omega
      subst hkn
      go_wp2
      go_ret
      exact ⟨ret_bool (polyB_all (by rw [HL.out]; omega) (by rw [HL.out]; exact HA.out)).symm, HD.out⟩
end Go.Proofs.Ytcoelbfcndeblaa

/-
  Is a list of terms a polynomial: the program's side answers polyB. Conditions: lengths below 2^40.
-/

namespace Go.Proofs.Ytcoelbfcndeblaa
open Go.RowKit

theorem quiet_loadmid {P : Program} {C : World → Prop} {a : Act} {o : Oper} {K : Act → Prop} (ty : TypeId) (x : Operand) (ho : o.op = .load ty x) (b off : Nat) (hx : a.eval x = .pointer (some ⟨b, off, none⟩)) (cs : List Value) (d : TypeDesc)
    (hb : ∀ w, C w → w.rangeAt b off cs) (hu : P.underlying ty = some d) (hd : d.isRow = true) (hi : (P.info? ty).map (·.size) = some cs.length) (hk : K (a.put o.dst (.agg cs.toArray))) : o.quiet P a C K :=
  ⟨_, fun w hw => by
    unfold Oper.quietAt execOp
    simp only [ho, hx, Instr.loadAt, Instr.sureAddr, Sem.run_bind, Sem.run_pure, Result.andThen_ok, run_loadVar_mid w b off ty cs d (hb w hw) hu hd hi]
    exact ⟨rfl, rfl⟩, hk⟩

set_option maxRecDepth 100000 in
set_option maxHeartbeats 400000 in
theorem implPolyOk_any (A : Option Addr) (n c : Nat) (ts : List Tm) (w : World) (hs : TS w A n ts) (hn : n ≤ 1099511627776) (hne : ∀ k, k < n → (tm ts k).1.length ≤ 1099511627776) :
    Calls Try.prog 78 #[.slice A n c] w fun r w' => r = .returned (.bool (polyB ts)) ∧ Below w.heap.size w w' := by
  have HL := Lib.hid hs.1
  have HNE := Lib.hid hne
  clear hne
  by_cases hbig : 600 < n
  · go_enter Try.func78, Try.ntmps78
    go_wp2
    go_ret
    exact ⟨ret_bool (polyB_big (by rw [HL.out]; exact hbig)).symm, Below.refl _ _⟩
  go_enter Try.func78, Try.ntmps78
  go_wp2
  go_loopw [10] (fun i wr => ∃ k : Nat, k ≤ n ∧ i = .int .i64 k ∧ (∀ j, j < k → okAt ts j = true) ∧ Below w.heap.size w wr)
    (fun i _ => n - (intOf i).toNat)
  case atStart => exact ⟨0, Nat.zero_le _, rfl, fun j hj => absurd hj (by omega), Below.refl _ _⟩
  case round =>
    obtain ⟨k, hk, rfl, hall, hbel⟩ := hrel
    have HA := Lib.hid hall
    have HB := Lib.hid hbel
    have hts := hs.below hbel (Nat.le_refl _)
    clear hall hbel hs
    by_cases hlt : k < n
    · have hlI : (k : Int) < (n : Int) := by omega
      obtain ⟨b, o, A', n', c', rfl, hb, hc0, hc1, hsi, hnc, hnil⟩ := hts.at_ hlt
      have no : goodT (tm ts k) = false → polyB ts = false := fun h => polyB_no (by rw [HL.out]; exact hlt) (okAt_bad h)
      have NO := Lib.hid no
      obtain ⟨x, hx⟩ : ∃ x, x = (tm ts k).2 := ⟨_, rfl⟩
      obtain ⟨e, he⟩ : ∃ e, e = (tm ts k).1 := ⟨_, rfl⟩
      have het : (e, x) = tm ts k := by rw [hx, he]
      rw [← hx] at hc1
      rw [← he] at hsi
      have HET := Lib.hid het
      have HE := Lib.hid he
      have hln : n' ≤ 1099511627776 := by have := HNE.out k hlt; rw [← he] at this; have := hsi.1; omega
      have HT := Lib.hid hts
      have HSI := Lib.hid hsi
      clear hts hsi hx he het no hnil
      go_wp2_with fail
      obtain ⟨w5, hw5⟩ : ∃ w5, w5 = wr.alloc (.cells #[.slice A' n' c', .int .i64 x] 94) := ⟨_, rfl⟩
      have hb5 : Below wr.heap.size wr w5 := by rw [hw5]; exact (Below.refl _ _).alloc (Nat.le_refl _) _
      have hK5 : Blk w5 wr.heap.size 94 #[.slice A' n' c', .int .i64 x] := by rw [hw5]; exact Blk.new _ _ _
      have LG : ∀ w', AfterT w5 w' → w'.rangeAt wr.heap.size 0 [.slice A' n' c', .int .i64 x] := fun w' hw' j v hj => by
        rw [(hK5.below hw' hK5.lt).cell]
        match j, hj with
        | 0, hj => simp at hj; subst hj; rfl
        | 1, hj => simp at hj; subst hj; rfl
      have S5 := HSI.out.below hb5 (Nat.le_refl _)
      have T5 := HT.out.below hb5 (Nat.le_refl _)
      have call1 : ∀ w', AfterT w5 w' → Calls Try.prog 152 #[.agg #[.slice A' n' c', .int .i64 x]] w' (fun r w'' => r = .returned (.bool (goodT (tm ts k))) ∧ AfterT w5 w'') := fun w' hw' =>
        (isValid_any A' n' c' e x w' (S5.below hw' (Nat.le_refl _)) hln).mono fun r w'' ⟨hr, hb⟩ => ⟨by rw [hr, HET.out], Below.trans hw' (hb.mono hw'.size)⟩
      have HB5 := Lib.hid (HB.out.trans (hb5.mono HB.out.size))
      obtain ⟨G, hG⟩ : ∃ G, G = wr.heap.size := ⟨_, rfl⟩
      rw [← hG] at LG ⊢
      rw [← hw5]
      have L1 := Lib.hid LG
      clear hw5 hb5 hK5 LG hG hc0 hc1
      cases hgd : goodT (tm ts k) with
      | false =>
        rw [hgd] at call1
        have CA1 := Lib.hid call1
        have HN := Lib.hid (NO.out hgd)
        clear call1 hgd S5 T5
        refine tq_class (AfterT w5) (by kernel_rfl) (by kernel_rfl) (Below.refl _ _).drew ?_
        refine tq_load rfl 94 (.tmp 4) rfl G 0 rfl [.slice A' n' c', .int .i64 x] _ L1.out Try.underlying94 rfl Try.infoTerm ?_
        refine wpQuiet_step (fun K hK => ?_)
        go_simp
        refine ⟨.bool false, fun w' hw' => CA1.out w' hw', hK _ ?_⟩
        clear hK K
        go_big_quiet_want
        go_big_quiet_op
        first | go_big_quiet_on | (refine ⟨_, fun _ _ => rfl, ?_⟩; go_big_quiet_on)
        go_big_quiet_want
        go_big_quiet_op
        first | go_big_quiet_on | (refine ⟨_, fun _ _ => rfl, ?_⟩; go_big_quiet_on)
        repeat go_big_quiet_skip
        go_big_quiet_want
        go_big_quiet_op
        first | go_big_quiet_on | (refine ⟨_, fun _ _ => rfl, ?_⟩; go_big_quiet_on)
        refine wpQuiet_nil ?_
        intro w6 hw6
        have HB6 := Lib.hid (HB5.out.trans (Below.mono hw6 HB5.out.size))
        clear hw6 L1 CA1
        go_wp2
        go_ret
        exact ⟨ret_bool HN.out.symm, HB6.out⟩
      | true =>
        rw [hgd] at call1
        have CA1 := Lib.hid call1
        have HG := Lib.hid hgd
        have HT5 := Lib.hid T5
        clear call1
        by_cases hk0 : k = 0
        · subst hk0
          clear hgd S5 T5
          refine tq_class (AfterT w5) (by kernel_rfl) (by kernel_rfl) (Below.refl _ _).drew ?_
          refine tq_load rfl 94 (.tmp 4) rfl G 0 rfl [.slice A' n' c', .int .i64 x] _ L1.out Try.underlying94 rfl Try.infoTerm ?_
          refine wpQuiet_step (fun K hK => ?_)
          go_simp
          refine ⟨.bool true, fun w' hw' => CA1.out w' hw', hK _ ?_⟩
          clear hK K
          go_big_quiet_want
          go_big_quiet_op
          first | go_big_quiet_on | (refine ⟨_, fun _ _ => rfl, ?_⟩; go_big_quiet_on)
          go_big_quiet_want
          go_big_quiet_op
          first | go_big_quiet_on | (refine ⟨_, fun _ _ => rfl, ?_⟩; go_big_quiet_on)
          go_big_quiet_want
          go_big_quiet_op
          first | go_big_quiet_on | (refine ⟨_, fun _ _ => rfl, ?_⟩; go_big_quiet_on)
          go_big_quiet_want
          go_big_quiet_op
          first | go_big_quiet_on | (refine ⟨_, fun _ _ => rfl, ?_⟩; go_big_quiet_on)
          go_big_quiet_want
          go_big_quiet_op
          first | go_big_quiet_on | (refine ⟨_, fun _ _ => rfl, ?_⟩; go_big_quiet_on)
          repeat go_big_quiet_skip
          go_big_quiet_want
          go_big_quiet_op
          first | go_big_quiet_on | (refine ⟨_, fun _ _ => rfl, ?_⟩; go_big_quiet_on)
          go_big_quiet_want
          go_big_quiet_op
          first | go_big_quiet_on | (refine ⟨_, fun _ _ => rfl, ?_⟩; go_big_quiet_on)
          refine wpQuiet_nil ?_
          intro w6 hw6
          have HB6 := Lib.hid (HB5.out.trans (Below.mono hw6 HB5.out.size))
          clear hw6 L1 CA1
          go_wp2
          go_roundw
          case rel => exact ⟨1, by omega, by go_num, fun j hj => by
            obtain rfl : j = 0 := by omega
            exact okAt_zero HG.out, HB6.out⟩
          case measure => simp [intOf]; omega
        · obtain ⟨m, rfl⟩ : ∃ m, k = m + 1 := ⟨k - 1, by omega⟩
          obtain ⟨b3, o3, A3, n3, c3, e3, hb3, hd0, hd1, hsi3, hnc3, hnil3⟩ := T5.at_ (k := m) (by omega)
          injection e3 with e3
          injection e3 with e31 e32 e33
          subst e31; subst e32
          have hg3 := (goodT_iff _).1 (okAt_good (HA.out m (by omega)))
          have hg2 := (goodT_iff _).1 hgd
          have e7 : n3 = 7 := by rw [← hsi3.1]; exact hg3.1
          subst e7
          have e7' : n' = 7 := by have := S5.1; rw [HE.out, hg2.1] at this; exact this.symm
          subst e7'
          have R3 := TS.range hd0 hd1
          have LP : ∀ w', AfterT w5 w' → w'.rangeAt b (o + m * 2) [.slice A3 7 c3, .int .i64 (tm ts m).2] := fun w' hw' j v hj => by
            rw [Below.cell hw' (p := ⟨b, o + m * 2 + j, none⟩) hb3]; exact R3 j v hj
          have call2 : ∀ w', AfterT w5 w' → Calls Try.prog 93 #[.agg #[.slice A3 7 c3, .int .i64 (tm ts m).2], .agg #[.slice A' 7 c', .int .i64 x]] w' (fun r w'' => r = .returned (.int .i64 (cmpK (tm ts m).1 (tm ts (m + 1)).1)) ∧ AfterT w5 w'') := fun w' hw' =>
            (compareTerms_any A3 A' c3 c' (tm ts m).1 e (tm ts m).2 x w' (hsi3.below hw' (Nat.le_refl _)) (S5.below hw' (Nat.le_refl _)) hg3.2.1 (by rw [HE.out]; exact hg2.2.1)).mono fun r w'' ⟨hr, hb⟩ => ⟨by rw [hr, HE.out], Below.trans hw' (hb.mono hw'.size)⟩
          obtain ⟨y, hy⟩ : ∃ y, y = (tm ts m).2 := ⟨_, rfl⟩
          obtain ⟨q, hq⟩ : ∃ q, q = cmpK (tm ts m).1 (tm ts (m + 1)).1 := ⟨_, rfl⟩
          rw [← hy] at LP call2
          rw [← hq] at call2
          have HQ := Lib.hid hq
          have LP1 := Lib.hid LP
          have CA2 := Lib.hid call2
          have hmw : IntKind.i64.wrap (((m + 1 : Nat) : Int) - 1) = (m : Int) := by rw [IntWalk.i64_in _ (by omega)]; omega
          have hm0 : (0 : Int) < ((m + 1 : Nat) : Int) := by omega
          have hmI : (m : Int) < (n : Int) := by omega
          clear hgd S5 T5 hsi3 hg3 hg2 hd0 hd1 R3 LP call2 hy hq hnil3
          refine tq_class (AfterT w5) (by kernel_rfl) (by kernel_rfl) (Below.refl _ _).drew ?_
          refine tq_load rfl 94 (.tmp 4) rfl G 0 rfl [.slice A' 7 c', .int .i64 x] _ L1.out Try.underlying94 rfl Try.infoTerm ?_
          refine wpQuiet_step (fun K hK => ?_)
          go_simp
          refine ⟨.bool true, fun w' hw' => CA1.out w' hw', hK _ ?_⟩
          clear hK K
          go_big_quiet_want
          go_big_quiet_op
          first | go_big_quiet_on | (refine ⟨_, fun _ _ => rfl, ?_⟩; go_big_quiet_on)
          go_big_quiet_want
          go_big_quiet_op
          first | go_big_quiet_on | (refine ⟨_, fun _ _ => rfl, ?_⟩; go_big_quiet_on)
          go_big_quiet_want
          go_big_quiet_op
          first | go_big_quiet_on | (refine ⟨_, fun _ _ => rfl, ?_⟩; go_big_quiet_on)
          go_big_quiet_want
          go_big_quiet_op
          first | go_big_quiet_on | (refine ⟨_, fun _ _ => rfl, ?_⟩; go_big_quiet_on)
          go_big_quiet_want
          go_big_quiet_op
          first | go_big_quiet_on | (refine ⟨_, fun _ _ => rfl, ?_⟩; go_big_quiet_on)
          go_big_quiet_want
          go_big_quiet_op
          first | go_big_quiet_on | (refine ⟨_, fun _ _ => rfl, ?_⟩; go_big_quiet_on)
          go_big_quiet_want
          go_big_quiet_op
          first | go_big_quiet_on | (refine ⟨_, fun _ _ => rfl, ?_⟩; go_big_quiet_on)
          go_big_quiet_want
          go_big_quiet_op
          first | go_big_quiet_on | (refine ⟨_, fun _ _ => rfl, ?_⟩; go_big_quiet_on)
          go_big_quiet_want
          go_big_quiet_op
          first | go_big_quiet_on | (refine ⟨_, fun _ _ => rfl, ?_⟩; go_big_quiet_on)
          go_big_quiet_want
          refine quiet_loadmid 94 (.tmp 25) rfl b (o + m * 2) rfl [.slice A3 7 c3, .int .i64 y] _ LP1.out Try.underlying94 rfl Try.infoTerm ?_
          go_big_quiet_on
          go_simp
          go_big_quiet_want
          refine quiet_loadmid 94 (.tmp 4) rfl G (0) rfl [.slice A' 7 c', .int .i64 x] _ L1.out Try.underlying94 rfl Try.infoTerm ?_
          go_big_quiet_on
          go_simp
          go_big_quiet_want
          go_big_quiet_op
          refine ⟨.int .i64 q, fun w' hw' => CA2.out w' hw', ?_⟩
          go_big_quiet_on
          go_big_quiet_want
          go_big_quiet_op
          first | go_big_quiet_on | (refine ⟨_, fun _ _ => rfl, ?_⟩; go_big_quiet_on)
          go_big_quiet_want
          go_big_quiet_op
          first | go_big_quiet_on | (refine ⟨_, fun _ _ => rfl, ?_⟩; go_big_quiet_on)
          go_big_quiet_want
          go_big_quiet_op
          first | go_big_quiet_on | (refine ⟨_, fun _ _ => rfl, ?_⟩; go_big_quiet_on)
          refine wpQuiet_nil ?_
          intro w6 hw6
          have HB6 := Lib.hid (HB5.out.trans (Below.mono hw6 HB5.out.size))
          clear hw6 L1 CA1 LP1 CA2
          by_cases hq0 : 0 ≤ q
          · go_wp2
            go_ret
            refine ⟨ret_bool (polyB_no (k := m + 1) (by rw [HL.out]; exact hlt) (okAt_wrong (by omega) ?_)).symm, HB6.out⟩
            show ¬ key7 (tm ts (m + 1)).1 < key7 (tm ts m).1
            intro hk2
            have := HQ.out
            unfold cmpK at this
            rw [if_pos hk2] at this
            omega
          · go_wp2
            go_roundw
            case rel => exact ⟨m + 1 + 1, by omega, by go_num, fun j hj => by
              rcases Nat.lt_or_ge j (m + 1) with h | h
              · exact HA.out j h
              · obtain rfl : j = m + 1 := by omega
                refine okAt_step HG.out ?_
                show key7 (tm ts (m + 1)).1 < key7 (tm ts m).1
                have := HQ.out
                unfold cmpK at this
                by_cases h1 : key7 (tm ts (m + 1)).1 < key7 (tm ts m).1
                · exact h1
                · rw [if_neg h1] at this
                  split at this <;> omega, HB6.out⟩
            case measure => simp [intOf]; omega
    · have hkn : k = n := by omega
      subst hkn
      go_wp2
      go_ret
      exact ⟨ret_bool (polyB_all (by rw [HL.out]; omega) (by rw [HL.out]; exact HA.out)).symm, HB.out⟩
end Go.Proofs.Ytcoelbfcndeblaa

/-
  Constants and monomials, on both sides. Conditions: lengths below 2^40.
-/



namespace Go.Proofs.Ytcoelbfcndeblaa
open Go.RowKit

theorem OwnT.single {w : World} {lo hi n c : Nat} {A : Option Addr} {xs : List Int} (h : Own w lo hi A n c xs) (hi' : hi ≤ w.heap.size) (hlo : lo ≤ w.heap.size) (x : Int) :
    OwnT (w.alloc (.cells #[.slice A n c, .int .i64 x] 94)) lo (w.heap.size + 1) (some ⟨w.heap.size, 0, none⟩) 1 1 [(xs, x)] := by
  refine ⟨fun _ => (A, n, c), rfl, ?_, fun k hk => by simp [Value.ownBlock] at hk; omega, fun j hj => ?_, fun j b hj hb => ?_, fun i j b hij hj _ => absurd hj (by omega)⟩
  · exact row_eq (World.ownsRow_lit w #[.slice A n c, .int .i64 x] 1 hlo (by unfold maxLen; omega) rfl) rfl
  · obtain rfl : j = 0 := by omega
    exact (h.below ((Below.refl w.heap.size w).alloc (Nat.le_refl _) _) hi').wide (Nat.le_refl _) (by omega)
  · have := h.lt b hb
    simp [Value.ownBlock]; omega
theorem FreshT.one {w w' : World} {A : Option Addr} {n c : Nat} {xs : List Int} (hb : Below w.heap.size w w') (h : Own w' w.heap.size w'.heap.size A n c xs) (x : Int) :
    FreshT w (w'.alloc (.cells #[.slice A n c, .int .i64 x] 94)) (.returned (.slice (some ⟨w'.heap.size, 0, none⟩) 1 1)) [(xs, x)] :=
  ⟨_, _, _, rfl, by have := OwnT.single h (Nat.le_refl _) hb.size x; simpa using this, hb.alloc hb.size _⟩
theorem FreshT.nil_ret {w w' : World} (h : Below w.heap.size w w') : FreshT w w' (.returned (.slice none 0 0)) [] := ⟨none, 0, 0, rfl, OwnT.nil _ _ _, h⟩

/-- The polynomial k. -/
def constPoly (k : Int) : List Tm := if k ≠ 0 ∧ -1000000 ≤ k ∧ k ≤ 1000000 then [(List.replicate 7 0, k)] else []
theorem constPoly_no {k : Int} (h : ¬ (k ≠ 0 ∧ -1000000 ≤ k ∧ k ≤ 1000000)) : constPoly k = [] := by unfold constPoly; rw [if_neg h]
theorem constPoly_yes {k : Int} (h : k ≠ 0 ∧ -1000000 ≤ k ∧ k ≤ 1000000) : constPoly k = [(List.replicate 7 0, k)] := by unfold constPoly; rw [if_pos h]
/-- What is short: at most one term of seven exponents. -/
def shortT (ts : List Tm) : Prop := ts = [] ∨ ∃ e x, ts = [(e, x)] ∧ e.length = 7
theorem shortT.le {ts : List Tm} (h : shortT ts) : ts.length ≤ 1099511627776 := by
  rcases h with rfl | ⟨e, x, rfl, _⟩ <;> simp
theorem shortT.lens {ts : List Tm} (h : shortT ts) (k : Nat) : (tm ts k).1.length ≤ 1099511627776 := by
  rcases h with rfl | ⟨e, x, rfl, h7⟩
  · simp [tm]
  · match k with
    | 0 => show e.length ≤ _; omega
    | k + 1 => simp [tm, List.getD]
theorem shortT.ends {ts : List Tm} (h : shortT ts) (k : Nat) : 0 ≤ endT (ts.take k) 1 ∧ endT (ts.take k) 1 ≤ 1099511627776 := by
  rcases h with rfl | ⟨e, x, rfl, h7⟩
  · simp [endT]
  · match k with
    | 0 => simp [endT]
    | k + 1 => simp [endT, h7]
theorem constPoly_short (k : Int) : shortT (constPoly k) := by
  by_cases h : k ≠ 0 ∧ -1000000 ≤ k ∧ k ≤ 1000000
  · exact .inr ⟨_, _, constPoly_yes h, by simp⟩
  · exact .inl (constPoly_no h)

/-- Exponents with zeros behind them, seven in all: the first k of e. -/
def fillE (e : List Int) (k : Nat) : List Int := e.take k ++ List.replicate (7 - k) 0
theorem fillE_len {e : List Int} {k : Nat} (h : k ≤ e.length) (h7 : k ≤ 7) : (fillE e k).length = 7 := by simp [fillE]; omega
theorem fillE_succ {e : List Int} {k : Nat} (h : k < e.length) (h7 : k < 7) : (fillE e k).set k (nth e k) = fillE e (k + 1) := by
  unfold fillE
  have hl : (e.take k).length = k := by simp; omega
  rw [List.set_append_right _ _ (by omega), hl, Nat.sub_self, show 7 - k = (7 - (k + 1)) + 1 by omega, List.replicate_succ, List.set_cons_zero, take_nth h, List.append_assoc]
  rfl
/-- The polynomial of one term. -/
def monoPoly (e : List Int) : List Tm := if e.length ≤ 7 ∧ smallE e = true then [(fillE e e.length, 1)] else []
theorem monoPoly_no {e : List Int} (h : ¬ (e.length ≤ 7 ∧ smallE e = true)) : monoPoly e = [] := by unfold monoPoly; rw [if_neg h]
theorem monoPoly_yes {e : List Int} (h : e.length ≤ 7 ∧ smallE e = true) : monoPoly e = [(fillE e e.length, 1)] := by unfold monoPoly; rw [if_pos h]
theorem monoPoly_short (e : List Int) : shortT (monoPoly e) := by
  by_cases h : e.length ≤ 7 ∧ smallE e = true
  · exact .inr ⟨_, _, monoPoly_yes h, fillE_len (Nat.le_refl _) h.1⟩
  · exact .inl (monoPoly_no h)
theorem smallE_fill {e : List Int} (_h7 : e.length ≤ 7) : smallE (fillE e e.length) = smallE e := by
  unfold fillE smallE
  rw [List.take_of_length_le (Nat.le_refl _), List.all_append]
  have : (List.replicate (7 - e.length) (0 : Int)).all (fun x => decide (0 ≤ x ∧ x ≤ 24)) = true := by
    rw [List.all_eq_true]; intro x hx; rw [List.eq_of_mem_replicate hx]; decide
  rw [this, Bool.and_true]

theorem Try.infoIntS : (Try.prog.info? 3).map (·.size) = some 1 := by kernel_rfl
/-- 'copy(d, s)' into a slice of the call's own that is at least as long. -/
theorem wpList_copy_ints {ops : Array Oper} {rest : List Oper} {o : Oper} {a : Act} {w : World} {Q : Exit → Act → World → Prop} (hgd : o.guard = none) (d s : Operand)
    (ho : o.op = .call { callee := .builtin .copy, args := #[d, s], argTypes := #[35, 35] }) (g n' : Nat) (A : Option Addr) (n c : Nat) (hd : a.eval d = .slice (some ⟨g, 0, none⟩) n' n') (hs : a.eval s = .slice A n c)
    (lo hi : Nat) (ys e : List Int) (hown : Own w lo hi (some ⟨g, 0, none⟩) n' n' ys) (hsi : SI w A n e) (hle : n ≤ n')
    (hK : ∀ w', Own w' lo hi (some ⟨g, 0, none⟩) n' n' (e ++ ys.drop n) → w.grownBy w' (some g) → wpList Try.prog ops Q rest (a.put o.dst (goInt n)) w') : wpList Try.prog ops Q (o :: rest) a w := by
  have hl := hsi.1
  by_cases h0 : n = 0
  · subst h0
    obtain rfl : e = [] := List.eq_nil_of_length_eq_zero hl
    exact Go.wpList_copy_nothing hgd d s 35 35 ho 3 Try.underlying35 Try.infoIntS (some ⟨g, 0, none⟩) A n' n' 0 c hd hs (by simp) (hK w (by simpa using hown) (World.grownBy.refl _ _))
  · obtain ⟨b, off, rfl, hb, hc⟩ := hsi.2 (by omega)
    rcases hown.1.2 with ⟨hx, _⟩ | ⟨g', cap, cur, hv, hlo, hg, hnc, hcm, hcs, htake⟩
    · cases hx
    · have hv' := hv
      simp only [Value.slice.injEq, Option.some.injEq, Addr.mk.injEq, and_true, true_and] at hv'
      obtain ⟨rfl, rfl⟩ := hv'
      have hyl := hown.len
      have hcur : cur.toList = ys.map (Value.int .i64) := by rw [← htake, List.take_of_length_le (by simp; omega)]
      have hE : (cur.toList.take 0 ++ (e.map (Value.int .i64) ++ cur.toList.drop (0 + (e.map (Value.int .i64)).length))).toArray = ((e ++ ys.drop n).map (Value.int .i64)).toArray := by
        rw [hcur]; simp [hl, List.map_drop]
      refine Go.wpList_copy_own hgd d s 35 35 ho 3 Try.underlying35 Try.infoIntS g 0 n' n' ⟨b, off, none⟩ n c hd hs cur 3 hg (e.map (Value.int .i64)) (by simp [hl]; exact (Nat.min_eq_left hle).symm) ?_ (by simp [hl]; omega) (ints_oneCell _ _) ?_
      · intro j v hj
        have hjl : j < e.length := by
          rcases Nat.lt_or_ge j e.length with h | h
          · exact h
          · rw [List.getElem?_eq_none (by simpa using h)] at hj; cases hj
        rw [List.getElem?_map, nth_get? hjl] at hj
        rw [add_pt, hc j (by omega)]
        exact hj
      · rw [hE]
        have hk := hK (w.setRow g ((e ++ ys.drop n).map (Value.int .i64)).toArray) ⟨⟨by simp; omega, .inr ⟨g, n', _, rfl, hlo, setRow_heap w g cur _ _ (0, 0) hg, Nat.le_refl _, hcm, by simp; omega, List.take_of_length_le (by simp; omega)⟩⟩, hown.2⟩ (grownBy_setRow w g _)
        simpa [hl] using hk

end Go.Proofs.Ytcoelbfcndeblaa

/-
  Slices of terms that a call owns: the empty one, a wider frame, a term more behind them. Plain lemmas. No conditions.
-/


namespace Go.Proofs.Ytcoelbfcndeblaa
open Go.RowKit

theorem OwnT.empty (w : World) : OwnT (w.alloc (.cells #[] 94)) w.heap.size (w.heap.size + 1) (some ⟨w.heap.size, 0, none⟩) 0 0 [] :=
  ⟨fun _ => (none, 0, 0), rfl, World.ownsRow_lit w #[] 0 (Nat.le_refl _) (Nat.zero_le _) rfl, fun k hk => by simp [Value.ownBlock] at hk; omega, fun j hj => absurd hj (by omega), fun j g hj => absurd hj (by omega), fun i j g _ hj => absurd hj (by omega)⟩
theorem OwnT.wide {w : World} {lo hi lo' hi' n c : Nat} {A : Option Addr} {ts : List Tm} (h : OwnT w lo hi A n c ts) (h1 : lo' ≤ lo) (h2 : hi ≤ hi') : OwnT w lo' hi' A n c ts := by
  obtain ⟨E, e1, e2, e3, e4, e5, e6⟩ := h
  refine ⟨E, e1, ⟨e2.1, ?_⟩, fun k hk => Nat.lt_of_lt_of_le (e3 k hk) h2, fun j hj => (e4 j hj).wide h1 h2, e5, e6⟩
  rcases e2.2 with hn | ⟨g, cap, cur, e, hl, rest⟩
  · exact .inl hn
  · exact .inr ⟨g, cap, cur, e, Nat.le_trans h1 hl, rest⟩
/-- The same, the blocks of the exponents named. -/
def OwnE (E : Nat → Sv) (w : World) (lo hi : Nat) (A : Option Addr) (n c : Nat) (ts : List Tm) : Prop :=
  ts.length = n ∧ w.ownsRow lo 94 2 (.slice A n c) n (cells2 n fun k => (sv (E k), .int .i64 (tm ts k).2)) ∧ (∀ k, (Value.slice A n c).ownBlock = some k → k < hi) ∧
    (∀ j, j < n → Own w lo hi (E j).1 (E j).2.1 (E j).2.2 (tm ts j).1) ∧ (∀ j g, j < n → (sv (E j)).ownBlock = some g → (Value.slice A n c).ownBlock ≠ some g) ∧
    (∀ i j g, i < j → j < n → (sv (E i)).ownBlock = some g → (sv (E j)).ownBlock ≠ some g)
theorem OwnE.below {E : Nat → Sv} {w w' : World} {lo hi n c B : Nat} {A : Option Addr} {ts : List Tm} (h : OwnE E w lo hi A n c ts) (hb : Below B w w') (hB : hi ≤ B) : OwnE E w' lo hi A n c ts := by
  obtain ⟨h1, h2, h3, h4, h5, h6⟩ := h
  refine ⟨h1, ⟨h2.1, ?_⟩, h3, fun j hj => (h4 j hj).below hb hB, h5, h6⟩
  rcases h2.2 with hn | ⟨g, cap, cur, e, hl, hg, rest⟩
  · exact .inl hn
  · have hlt := h3 g (by rw [e]; rfl)
    exact .inr ⟨g, cap, cur, e, hl, (hb.block g (by omega)).trans hg, rest⟩
theorem OwnT.named {w : World} {lo hi n c : Nat} {A : Option Addr} {ts : List Tm} (h : OwnT w lo hi A n c ts) : ∃ E, OwnE E w lo hi A n c ts := h
/-- A term more behind them. -/
theorem OwnE.app {E : Nat → Sv} {w w' : World} {lo hi n c : Nat} {A : Option Addr} {ts : List Tm} (h : OwnE E w lo hi A n c ts) {lo2 hi2 n2 c2 : Nat} {A2 : Option Addr} {xs : List Int} (x : Int) (hx : Own w lo2 hi2 A2 n2 c2 xs)
    (hlo : lo ≤ lo2) (hd : hi ≤ lo2) {H g cap : Nat} (hH : hi2 ≤ H) (hHh : hi ≤ H) (hHw : H ≤ w.heap.size)
    (ho : w'.ownsRow lo 94 2 (.slice (some ⟨g, 0, none⟩) (n + 1) cap) (n + 1) (cells2 n (fun k => (sv (E k), .int .i64 (tm ts k).2)) ++ [.slice A2 n2 c2, .int .i64 x]))
    (hg : w.grownBy w' (Value.slice A n c).ownBlock) (hat : (Value.slice A n c).ownBlock = some g ∨ H ≤ g) (hlt : g < w'.heap.size) : OwnT w' lo w'.heap.size (some ⟨g, 0, none⟩) (n + 1) cap (ts ++ [(xs, x)]) := by
  obtain ⟨h1, h2, h3, h4, h5, h6⟩ := h
  have hsz := hg.size
  rw [cells2_app] at ho
  have eE : ∀ j, j < n → (if j = n then ((A2, n2, c2) : Sv) else E j) = E j := fun j hj => by rw [if_neg (by omega)]
  have eN : (if n = n then ((A2, n2, c2) : Sv) else E n) = (A2, n2, c2) := if_pos rfl
  refine ⟨fun j => if j = n then (A2, n2, c2) else E j, by simp [h1], row_eq ho (cells2_congr fun j hj => ?_), ?_, ?_, ?_, ?_⟩
  · by_cases e : j = n
    · subst e
      have := @tm_app_at ts (xs, x)
      rw [h1] at this
      rw [if_pos rfl]
      show (Value.slice A2 n2 c2, Value.int .i64 x) = (sv (if j = j then ((A2, n2, c2) : Sv) else E j), Value.int .i64 (tm (ts ++ [(xs, x)]) j).2)
      rw [eN, this]; rfl
    · rw [if_neg e]
      show _ = (sv (if j = n then ((A2, n2, c2) : Sv) else E j), Value.int .i64 (tm (ts ++ [(xs, x)]) j).2)
      rw [eE j (by omega), tm_app_lt (by rw [h1]; omega)]
  · intro k hk
    simp [Value.ownBlock] at hk
    omega
  · intro j hj
    by_cases e : j = n
    · subst e
      have := @tm_app_at ts (xs, x)
      rw [h1] at this
      rw [this]
      show Own w' lo w'.heap.size (if j = j then ((A2, n2, c2) : Sv) else E j).1 (if j = j then ((A2, n2, c2) : Sv) else E j).2.1 (if j = j then ((A2, n2, c2) : Sv) else E j).2.2 xs
      rw [eN]
      exact (hx.kept hg (fun b hb e => by have h7 := hx.lt b hb; have h8 := h3 b e; omega)).wide hlo (by omega)
    · rw [tm_app_lt (by rw [h1]; omega)]
      show Own w' lo w'.heap.size (if j = n then ((A2, n2, c2) : Sv) else E j).1 (if j = n then ((A2, n2, c2) : Sv) else E j).2.1 (if j = n then ((A2, n2, c2) : Sv) else E j).2.2 _
      rw [eE j (by omega)]
      exact ((h4 j (by omega)).kept hg (fun b hb e => h5 j b (by omega) hb e)).wide (Nat.le_refl _) (by omega)
  · intro j b hj hb e2
    have hbg : b = g := by simp [Value.ownBlock] at e2; omega
    subst hbg
    have hb' : (sv (if j = n then ((A2, n2, c2) : Sv) else E j)).ownBlock = some b := hb
    by_cases e : j = n
    · subst e
      rw [eN] at hb'
      have h7 := hx.lt b hb'
      rcases hat with ha | ha
      · have := h3 b ha; omega
      · omega
    · rw [eE j (by omega)] at hb'
      rcases hat with ha | ha
      · exact h5 j b (by omega) hb' ha
      · have := (h4 j (by omega)).lt b hb'; omega
  · intro i j b hij hj hb hb2
    have hb' : (sv (if i = n then ((A2, n2, c2) : Sv) else E i)).ownBlock = some b := hb
    have hb2' : (sv (if j = n then ((A2, n2, c2) : Sv) else E j)).ownBlock = some b := hb2
    rw [eE i (by omega)] at hb'
    by_cases e : j = n
    · subst e
      rw [eN] at hb2'
      have h7 := hx.lt b hb2'
      have h8 := (h4 i (by omega)).lt b hb'
      omega
    · rw [eE j (by omega)] at hb2'
      exact h6 i j b hij (by omega) hb' hb2'

/-- 'out = append(out, Term{..})' in a region that draws. -/
theorem step_appendT (w : World) {ops : Array Oper} {o : Oper} {a : Act} {K : Act → World → Prop} {Q : Exit → Act → World → Prop} {E0 : Prop} (hgd : o.guard = none) (s x : Operand)
    (ho : o.op = .call { callee := .builtin .append, args := #[s, x], argTypes := #[24, 24] })
    (lo hi : Nat) (A : Option Addr) (n c : Nat) (ts : List Tm) (lo2 hi2 : Nat) (A3 : Option Addr) (n3 c3 : Nat) (xs : List Int) (z : Int) (nb : Nat) (hs : a.eval s = .slice A n c) (hx : a.eval x = .slice (some ⟨nb, 0, none⟩) 1 1) (hblk : Blk w nb 94 #[.slice A3 n3 c3, .int .i64 z])
    (hown : OwnT w lo hi A n c ts) (hxs : Own w lo2 hi2 A3 n3 c3 xs) (hlo : lo ≤ lo2) (hd : hi ≤ lo2) (h1 : hi2 ≤ w.heap.size) (h2 : hi ≤ w.heap.size) (h3 : lo ≤ w.heap.size) (hn : n ≤ 1099511627776)
    (h : ∀ A' c' w', OwnT w' lo w'.heap.size A' (n + 1) c' (ts ++ [(xs, z)]) → Below lo w w' → K (a.put o.dst (.slice A' (n + 1) c')) w') :
    if Region.wanted o (yielded ops a.tmps) = true then Oper.wp Try.prog o a w K Q else E0 := by
  obtain ⟨i0, hi0, hz0, hz1, hz2⟩ := info_parts Try.infoTermZ
  obtain ⟨E, hE⟩ := hown.named
  refine step_append_lies w hgd s x 24 ho lo 94 i0 _ 2 32 Try.underlying24 hi0 hz0 hz1 hz2 rfl (by decide) _ n _ hs hE.2.1 ⟨nb, 0, none⟩ 1 1 [.slice A3 n3 c3, .int .i64 z] hx rfl
    (World.news_of_block hblk) (by intro u hu; simp at hu; rcases hu with rfl | rfl <;> rfl) (by omega) (by unfold maxLen; omega) (by omega) h3 w.heap.size rfl ?_
  intro g cap w1 ho1 hg1 hat hlt
  exact h _ _ w1 (hE.app z hxs hlo hd (H := w.heap.size) h1 h2 (Nat.le_refl _) ho1 hg1 (hat.imp id (fun h => by omega)) hlt) (grow_below hg1 h3 (fun k hk => (hE.2.1.lt k hk).1))
end Go.Proofs.Ytcoelbfcndeblaa

/-
  The document's polynomials as lists of terms by their keys: opened, and shut again. Conditions: lengths below 2^30, keys below 2^49.
-/



namespace Go.Proofs.Ytcoelbfcndeblaa
open Go.RowKit

/-- The terms of a polynomial by their keys. -/
def openM (ts : List Tm) : List Mn := ts.map fun t => (key7 t.1, t.2)
theorem openM_next {ts : List Tm} {k : Nat} (h : k < ts.length) : openM (ts.take (k + 1)) = openM (ts.take k) ++ [(key7 (tm ts k).1, (tm ts k).2)] := by
  unfold openM; rw [take_tm h]; simp
set_option maxRecDepth 100000 in
set_option maxHeartbeats 1000000 in
theorem l2Open_any (A : Option Addr) (n c : Nat) (ts : List Tm) (w : World) (hs : TS w A n ts) (hn : n ≤ 1000000000) (hg : ∀ k, k < n → (tm ts k).1.length = 7 ∧ smallE (tm ts k).1 = true) :
    Calls Try.prog 87 #[.slice A n c] w fun e w' => FreshM w w' e (openM ts) := by
  have HL := Lib.hid hs.1
  have HGD := Lib.hid hg
  clear hg
  obtain ⟨B, hB⟩ : ∃ B, B = w.heap.size := ⟨_, rfl⟩
  have HB0 : Hid (B = w.heap.size) := Lib.hid hB
  have HO5 : Hid (OwnM (w.alloc (.cells #[] 163)) B (w.alloc (.cells #[] 163)).heap.size (some ⟨B, 0, none⟩) 0 0 []) := Lib.hid (by rw [hB]; simpa using OwnM.empty w)
  have HB5 : Hid (Below B w (w.alloc (.cells #[] 163))) := Lib.hid (by rw [hB]; exact (Below.refl _ _).alloc (Nat.le_refl _) _)
  have HZ5 : Hid (B ≤ (w.alloc (.cells #[] 163)).heap.size) := Lib.hid (by rw [hB]; simp)
  go_enter Try.func87, Try.ntmps87
  go_wp2_with fail
  rw [← hB]
  clear hB
  go_loopw [3, 4] (fun lf k wx => ∃ A5 c5 kk, lf = .slice A5 kk c5 ∧ k = .int .i64 (kk : Nat) ∧ kk ≤ n ∧ OwnM wx B wx.heap.size A5 kk c5 (openM (ts.take kk)) ∧ Below B w wx ∧ B ≤ wx.heap.size)
    (fun _ k _ => n - (intOf k).toNat)
  case atStart => exact ⟨_, 0, 0, rfl, rfl, Nat.zero_le _, by simpa [openM] using HO5.out, HB5.out, HZ5.out⟩
  case round =>
    obtain ⟨A5, c5, k, rfl, rfl, hk, ho5, hb5, hz5⟩ := hrel
    clear HO5 HB5 HZ5
    have HO5 := Lib.hid ho5
    have HB5 := Lib.hid hb5
    have HZ5 := Lib.hid hz5
    have hsr := hs.below hb5 (by rw [← HB0.out]; exact Nat.le_refl _)
    have hs0 := hs
    clear ho5 hb5 hz5 hs
    by_cases hlt : k < n
    · have hltI : (k : Int) < (n : Int) := by omega
      have HNX := Lib.hid (openM_next (ts := ts) (k := k) (by rw [HL.out]; exact hlt))
      have hg := HGD.out k hlt
      obtain ⟨b, o, A2, n2, c2, rfl, hb, hi0, hi1, hsi, hnc, hnil⟩ := hsr.at_ (k := k) hlt
      have hbw : b < B := by
        obtain ⟨b2, o2, _, _, _, e2, hb2, _⟩ := hs0.at_ (k := k) hlt
        simp only [Option.some.injEq, Addr.mk.injEq, and_true] at e2
        rw [HB0.out, e2.1]; exact hb2
      obtain rfl : n2 = 7 := by rw [← hsi.1]; exact hg.1
      obtain ⟨z, hz⟩ : ∃ z, z = key7 (tm ts k).1 := ⟨_, rfl⟩
      obtain ⟨q1, hq1⟩ : ∃ q1, q1 = (tm ts k).2 := ⟨_, rfl⟩
      rw [← hq1] at hi1
      have CA : Calls Try.prog 156 #[.slice A2 7 c2] wr.drew fun e w3 => e = .returned (.int .i64 z) ∧ (w3.cell? ⟨b, o + k * 2, none⟩ = some (.slice A2 7 c2) ∧ w3.cell? ⟨b, o + k * 2 + 1, none⟩ = some (.int .i64 q1)) ∧ Hid (OwnM w3 B w3.heap.size A5 k c5 (openM (ts.take k))) ∧ Hid (Below B w w3) ∧ Hid (B ≤ w3.heap.size) := by
        refine (l2Key_any A2 c2 (tm ts k).1 wr.drew (hsi.drewN 1) hg.2).mono ?_
        rintro e w3 ⟨rfl, m, rfl⟩
        exact ⟨by rw [hz], ⟨hi0, hi1⟩, Lib.hid (HO5.out.drawn ⟨1 + m, by rw [← World.drewN_drewN]; rfl⟩), Lib.hid ((HB5.out.drawnN 1).drawnN m), Lib.hid HZ5.out⟩
      have HPQ : Hid ((key7 (tm ts k).1, (tm ts k).2) = (z, q1)) := Lib.hid (by rw [hz, hq1])
      have HCA := Lib.hid CA
      have HK : Hid (b < B) := Lib.hid hbw
      clear hsr hs0 hq1 hb CA hz hbw hg hsi hnil
      go_wp2_with fail
      go_region_held3 (fun w' => w'.cell? ⟨b, o + k * 2, none⟩ = some (.slice A2 7 c2) ∧ w'.cell? ⟨b, o + k * 2 + 1, none⟩ = some (.int .i64 q1))
        (first | go_keep | exact K3 | exact K5)
        (first
          | (go_at_call 156
             with_reducible refine HCA.out.mono ?_
             rintro r3 w3 ⟨rfl, K3, HO3, HB3, HZ3⟩)
          | (refine step_appendM _ (by rfl) (.tmp 12) (.tmp 25) (by rfl) B w3.heap.size A5 k c5 (openM (ts.take k)) z q1 w3.heap.size (by rfl) (by rfl) (Blk.new w3 _ _) (HO3.out.below ((Below.refl w3.heap.size w3).alloc (Nat.le_refl _) _) (Nat.le_refl _)) (by have := HZ3.out; simp; omega) (by omega) ?_
             intro A6 c6 w6 ho6 hb6
             have K5 : w6.cell? ⟨b, o + k * 2, none⟩ = some (.slice A2 7 c2) ∧ w6.cell? ⟨b, o + k * 2 + 1, none⟩ = some (.int .i64 q1) := by
               have g3 := ((Below.refl B w3).alloc HZ3.out (.cells #[.int .i64 z, .int .i64 q1] 163)).trans hb6
               exact ⟨(Below.cell g3 (p := ⟨b, o + k * 2, none⟩) HK.out).trans K3.1, (Below.cell g3 (p := ⟨b, o + k * 2 + 1, none⟩) HK.out).trans K3.2⟩
             have HO6 := Lib.hid ho6
             have HB6 : Hid (Below B w w6) := Lib.hid ((HB3.out.alloc HZ3.out _).trans hb6)
             have HZ6 : Hid (B ≤ w6.heap.size) := Lib.hid (Nat.le_trans HZ3.out (Nat.le_trans (by simp) hb6.size))
             clear ho6 hb6))
      go_wp2
      go_roundw
      case rel => exact ⟨A6, c6, k + 1, rfl, by go_num, by omega, by rw [HNX.out, HPQ.out]; exact HO6.out, HB6.out, HZ6.out⟩
      case measure => simp [intOf]; omega
    · have hkn : k = n := by omega
      subst hkn
      have HOL : Hid (OwnM wr B wr.heap.size A5 k c5 (openM ts)) := Lib.hid (by have := HO5.out; rwa [List.take_of_length_le (by rw [HL.out]; omega)] at this)
      go_wp2
      go_ret
      exact ⟨A5, k, c5, rfl, by rw [← HB0.out]; exact HOL.out, by rw [← HB0.out]; exact HB5.out⟩

/-- The first i exponents that a key holds. -/
def digN (x : Int) (i : Nat) : List Int := (List.range i).map fun j => x / unitI j % 128
theorem digN_next (x : Int) (i : Nat) : digN x (i + 1) = digN x i ++ [x / unitI i % 128] := by unfold digN; rw [List.range_succ, List.map_append]; rfl
theorem unitI_next (x : Int) (i : Nat) : x / unitI i / 128 = x / unitI (i + 1) := by
  unfold unitI
  rw [Int.pow_succ, Int.ediv_ediv_of_nonneg (Int.pow_nonneg (by omega))]
theorem dig_pos {x : Int} (h : 0 ≤ x) (i : Nat) : 0 ≤ x / unitI i ∧ x / unitI i ≤ x := by
  have h1 : (0 : Int) ≤ unitI i := by unfold unitI; exact Int.pow_nonneg (by omega)
  exact ⟨Int.ediv_nonneg h h1, Int.ediv_le_self _ h⟩
set_option maxRecDepth 100000 in
set_option maxHeartbeats 400000 in
theorem l2Exp_any (x : Int) (w : World) (h : in49 x) : Calls Try.prog 157 #[.int .i64 x] w fun e w' => Fresh w w' e (digN x 7) := by
  obtain ⟨h0, h1⟩ := h
  obtain ⟨B, hB⟩ : ∃ B, B = w.heap.size := ⟨_, rfl⟩
  have HB0 : Hid (B = w.heap.size) := Lib.hid hB
  have HO5 : Hid (Own (w.alloc (.cells #[] 3)) B (w.alloc (.cells #[] 3)).heap.size (some ⟨B, 0, none⟩) 0 0 []) := Lib.hid (by rw [hB]; simpa using Own.empty w)
  have HB5 : Hid (Below B w (w.alloc (.cells #[] 3))) := Lib.hid (by rw [hB]; exact (Below.refl _ _).alloc (Nat.le_refl _) _)
  have HZ5 : Hid (B ≤ (w.alloc (.cells #[] 3)).heap.size) := Lib.hid (by rw [hB]; simp)
  go_enter Try.func157, Try.ntmps157
  go_wp2_with fail
  rw [← hB]
  clear hB
  go_loopw [0, 3, 4] (fun kv lf i wx => ∃ A5 c5 j, kv = .int .i64 (x / unitI j) ∧ lf = .slice A5 j c5 ∧ i = .int .i64 (j : Nat) ∧ j ≤ 7 ∧ Own wx B wx.heap.size A5 j c5 (digN x j) ∧ Below B w wx ∧ B ≤ wx.heap.size)
    (fun _ _ i _ => 7 - (intOf i).toNat)
  case atStart => exact ⟨_, 0, 0, by simp [unitI], rfl, rfl, by omega, by simpa [digN] using HO5.out, HB5.out, HZ5.out⟩
  case round =>
    obtain ⟨A5, c5, j, rfl, rfl, rfl, hj, ho5, hb5, hz5⟩ := hrel
    clear HO5 HB5 HZ5
    have HO5 := Lib.hid ho5
    have HB5 := Lib.hid hb5
    have HZ5 := Lib.hid hz5
    clear ho5 hb5 hz5
    by_cases hlt : j < 7
    · have hltI : (j : Int) < 7 := by omega
      have HNX := Lib.hid (digN_next x j)
      have hy := dig_pos h0 j
      have HN := Lib.hid (unitI_next x j)
      obtain ⟨y, hyy⟩ : ∃ y, y = x / unitI j := ⟨_, rfl⟩
      rw [← hyy] at hy HN HNX ⊢
      have hy1 : y < 562949953421312 := by omega
      have hy0 := hy.1
      have HYY := Lib.hid hyy
      have ht1 : Int.tmod y 128 = y % 128 := Int.tmod_eq_emod_of_nonneg hy0
      have ht2 : Int.tdiv y 128 = y / 128 := Int.tdiv_eq_ediv_of_nonneg hy0
      have hw1 : IntKind.i64.wrap (y / 128) = y / 128 := IntWalk.i64_in _ (by omega)
      have hw2 : IntKind.i64.wrap (y % 128) = y % 128 := IntWalk.i64_in _ (by omega)
      clear hy hyy
      go_wp2_with (at_builtin; refine wpList_append1 rfl (.tmp 10) (.tmp 13) rfl B A5 j c5 (digN x j) (y % 128) rfl rfl HO5.out HZ5.out (by omega) ?_; intro A6 c6 w6 ho6 hg6 hb6; have HO6 := Lib.hid ho6; have HB6 := Lib.hid hb6; clear ho6 hb6 hg6)
      go_roundw
      case rel => exact ⟨A6, c6, j + 1, by rw [← HN.out], rfl, by go_num, by omega, by rw [HNX.out]; exact HO6.out, HB5.out.trans HB6.out, Nat.le_trans HZ5.out HB6.out.size⟩
      case measure => simp [intOf]; omega
    · have hj7 : j = 7 := by omega
      subst hj7
      go_wp2
      go_ret
      exact ⟨A5, 7, c5, rfl, by rw [← HB0.out]; exact HO5.out, by rw [← HB0.out]; exact HB5.out⟩

/-- The terms that keys stand for. -/
def termsK (l : List Mn) : List Tm := l.map fun t => (digN t.1 7, t.2)
/-- .. where they are a polynomial. -/
def shutL (l : List Mn) : List Tm := if polyB (termsK l) = true then termsK l else []
theorem termsK_next {l : List Mn} {k : Nat} (h : k < l.length) : termsK (l.take (k + 1)) = termsK (l.take k) ++ [(digN (ce l k).1 7, (ce l k).2)] := by
  unfold termsK; rw [take_ce h]; simp
theorem digN_len (x : Int) (i : Nat) : (digN x i).length = i := by simp [digN]
theorem termsK_exp {l : List Mn} {k : Nat} (h : k < (termsK l).length) : (tm (termsK l) k).1.length = 7 := by
  unfold tm termsK at *
  simp at h
  simp [List.getD, h, digN_len]
set_option maxRecDepth 100000 in
set_option maxHeartbeats 1000000 in
theorem l2Shut_any (A : Option Addr) (n c : Nat) (l : List Mn) (w : World) (hs : MS w A n l) (hn : n ≤ 1000000000) (h49 : ∀ t ∈ l, in49 t.1) :
    Calls Try.prog 85 #[.slice A n c] w fun e w' => ∃ A' n' c', e = .returned (.tuple #[.slice A' n' c', .bool (polyB (termsK l))]) ∧ OwnT w' w.heap.size w'.heap.size A' n' c' (shutL l) ∧ Below w.heap.size w w' := by
  have HL := Lib.hid hs.1
  have H49 := Lib.hid h49
  clear h49
  by_cases hbig : 600 < n
  · have hP : polyB (termsK l) = false := polyB_big (by unfold termsK; rw [List.length_map, HL.out]; exact hbig)
    have HS : Hid (shutL l = []) := Lib.hid (by unfold shutL; rw [hP]; rfl)
    have hbI : (600 : Int) < (n : Int) := by omega
    have HP := Lib.hid hP
    clear hP
    go_enter Try.func85, Try.ntmps85
    go_wp2
    go_ret2
    rw [HP.out, HS.out]
    exact ⟨none, 0, 0, rfl, OwnT.nil _ _ _, Below.refl _ _⟩
  · obtain ⟨B, hB⟩ : ∃ B, B = w.heap.size := ⟨_, rfl⟩
    have HB0 : Hid (B = w.heap.size) := Lib.hid hB
    have HO5 : Hid (OwnT (w.alloc (.cells #[] 94)) B (w.alloc (.cells #[] 94)).heap.size (some ⟨B, 0, none⟩) 0 0 []) := Lib.hid (by rw [hB]; simpa using OwnT.empty w)
    have HB5 : Hid (Below B w (w.alloc (.cells #[] 94))) := Lib.hid (by rw [hB]; exact (Below.refl _ _).alloc (Nat.le_refl _) _)
    have HZ5 : Hid (B ≤ (w.alloc (.cells #[] 94)).heap.size) := Lib.hid (by rw [hB]; simp)
    have hbI : ¬ (600 : Int) < (n : Int) := by omega
    go_enter Try.func85, Try.ntmps85
    go_wp2_with fail
    rw [← hB]
    clear hB
    go_loopw [4, 5] (fun lf k wx => ∃ A5 c5 kk, lf = .slice A5 kk c5 ∧ k = .int .i64 (kk : Nat) ∧ kk ≤ n ∧ OwnT wx B wx.heap.size A5 kk c5 (termsK (l.take kk)) ∧ Below B w wx ∧ B ≤ wx.heap.size)
      (fun _ k _ => n - (intOf k).toNat)
    case atStart => exact ⟨_, 0, 0, rfl, rfl, Nat.zero_le _, by simpa [termsK] using HO5.out, HB5.out, HZ5.out⟩
    case round =>
      obtain ⟨A5, c5, k, rfl, rfl, hk, ho5, hb5, hz5⟩ := hrel
      clear HO5 HB5 HZ5
      have HO5 := Lib.hid ho5
      have HB5 := Lib.hid hb5
      have HZ5 := Lib.hid hz5
      have hsr := hs.below hb5 (by rw [← HB0.out]; exact Nat.le_refl _)
      have hs0 := hs
      clear ho5 hb5 hz5 hs
      by_cases hlt : k < n
      · have hltI : (k : Int) < (n : Int) := by omega
        have HNX := Lib.hid (termsK_next (l := l) (k := k) (by rw [HL.out]; exact hlt))
        have h49 := H49.out _ (ce_mem (l := l) (k := k) (by rw [HL.out]; exact hlt))
        obtain ⟨b, o, rfl, hb, hi0, hi1⟩ := hsr.at_ (k := k) hlt
        have hbw : b < B := by
          obtain ⟨b2, o2, e2, hb2, _⟩ := hs0.at_ (k := k) hlt
          simp only [Option.some.injEq, Addr.mk.injEq, and_true] at e2
          rw [HB0.out, e2.1]; exact hb2
        obtain ⟨p1, hp1⟩ : ∃ p1, p1 = (ce l k).1 := ⟨_, rfl⟩
        obtain ⟨q1, hq1⟩ : ∃ q1, q1 = (ce l k).2 := ⟨_, rfl⟩
        rw [← hp1] at hi0 h49
        rw [← hq1] at hi1
        have HPQ : Hid ((digN (ce l k).1 7, (ce l k).2) = (digN p1 7, q1)) := Lib.hid (by rw [hp1, hq1])
        have CA : Calls Try.prog 157 #[.int .i64 p1] wr.drew fun e w3 => ∃ A3 c3, e = .returned (.slice A3 7 c3) ∧ (w3.cell? ⟨b, o + k * 2, none⟩ = some (.int .i64 p1) ∧ w3.cell? ⟨b, o + k * 2 + 1, none⟩ = some (.int .i64 q1)) ∧ Hid (OwnT w3 B wr.heap.size A5 k c5 (termsK (l.take k))) ∧ Hid (Own w3 wr.heap.size w3.heap.size A3 7 c3 (digN p1 7)) ∧ Hid (Below B w w3) ∧ Hid (wr.heap.size ≤ w3.heap.size) := by
          refine (l2Exp_any p1 wr.drew h49).mono ?_
          rintro e w3 ⟨A3, n3, c3, rfl, ho3, hb3⟩
          obtain rfl : 7 = n3 := by have := ho3.len; rw [digN_len] at this; exact this
          have hb3' : Below wr.heap.size wr w3 := (Below.refl wr.heap.size wr).drew.trans hb3
          exact ⟨A3, c3, rfl, ⟨(Below.cell hb3' (p := ⟨b, o + k * 2, none⟩) hb).trans hi0, (Below.cell hb3' (p := ⟨b, o + k * 2 + 1, none⟩) hb).trans hi1⟩, Lib.hid (HO5.out.below hb3' (Nat.le_refl _)), Lib.hid ho3, Lib.hid (HB5.out.trans (hb3'.mono HZ5.out)), Lib.hid hb3'.size⟩
        have HCA := Lib.hid CA
        have HK : Hid (b < B) := Lib.hid hbw
        clear hsr hs0 hp1 hq1 hb h49 CA hbw
        go_wp2_with fail
        go_region_held3 (fun w' => w'.cell? ⟨b, o + k * 2, none⟩ = some (.int .i64 p1) ∧ w'.cell? ⟨b, o + k * 2 + 1, none⟩ = some (.int .i64 q1))
          (first | go_keep | exact K3 | exact K5)
          (first
            | (refine step_appendT _ (by rfl) (.tmp 16) (.tmp 29) (by rfl) B wr.heap.size A5 k c5 (termsK (l.take k)) wr.heap.size w3.heap.size A3 7 c3 (digN p1 7) q1 w3.heap.size (by rfl) (by rfl) (Blk.new w3 _ _)
                 (HO3.out.below ((Below.refl w3.heap.size w3).alloc (Nat.le_refl _) _) HZ3.out) (HE3.out.below ((Below.refl w3.heap.size w3).alloc (Nat.le_refl _) _) (Nat.le_refl _)) HZ5.out (Nat.le_refl _) (by simp) (by have := HZ3.out; simp; omega) (by have := HZ3.out; have := HZ5.out; simp; omega) (by omega) ?_
               intro A6 c6 w6 ho6 hb6
               have hz3 : B ≤ w3.heap.size := Nat.le_trans HZ5.out HZ3.out
               have K5 : w6.cell? ⟨b, o + k * 2, none⟩ = some (.int .i64 p1) ∧ w6.cell? ⟨b, o + k * 2 + 1, none⟩ = some (.int .i64 q1) := by
                 have g3 := ((Below.refl B w3).alloc hz3 (.cells #[.slice A3 7 c3, .int .i64 q1] 94)).trans hb6
                 exact ⟨(Below.cell g3 (p := ⟨b, o + k * 2, none⟩) HK.out).trans K3.1, (Below.cell g3 (p := ⟨b, o + k * 2 + 1, none⟩) HK.out).trans K3.2⟩
               have HO6 := Lib.hid ho6
               have HB6 : Hid (Below B w w6) := Lib.hid ((HB3.out.alloc hz3 _).trans hb6)
               have HZ6 : Hid (B ≤ w6.heap.size) := Lib.hid (Nat.le_trans hz3 (Nat.le_trans (by simp) hb6.size))
               clear ho6 hb6 hz3)
            | (go_at_call 157
               with_reducible refine HCA.out.mono ?_
               rintro r3 w3 ⟨A3, c3, rfl, K3, HO3, HE3, HB3, HZ3⟩))
        go_wp2
        go_roundw
        case rel => exact ⟨A6, c6, k + 1, rfl, by go_num, by omega, by rw [HNX.out, HPQ.out]; exact HO6.out, HB6.out, HZ6.out⟩
        case measure => simp [intOf]; omega
      · have hkn : k = n := by omega
        subst hkn
        have HOL : Hid (OwnT wr B wr.heap.size A5 k c5 (termsK l)) := Lib.hid (by have := HO5.out; rwa [List.take_of_length_le (by rw [HL.out]; omega)] at this)
        have hP := specPolyOk_any A5 k c5 (termsK l) wr HOL.out.si (by omega) (fun j hj => by rw [termsK_exp (by rw [HOL.out.len]; exact hj)]; omega)
        obtain ⟨q, hq⟩ : ∃ q, q = polyB (termsK l) := ⟨_, rfl⟩
        rw [← hq] at hP
        have HQ := Lib.hid hq
        have HP := Lib.hid hP
        have HST : Hid (q = true → shutL l = termsK l) := Lib.hid (fun h => by unfold shutL; rw [← hq, if_pos h])
        have HSF : Hid (q = false → shutL l = []) := Lib.hid (fun h => by unfold shutL; rw [← hq, h]; rfl)
        clear hP hq
        cases q with
        | true =>
          go_wp2_with (go_at_call 84; refine HP.out.mono ?_; rintro e w7 ⟨rfl, hd7⟩; have HD7 := Lib.hid hd7; clear hd7)
          go_ret2
          rw [HST.out (by simp), ← HQ.out]
          refine ⟨A5, k, c5, rfl, ?_, by rw [← HB0.out]; exact HB5.out.trans (HD7.out.below _)⟩
          rw [← HB0.out]
          have := HOL.out.drawn HD7.out
          rwa [show w7.heap.size = wr.heap.size by rw [HD7.out.heap]]
        | false =>
          go_wp2_with (go_at_call 84; refine HP.out.mono ?_; rintro e w7 ⟨rfl, hd7⟩; have HD7 := Lib.hid hd7; clear hd7)
          go_ret2
          rw [HSF.out (by simp), ← HQ.out]
          exact ⟨none, 0, 0, rfl, OwnT.nil _ _ _, by rw [← HB0.out]; exact HB5.out.trans (HD7.out.below _)⟩
end Go.Proofs.Ytcoelbfcndeblaa

/-
  Variables exchanged, the document's side; the one list of terms with given coefficients. Conditions: lengths below 2^40.
-/

namespace Go.Proofs.Ytcoelbfcndeblaa
open Go.RowKit

theorem gatherL_keys : ∀ (l : List Mn) (u : Mn), u ∈ gatherL l → ∃ v ∈ l, u.1 = v.1
  | [], u, h => by simp [gatherL] at h
  | t :: l, u, h => by
    rcases addM_keys t (gatherL l) u h with e | ⟨x, hx, e⟩
    · exact ⟨t, List.mem_cons_self, e⟩
    · obtain ⟨v, hv, e2⟩ := gatherL_keys l x hx
      exact ⟨v, List.mem_cons_of_mem _ hv, e.trans e2⟩
theorem addM_len (t : Mn) : ∀ g : List Mn, (addM t g).length ≤ g.length + 1
  | [] => by unfold addM; split <;> simp
  | u :: g => by
    unfold addM
    split
    · split <;> simp
    · split
      · split <;> simp <;> omega
      · have := addM_len t g; simp; omega
theorem gatherL_len : ∀ l : List Mn, (gatherL l).length ≤ l.length
  | [] => by simp [gatherL]
  | t :: l => by have := gatherL_len l; have := addM_len t (gatherL l); show (addM t (gatherL l)).length ≤ _; simp; omega
theorem digN_nth (x : Int) {i j : Nat} (h : j < i) : nth (digN x i) j = x / unitI j % 128 := by
  rw [nth_get (by rw [digN_len]; exact h)]
  simp [digN]
theorem digN_key {e : List Int} (h : ex7 e) : digN (key7 e) 7 = e := by
  apply List.ext_getElem (by rw [digN_len, h.1])
  intro j h1 h2
  rw [← nth_get, ← nth_get]
  rw [digN_len] at h1
  rw [digN_nth _ h1, key7_at h h1]
theorem termsK_open {us : List Tm} (h : ∀ u ∈ us, ex7 u.1) : termsK (openM us) = us := by
  unfold termsK openM
  rw [List.map_map]
  conv => rhs; rw [← List.map_id us]
  apply List.map_congr_left
  intro u hu
  show (digN (key7 u.1) 7, u.2) = u
  rw [digN_key (h u hu)]
/-- Terms in descending order, none 0, with the coefficients of l: there is one such list. -/
theorem gather_open {us : List Tm} {l : List Mn} (hs : us.Pairwise fun a b => key7 b.1 < key7 a.1) (hc : ∀ u ∈ us, u.2 ≠ 0 ∧ in64 u.2) (hcf : ∀ k, eqm (cfL (openM us) k) (cfL l k)) : gatherL l = openM us := by
  refine (gatherL_one ⟨?_, fun t ht => ?_⟩ hcf).symm
  · unfold openM; rw [List.pairwise_map]; exact hs
  · unfold openM at ht
    obtain ⟨u, hu, rfl⟩ := List.mem_map.1 ht
    exact hc u hu
theorem shut_open {us : List Tm} (h : ∀ u ∈ us, ex7 u.1) : shutL (openM us) = if polyB us = true then us else [] := by unfold shutL; rw [termsK_open h]
theorem tm_mem {ts : List Tm} {k : Nat} (h : k < ts.length) : tm ts k ∈ ts := by
  unfold tm; simp [List.getD, h]
theorem mem_tm {ts : List Tm} {u : Tm} (h : u ∈ ts) : ∃ k, k < ts.length ∧ u = tm ts k := by
  obtain ⟨k, hk, e⟩ := List.mem_iff_getElem.1 h
  exact ⟨k, hk, by unfold tm; simp [List.getD, hk, e]⟩
theorem polyB_ex7 {ts : List Tm} (h : polyB ts = true) : ∀ u ∈ ts, ex7 u.1 := fun u hu => by
  obtain ⟨k, hk, rfl⟩ := mem_tm hu
  have := (goodT_iff _).1 (polyB_good h hk)
  exact smallE_ex7 this.1 this.2.1
theorem polyB_good' {ts : List Tm} (h : polyB ts = true) : ∀ u ∈ ts, goodT u = true := fun u hu => by
  obtain ⟨k, hk, rfl⟩ := mem_tm hu
  exact polyB_good h hk
theorem good_in64 {u : Tm} (h : goodT u = true) : u.2 ≠ 0 ∧ in64 u.2 := by
  have := (goodT_iff _).1 h
  refine ⟨this.2.2.1, ?_⟩
  unfold in64; omega
theorem polyB_desc {ts : List Tm} (h : polyB ts = true) : ts.Pairwise fun a b => key7 b.1 < key7 a.1 := by
  have step : ∀ k, k + 1 < ts.length → key7 (tm ts (k + 1)).1 < key7 (tm ts k).1 := fun k hk => by
    have := polyB_ok h hk
    simp [okAt] at this
    exact this.2
  have all : ∀ d i, i + d + 1 < ts.length → key7 (tm ts (i + d + 1)).1 < key7 (tm ts i).1 := by
    intro d
    induction d with
    | zero => intro i hi; exact step i hi
    | succ d ih => intro i hi; have h1 := ih i (by omega); have h2 := step (i + d + 1) (by omega); rw [show i + (d + 1) + 1 = i + d + 1 + 1 by omega]; omega
  rw [List.pairwise_iff_getElem]
  intro i j hi hj hij
  have := all (j - i - 1) i (by omega)
  rw [show i + (j - i - 1) + 1 = j by omega] at this
  have e : ∀ k (hk : k < ts.length), tm ts k = ts[k] := fun k hk => by unfold tm; simp [List.getD, hk]
  rwa [e j hj, e i hi] at this
theorem polyB_of {ts : List Tm} (hl : ts.length ≤ 600) (hg : ∀ u ∈ ts, goodT u = true) (hd : ts.Pairwise fun a b => key7 b.1 < key7 a.1) : polyB ts = true := by
  refine polyB_all hl fun k hk => ?_
  have e : ∀ k (hk : k < ts.length), tm ts k = ts[k] := fun k hk => by unfold tm; simp [List.getD, hk]
  have hgk := hg _ (tm_mem hk)
  cases k with
  | zero => exact okAt_zero hgk
  | succ k =>
    refine okAt_step hgk ?_
    rw [List.pairwise_iff_getElem] at hd
    have := hd k (k + 1) (by omega) hk (by omega)
    rw [e _ hk]
    show _ < key7 (tm ts k).1
    rw [e k (by omega)]
    exact this

/-- The polynomial with two variables, one behind the other, exchanged. -/
def swapPoly (ts : List Tm) (i : Int) : List Tm := if polyB ts = true ∧ 0 ≤ i ∧ i ≤ 5 then shutL (gatherL ((openM ts).map fun t => (swK t.1 i.toNat, t.2))) else []
theorem swapPoly_no {ts : List Tm} {i : Int} (h : ¬ (polyB ts = true ∧ 0 ≤ i ∧ i ≤ 5)) : swapPoly ts i = [] := by unfold swapPoly; rw [if_neg h]
theorem swapPoly_yes {ts : List Tm} {i : Nat} (h : polyB ts = true) (hi : i ≤ 5) : swapPoly ts i = shutL (gatherL ((openM ts).map fun t => (swK t.1 i, t.2))) := by
  unfold swapPoly; rw [if_pos ⟨h, by omega, by omega⟩, Int.toNat_natCast]
/-- A term with two exponents, one beside the other, exchanged. -/
def swE (e : List Int) (i : Nat) : List Int := putE e i (nth e (i + 1)) (nth e i)
theorem swK_key {e : List Int} (h : ex7 e) {i : Nat} (hi : i < 6) : swK (key7 e) i = key7 (swE e i) := by
  unfold swK swE
  rw [putE_key h.1 hi, key7_at h (by omega), key7_at h (by omega), Int.sub_mul, Int.sub_mul]
  omega
theorem swE_ex7 {e : List Int} (h : ex7 e) {i : Nat} (hi : i < 6) : ex7 (swE e i) := putE_ex7 h hi (h.2 _ (by omega)) (h.2 _ (by omega))
theorem open_in49 {ts : List Tm} (h : ∀ u ∈ ts, ex7 u.1) : ∀ t ∈ openM ts, in49 t.1 := fun t ht => by
  unfold openM at ht
  obtain ⟨u, hu, rfl⟩ := List.mem_map.1 ht
  exact key7_range (h u hu)
theorem open_in64 {ts : List Tm} (h : ∀ u ∈ ts, in64 u.2) : ∀ t ∈ openM ts, in64 t.2 := fun t ht => by
  unfold openM at ht
  obtain ⟨u, hu, rfl⟩ := List.mem_map.1 ht
  exact h u hu
/-- The same terms, each with its exponents exchanged. -/
def swT (ts : List Tm) (i : Nat) : List Tm := ts.map fun t => (swE t.1 i, t.2)
theorem open_swT {ts : List Tm} (h : ∀ u ∈ ts, ex7 u.1) {i : Nat} (hi : i < 6) : ((openM ts).map fun t => (swK t.1 i, t.2)) = openM (swT ts i) := by
  unfold openM swT
  rw [List.map_map, List.map_map]
  apply List.map_congr_left
  intro u hu
  show (swK (key7 u.1) i, u.2) = (key7 (swE u.1 i), u.2)
  rw [swK_key (h u hu) hi]
theorem swT_ex7 {ts : List Tm} (h : ∀ u ∈ ts, ex7 u.1) {i : Nat} (hi : i < 6) : ∀ u ∈ swT ts i, ex7 u.1 := fun u hu => by
  unfold swT at hu
  obtain ⟨t, ht, rfl⟩ := List.mem_map.1 hu
  exact swE_ex7 (h t ht) hi

set_option maxHeartbeats 400000 in
theorem l2Variable_any (i : Int) (w : World) : Calls Try.prog 88 #[.int .i64 i] w fun e w' => e = .returned (.bool (decide (0 ≤ i ∧ i ≤ 5))) ∧ w = w' := by
  by_cases h : 0 ≤ i ∧ i ≤ 5
  · rw [decide_eq_true h]
    obtain ⟨h0, h1⟩ := h
    go_enter Try.func88, Try.ntmps88
    go_wp2_with (go_at_call 104; refine (l1In_yes' h0 h1 _).mono ?_; rintro e w1 ⟨rfl, rfl⟩)
    go_ret
    exact ⟨rfl, rfl⟩
  · rw [decide_eq_false h]
    go_enter Try.func88, Try.ntmps88
    go_wp2_with (go_at_call 104; refine (l1In_no' (by omega) _).mono ?_; rintro e w1 ⟨rfl, rfl⟩)
    go_ret
    exact ⟨rfl, rfl⟩
end Go.Proofs.Ytcoelbfcndeblaa

/-
  Maps from exponents to coefficients: what they hold, a coefficient read, one put. Conditions: exponents from 0 to 127.
-/



namespace Go.Proofs.Ytcoelbfcndeblaa
open Go.RowKit
open Go.ChangeMaps (setBlock heap_setBlock_same heap_setBlock_other)
open Go.MapKept (Stamped stamped_iff)

/-- The coefficient that a list of terms, a term for each exponents, has. -/
def cfT : List Tm → List Int → Int
  | [], _ => 0
  | t :: M, e => if t.1 = e then t.2 else cfT M e
/-- .. with another coefficient at some exponents. -/
def putT : List Tm → List Int → Int → List Tm
  | [], e, x => [(e, x)]
  | t :: M, e, x => if t.1 = e then (e, x) :: M else t :: putT M e x
theorem putT_twice (e : List Int) (x y : Int) : ∀ M : List Tm, putT (putT M e x) e y = putT M e y
  | [] => if_pos rfl
  | t :: M => by
    by_cases h : t.1 = e
    · rw [show putT (t :: M) e x = (e, x) :: M from if_pos h, show putT (t :: M) e y = (e, y) :: M from if_pos h]
      exact if_pos rfl
    · rw [show putT (t :: M) e x = t :: putT M e x from if_neg h, show putT (t :: M) e y = t :: putT M e y from if_neg h, show putT (t :: putT M e x) e y = t :: putT (putT M e x) e y from if_neg h, putT_twice e x y M]
theorem putT_new {e : List Int} (x : Int) : ∀ {M : List Tm}, (∀ t ∈ M, t.1 ≠ e) → putT M e x = M ++ [(e, x)] ∧ cfT M e = 0
  | [], _ => ⟨rfl, rfl⟩
  | t :: M, h => by
    have ih := putT_new x (M := M) (fun u hu => h u (List.mem_cons_of_mem _ hu))
    unfold putT cfT
    rw [if_neg (h t List.mem_cons_self), if_neg (h t List.mem_cons_self), ih.1, ih.2]
    exact ⟨rfl, rfl⟩
theorem putT_old {e : List Int} (x : Int) : ∀ {M : List Tm} {j : Nat} {t : Tm}, (M.map (·.1)).Nodup → M[j]? = some t → t.1 = e → putT M e x = M.set j (e, x) ∧ cfT M e = t.2
  | [], j, t, _, h, _ => by simp at h
  | u :: M, 0, t, _, h, he => by
    simp at h; subst h
    unfold putT cfT
    rw [if_pos he, if_pos he]
    exact ⟨rfl, rfl⟩
  | u :: M, j + 1, t, hn, h, he => by
    simp at h
    obtain ⟨n1, n2⟩ := List.nodup_cons.1 hn
    have hne : ¬ u.1 = e := fun h2 => n1 (List.mem_map.2 ⟨t, List.mem_of_getElem? h, he.trans h2.symm⟩)
    have ih := putT_old x n2 h he
    unfold putT cfT
    rw [if_neg hne, if_neg hne, ih.1, ih.2]
    exact ⟨rfl, rfl⟩
theorem putT_cf {e : List Int} (x : Int) (k : Int) : ∀ M : List Tm, cfL (openM (putT M e x)) k = cfL (openM M) k + (if key7 e = k then x - cfT M e else 0)
  | [] => by
    show (if key7 e = k then x else 0) + 0 = 0 + (if key7 e = k then x - 0 else 0)
    split <;> omega
  | t :: M => by
    have ih := putT_cf (e := e) x k M
    unfold putT cfT
    split
    · rename_i h
      show (if key7 e = k then x else 0) + cfL (openM M) k = ((if key7 t.1 = k then t.2 else 0) + cfL (openM M) k) + (if key7 e = k then x - t.2 else 0)
      rw [h]
      split <;> omega
    · show (if key7 t.1 = k then t.2 else 0) + cfL (openM (putT M e x)) k = ((if key7 t.1 = k then t.2 else 0) + cfL (openM M) k) + _
      rw [ih]; omega
theorem putT_mem {e : List Int} {x : Int} : ∀ {M : List Tm} {t : Tm}, t ∈ putT M e x → t = (e, x) ∨ t ∈ M
  | [], t, h => by simp [putT] at h; exact .inl h
  | u :: M, t, h => by
    unfold putT at h
    split at h
    · rcases List.mem_cons.1 h with h | h
      · exact .inl h
      · exact .inr (List.mem_cons_of_mem _ h)
    · rcases List.mem_cons.1 h with h | h
      · exact .inr (by rw [h]; exact List.mem_cons_self)
      · rcases putT_mem h with h | h
        · exact .inl h
        · exact .inr (List.mem_cons_of_mem _ h)
theorem putT_len {e : List Int} {x : Int} : ∀ M : List Tm, (putT M e x).length ≤ M.length + 1
  | [] => by simp [putT]
  | t :: M => by
    unfold putT
    split
    · simp
    · have := putT_len (e := e) (x := x) M; simp; omega
theorem cfT_in {e : List Int} : ∀ {M : List Tm}, (∀ t ∈ M, in64 t.2) → in64 (cfT M e)
  | [], _ => by unfold cfT in64; omega
  | t :: M, h => by
    unfold cfT
    split
    · exact h t List.mem_cons_self
    · exact cfT_in fun u hu => h u (List.mem_cons_of_mem _ hu)

/-! ### keys -/
theorem Try.laidOut : laidOutB Try.prog = true := by kernel_rfl
theorem Try.rowExp : (156 : TypeId) < Try.prog.types.size := of_decide_eq_true (by kernel_rfl)
theorem Try.wideExp : (match Try.prog.underlying 156 with | some (.array _ _) | some (.struct _) => true | _ => false) = true := by rw [Try.undExp]
set_option maxRecDepth 100000 in
theorem Try.keyExp : Maps.Keyed Try.prog 156 := Maps.Keyed.of_law (deep_law_laid Try.laidOut (m := 2) (by omega) Try.rowExp (by kernel_rfl) Try.wideExp)
theorem Try.cellsExp : Try.prog.cellsOf 156 = 7 := by kernel_rfl
theorem Try.cellsInt : Try.prog.cellsOf 3 = 1 := by kernel_rfl
theorem Try.keyTExp : Try.prog.keyType 156 = true := by kernel_rfl
theorem Try.zeroInt (w : World) : (zeroValue 3).run Try.prog w = .ok (.int .i64 0) w := by kernel_rfl
theorem keyLits_int {d : Nat} {x : Int} (h : in64 x) : Try.prog.keyLits (d + 1) 3 [.int .i64 x] = some [.int .i64 x] := by
  unfold Program.keyLits
  rw [Try.underlying3]
  simp [WalkArith.wf_i64 h]
theorem keyLits_exp {d : Nat} {e : List Int} (h : ∀ k, k < 7 → in64 (nth e k)) : ∃ ls, Try.prog.keyLits (d + 2) 156 (arrC e).toList = some ls := by
  unfold Program.keyLits
  rw [Try.undExp]
  simp only [Try.cellsExp, Try.cellsInt]
  refine ⟨[.int .i64 (nth e 0), .int .i64 (nth e 1), .int .i64 (nth e 2), .int .i64 (nth e 3), .int .i64 (nth e 4), .int .i64 (nth e 5), .int .i64 (nth e 6)], ?_⟩
  simp [List.range_succ, List.mapM_cons, keyLits_int (h 0 (by omega)), keyLits_int (h 1 (by omega)), keyLits_int (h 2 (by omega)), keyLits_int (h 3 (by omega)), keyLits_int (h 4 (by omega)), keyLits_int (h 5 (by omega)), keyLits_int (h 6 (by omega))]
theorem keyOf_exp {e : List Int} (h : ex7 e) : ∃ kl, keyOf Try.prog 156 (arr e) = some kl := by
  obtain ⟨d, hd⟩ : ∃ d, Try.prog.types.size + 1 = d + 2 := ⟨Try.prog.types.size - 1, by have h0 : 0 < Try.prog.types.size := Nat.lt_of_le_of_lt (Nat.zero_le _) Try.rowExp; omega⟩
  obtain ⟨ls, hls⟩ := keyLits_exp (d := d) (e := e) (fun k hk => by have := h.2 k hk; unfold in64; omega)
  refine ⟨.string (keyBytes ls), ?_⟩
  unfold keyOf
  rw [Try.undExp]
  have hf : (arr e).formed Try.prog 156 = true := by simp [Value.formed, Try.cellsExp]
  have hc : (arr e).cells.toList = (arrC e).toList := by simp [Value.cells]
  simp only [Try.keyTExp, hf, hc, hd, hls, Bool.and_self, if_true, Option.map_some]
theorem arr_inj {e e' : List Int} (hl : e.length = 7) (hl' : e'.length = 7) (h : arr e = arr e') : e = e' := by
  have hk : ∀ k, k < 7 → nth e k = nth e' k := fun k hk => by
    simp only [Value.agg.injEq] at h
    have h1 := arrC_get e k hk
    rw [h, arrC_get e' k hk] at h1
    simp at h1
    exact h1.symm
  apply List.ext_getElem (by rw [hl, hl'])
  intro j h1 h2
  rw [← nth_get, ← nth_get]
  exact hk j (by omega)

/-! ### the map -/
abbrev kvE (x : MapEntry) : Value × Value := (x.key, x.val)
abbrev tvE (t : Tm) : Value × Value := (arr t.1, .int .i64 t.2)
def goodM (M : List Tm) : Prop := ∀ t ∈ M, ex7 t.1 ∧ in64 t.2
/-- Block b of w is a map that has the entries M. -/
def MapE (w : World) (b : Nat) (M : List Tm) : Prop :=
  ∃ es clock, w.heap[b]? = some (.map es clock) ∧ Stamped es clock ∧ es.toList.map kvE = M.map tvE ∧ goodM M
theorem get_rel {es : List MapEntry} {M : List Tm} (h : es.map kvE = M.map tvE) {j : Nat} {x : MapEntry} (hx : es[j]? = some x) : ∃ t, M[j]? = some t ∧ x.key = arr t.1 ∧ x.val = .int .i64 t.2 := by
  have h1 : (es.map kvE)[j]? = some (kvE x) := by rw [List.getElem?_map, hx]; rfl
  rw [h, List.getElem?_map] at h1
  cases ht : M[j]? with
  | none => rw [ht] at h1; simp at h1
  | some t =>
    rw [ht] at h1
    simp only [Option.map_some, Option.some.injEq, Prod.mk.injEq] at h1
    exact ⟨t, rfl, h1.1.symm, h1.2.symm⟩
theorem mem_rel {es : List MapEntry} {M : List Tm} (h : es.map kvE = M.map tvE) {x : MapEntry} (hx : x ∈ es) : ∃ t ∈ M, x.key = arr t.1 ∧ x.val = .int .i64 t.2 := by
  obtain ⟨j, hj⟩ := List.getElem?_of_mem hx
  obtain ⟨t, ht, h1, h2⟩ := get_rel h hj
  exact ⟨t, List.mem_of_getElem? ht, h1, h2⟩
theorem rel_mem {es : List MapEntry} {M : List Tm} (h : es.map kvE = M.map tvE) {t : Tm} (ht : t ∈ M) : ∃ x ∈ es, x.key = arr t.1 ∧ x.val = .int .i64 t.2 := by
  have : tvE t ∈ es.map kvE := by rw [h]; exact List.mem_map.2 ⟨t, ht, rfl⟩
  obtain ⟨x, hx, e⟩ := List.mem_map.1 this
  simp only [Prod.mk.injEq] at e
  exact ⟨x, hx, e.1, e.2⟩
theorem keys_rel {es : List MapEntry} {M : List Tm} (h : es.map kvE = M.map tvE) (hg : goodM M) : ∀ x ∈ es, ∃ l, keyOf Try.prog 156 x.key = some l := fun x hx => by
  obtain ⟨t, ht, e, _⟩ := mem_rel h hx
  rw [e]
  exact keyOf_exp (hg t ht).1
theorem nodup_rel {es : List MapEntry} {M : List Tm} (h : es.map kvE = M.map tvE) (hn : (es.map (·.key)).Nodup) : (M.map (·.1)).Nodup := by
  have e : es.map (·.key) = M.map (fun t => arr t.1) := by
    have := congrArg (List.map Prod.fst) h
    simpa [List.map_map, Function.comp_def] using this
  rw [e] at hn
  rw [List.Nodup, List.pairwise_map] at hn ⊢
  exact hn.imp fun h1 h2 => h1 (by rw [h2])
theorem MapE.good {w : World} {b : Nat} {M : List Tm} (h : MapE w b M) : goodM M := by obtain ⟨_, _, _, _, _, hg⟩ := h; exact hg
theorem MapE.nodup {w : World} {b : Nat} {M : List Tm} (h : MapE w b M) : (M.map (·.1)).Nodup := by
  obtain ⟨es, clock, _, hs, hm, _⟩ := h
  exact nodup_rel hm hs.2.2
theorem MapE.lt {w : World} {b : Nat} {M : List Tm} (h : MapE w b M) : b < w.heap.size := by
  obtain ⟨es, clock, hb, _⟩ := h
  exact (Array.getElem?_eq_some_iff.1 hb).1
theorem MapE.made (w : World) : MapE (w.alloc (.map #[] 0)) w.heap.size [] := ⟨#[], 0, (MapKept.heap_alloc w _).1, MapKept.stamped_empty 0, rfl, fun t ht => by simp at ht⟩
theorem MapE.same {w w' : World} {b : Nat} {M : List Tm} (h : MapE w b M) (e : w'.heap[b]? = w.heap[b]?) : MapE w' b M := by
  obtain ⟨es, clock, hb, rest⟩ := h
  exact ⟨es, clock, e.trans hb, rest⟩
theorem MapE.below {w w' : World} {b B : Nat} {M : List Tm} (h : MapE w b M) (hb : Below B w w') (hlt : b < B) : MapE w' b M := h.same (hb.block b hlt)
theorem MapE.alloc {w : World} {b : Nat} {M : List Tm} (h : MapE w b M) (o : Obj) : MapE (w.alloc o) b M := h.same ((MapKept.heap_alloc w o).2 b h.lt)
theorem MapE.kept {w w' : World} {b : Nat} {M : List Tm} {row : Option Nat} (h : MapE w b M) (hg : w.grownBy w' row) (hne : some b ≠ row) : MapE w' b M := h.same (hg.block b h.lt hne)
theorem MapE.drawn {w w' : World} {b : Nat} {M : List Tm} (h : MapE w b M) (hd : Drawn w w') : MapE w' b M := by obtain ⟨m, rfl⟩ := hd; exact h
theorem MapE.find {es : Array MapEntry} {clock : Nat} {M : List Tm} (hs : Stamped es clock) (hm : es.toList.map kvE = M.map tvE) (hg : goodM M) {e : List Int} (he : ex7 e) (w : World) :
    ((Instr.findKey 156 (arr e) es.toList).run Try.prog w = .ok none w ∧ (∀ x ∈ es.toList, x.key ≠ arr e) ∧ ∀ t ∈ M, t.1 ≠ e) ∨
    ∃ (j : Nat) (x : MapEntry) (t : Tm), (Instr.findKey 156 (arr e) es.toList).run Try.prog w = .ok (some (j, .int .i64 (cfT M e))) w ∧ es.toList[j]? = some x ∧ x.key = arr e ∧ x.val = .int .i64 (cfT M e) ∧ M[j]? = some t ∧ t.1 = e ∧ t.2 = cfT M e := by
  obtain ⟨kl, hk⟩ := keyOf_exp he
  rcases Try.keyExp.find w hk es.toList (keys_rel hm hg) with ⟨h1, h2⟩ | ⟨j, x, h1, h2, h3⟩
  · refine .inl ⟨h1, h2, fun t ht e1 => ?_⟩
    obtain ⟨x, hx, hxk, _⟩ := rel_mem hm ht
    exact h2 x hx (by rw [hxk, e1])
  · obtain ⟨t, ht, hk1, hv1⟩ := get_rel hm h2
    have hte : t.1 = e := arr_inj (hg t (List.mem_of_getElem? ht)).1.1 he.1 (by rw [← hk1, h3])
    have hc := (putT_old 0 (nodup_rel hm hs.2.2) ht hte).2
    refine .inr ⟨j, x, t, ?_, h2, h3, by rw [hv1, hc], ht, hte, hc.symm⟩
    rw [h1, hv1, hc]
theorem set_selfM {α : Type} : ∀ {l : List α} {j : Nat} {a : α}, l[j]? = some a → l.set j a = l
  | [], _, _, h => by simp at h
  | b :: r, 0, a, h => by simp at h; subst h; rfl
  | b :: r, j + 1, a, h => by
    simp only [List.getElem?_cons_succ] at h
    rw [List.set_cons_succ, set_selfM h]
theorem findIdx_arrM (xs : Array MapEntry) (p : MapEntry → Bool) : xs.findIdx? p = xs.toList.findIdx? p := by cases xs; simp
theorem findIdx_bornM {l : List MapEntry} (hn : (l.map (·.born)).Nodup) : ∀ {j : Nat} {x : MapEntry}, l[j]? = some x → l.findIdx? (fun e => ((e.born : Nat) : Int) == ((x.born : Nat) : Int)) = some j := by
  induction l with
  | nil => intro j x h; simp at h
  | cons a r ih =>
    intro j x h
    obtain ⟨n1, n2⟩ := List.nodup_cons.1 hn
    cases j with
    | zero =>
      simp only [List.getElem?_cons_zero, Option.some.injEq] at h
      subst h
      simp [List.findIdx?_cons]
    | succ j =>
      simp only [List.getElem?_cons_succ] at h
      have hne : a.born ≠ x.born := fun e1 => n1 (List.mem_map.2 ⟨x, List.mem_of_getElem? h, e1.symm⟩)
      have hb : (((a.born : Nat) : Int) == ((x.born : Nat) : Int)) = false := by
        simp only [beq_eq_false_iff_ne, ne_eq, Int.natCast_inj]
        exact hne
      rw [List.findIdx?_cons, hb]
      simp [ih n2 h]
/-- 'm[e]'. -/
theorem MapE.lookup {w : World} {b : Nat} {M : List Tm} (h : MapE w b M) {e : List Int} (he : ex7 e) :
    (Instr.lookup 157 (.map (some b)) (arr e) false).run Try.prog w = .ok (.int .i64 (cfT M e)) w := by
  obtain ⟨es, clock, hb, hs, hm, hg⟩ := h
  obtain ⟨kl, hk⟩ := keyOf_exp he
  rcases MapE.find hs hm hg he w with ⟨h1, _, h3⟩ | ⟨j, x, t, h1, _⟩
  · rw [(putT_new 0 h3).2]
    simp [Instr.lookup, run_underlying Try.underlying157, MapKept.run_getObj_map hb, Try.keyExp.check w _ hk, h1, Result.andThen]
  · simp [Instr.lookup, run_underlying Try.underlying157, MapKept.run_getObj_map hb, Try.keyExp.check w _ hk, h1, Result.andThen]
/-- .. with an entry for e that bears the stamp st. -/
def MapAt (w : World) (b : Nat) (M : List Tm) (e : List Int) (st : Nat) : Prop :=
  ∃ es clock, w.heap[b]? = some (.map es clock) ∧ Stamped es clock ∧ es.toList.map kvE = M.map tvE ∧ goodM M ∧ ∃ (j : Nat) (x : MapEntry), es.toList[j]? = some x ∧ x.key = arr e ∧ x.born = st
theorem MapAt.map {w : World} {b st : Nat} {M : List Tm} {e : List Int} (h : MapAt w b M e st) : MapE w b M := by
  obtain ⟨es, clock, hb, hs, hm, hg, _⟩ := h
  exact ⟨es, clock, hb, hs, hm, hg⟩
theorem MapAt.same {w w' : World} {b st : Nat} {M : List Tm} {e : List Int} (h : MapAt w b M e st) (e1 : w'.heap[b]? = w.heap[b]?) : MapAt w' b M e st := by
  obtain ⟨es, clock, hb, rest⟩ := h
  exact ⟨es, clock, e1.trans hb, rest⟩
theorem grown_setM {w : World} {b : Nat} {es : Array MapEntry} {clock : Nat} {o' : Obj} (hb : w.heap[b]? = some (.map es clock)) : w.grownBy (setBlock w b o') (some b) ∧ (setBlock w b o').heap.size = w.heap.size :=
  ⟨⟨rfl, rfl, rfl, by simp [setBlock], fun i _ hi => heap_setBlock_other hb _ (fun e => hi (by rw [e]))⟩, by simp [setBlock]⟩
theorem goodM_put {M : List Tm} (hg : goodM M) {e : List Int} (he : ex7 e) {x : Int} (hx : in64 x) : goodM (putT M e x) := fun t ht => by
  rcases putT_mem ht with rfl | ht
  · exact ⟨he, hx⟩
  · exact hg t ht
/-- 'm[e] += ..', its first half: the entry, made where there is none. -/
theorem MapE.entry {w : World} {b : Nat} {M : List Tm} (h : MapE w b M) {e : List Int} (he : ex7 e) :
    ∃ (st : Nat) (w1 : World), (Instr.mapEntry 157 (.map (some b)) (arr e)).run Try.prog w = .ok (.tuple #[.int .i64 (cfT M e), goInt st]) w1 ∧ MapAt w1 b (putT M e (cfT M e)) e st ∧ w.grownBy w1 (some b) ∧ w1.heap.size = w.heap.size := by
  obtain ⟨es, clock, hb, hs, hm, hg⟩ := h
  obtain ⟨kl, hk⟩ := keyOf_exp he
  have hin : in64 (cfT M e) := cfT_in fun t ht => (hg t ht).2
  rcases MapE.find hs hm hg he w with ⟨h1, h2, h3⟩ | ⟨j, x, t, h1, h2, h3, hv, ht, hte, htc⟩
  · obtain ⟨e1, e2⟩ := putT_new (cfT M e) h3
    refine ⟨clock, setBlock w b (.map (es.push ⟨arr e, .int .i64 0, clock⟩) (clock + 1)), ?_, ⟨_, _, heap_setBlock_same hb _, MapKept.stamped_push hs h2, ?_, goodM_put hg he hin, es.size, ⟨arr e, .int .i64 0, clock⟩, by simp, rfl, rfl⟩, (grown_setM hb).1, (grown_setM hb).2⟩
    · rw [e2]
      simp [Instr.mapEntry, run_underlying Try.underlying157, MapKept.run_getObj_map hb, Try.keyExp.check w false hk, h1, MapKept.run_setObj_map _ hb, Result.andThen, setBlock]
    · rw [e1, Array.toList_push, List.map_append, List.map_append, hm, e2]
      rfl
  · have hj : es[j]? = some x := by simpa using h2
    have hsame : es.modify j (fun e' => { e' with key := arr e }) = es := by
      apply Array.ext'
      rw [Array.toList_modify, ChangeMaps.modify_eq_set _ _ _ _ h2]
      have : ({ x with key := arr e } : MapEntry) = x := by rw [← h3]
      rw [this]
      exact set_selfM h2
    have hput : putT M e (cfT M e) = M := by
      rw [(putT_old (cfT M e) (nodup_rel hm hs.2.2) ht hte).1]
      have : ((e, cfT M e) : Tm) = t := Prod.ext hte.symm htc.symm
      rw [this]
      exact set_selfM ht
    refine ⟨x.born, setBlock w b (.map es clock), ?_, ⟨es, clock, heap_setBlock_same hb _, hs, by rw [hput]; exact hm, by rw [hput]; exact hg, j, x, h2, h3, rfl⟩, (grown_setM hb).1, (grown_setM hb).2⟩
    simp [Instr.mapEntry, run_underlying Try.underlying157, MapKept.run_getObj_map hb, Try.keyExp.check w false hk, h1, hj, h3, Try.keyExp.stays w hk, hsame, MapKept.run_setObj_map _ hb, Result.andThen, setBlock]
/-- .. its second half: the coefficient. -/
theorem MapAt.store {w : World} {b st : Nat} {M : List Tm} {e : List Int} (h : MapAt w b M e st) (he : ex7 e) {v : Int} (hv : in64 v) :
    ∃ w1, (Instr.entryStore 157 (.map (some b)) (goInt st) (.int .i64 v)).run Try.prog w = .ok () w1 ∧ MapE w1 b (putT M e v) ∧ w.grownBy w1 (some b) ∧ w1.heap.size = w.heap.size := by
  obtain ⟨es, clock, hb, hs, hm, hg, j, x, hj, hxk, rfl⟩ := h
  have hidx : es.findIdx? (fun e' => ((e'.born : Nat) : Int) == ((x.born : Nat) : Int)) = some j := by
    rw [findIdx_arrM]
    exact findIdx_bornM hs.2.1 hj
  obtain ⟨t, ht, hk1, hv1⟩ := get_rel hm hj
  have hte : t.1 = e := arr_inj (hg t (List.mem_of_getElem? ht)).1.1 he.1 (by rw [← hk1, hxk])
  have hput := (putT_old v (nodup_rel hm hs.2.2) ht hte).1
  refine ⟨setBlock w b (.map (es.modify j fun e' => { e' with val := .int .i64 v }) clock), ?_, ⟨_, _, heap_setBlock_same hb _, MapKept.stamped_modify hs j _ (fun _ _ => rfl) (fun _ _ _ => rfl), ?_, goodM_put hg he hv⟩, (grown_setM hb).1, (grown_setM hb).2⟩
  · simp [Instr.entryStore, MapKept.run_getObj_map hb, asInt, asIntOf, goInt, hidx, MapKept.run_setObj_map _ hb, Result.andThen, setBlock]
  · rw [Array.toList_modify, ChangeMaps.modify_eq_set _ _ _ _ hj, hput, List.map_set, List.map_set, hm]
    show (M.map tvE).set j (x.key, .int .i64 v) = (M.map tvE).set j (arr e, .int .i64 v)
    rw [hxk]

/-! ### ranging -/
/-- 'for e, c := range m' under way: block r is the iterator, 'done' has come. -/
def RangeE (w : World) (b r : Nat) (M done : List Tm) : Prop :=
  ∃ es clock since seen c0, w.heap[b]? = some (.map es clock) ∧ Stamped es clock ∧ es.toList.map kvE = M.map tvE ∧ goodM M ∧
    w.heap[r]? = some (.mapIter (some b) since seen c0) ∧ (∀ x ∈ es.toList, x.born < since) ∧ since ≤ c0 ∧ since ≤ clock ∧
    ∃ todo : List Tm, (leftOf es seen).toList.map kvE = todo.map tvE ∧ (done ++ todo).Perm M
section
variable {w w' : World} {b r : Nat} {M done : List Tm}
theorem RangeE.map (h : RangeE w b r M done) : MapE w b M := by
  obtain ⟨es, clock, _, _, _, hb, hs, hm, hg, _⟩ := h
  exact ⟨es, clock, hb, hs, hm, hg⟩
theorem RangeE.lt (h : RangeE w b r M done) : r < w.heap.size := by
  obtain ⟨es, clock, since, seen, c0, _, _, _, _, hr, _⟩ := h
  exact (Array.getElem?_eq_some_iff.1 hr).1
theorem RangeE.same (h : RangeE w b r M done) (e1 : w'.heap[b]? = w.heap[b]?) (e2 : w'.heap[r]? = w.heap[r]?) : RangeE w' b r M done := by
  obtain ⟨es, clock, since, seen, c0, hb, hs, hm, hg, hr, rest⟩ := h
  exact ⟨es, clock, since, seen, c0, e1.trans hb, hs, hm, hg, e2.trans hr, rest⟩
theorem RangeE.kept {row : Option Nat} (h : RangeE w b r M done) (hg : w.grownBy w' row) (h1 : some b ≠ row) (h2 : some r ≠ row) : RangeE w' b r M done :=
  h.same (hg.block b h.map.lt h1) (hg.block r h.lt h2)
theorem RangeE.below {B : Nat} (h : RangeE w b r M done) (hb : Below B w w') (h1 : b < B) (h2 : r < B) : RangeE w' b r M done := h.same (hb.block b h1) (hb.block r h2)
theorem RangeE.left_eq (h : RangeE w b r M done) : w.rangeLeft b r + done.length = M.length := by
  obtain ⟨es, clock, since, seen, c0, hb, _, _, _, hr, _, _, _, todo, ht, hp⟩ := h
  have e1 : w.rangeLeft b r = todo.length := by
    simp only [World.rangeLeft, hb, hr]
    have := congrArg List.length ht
    simpa using this
  have := hp.length_eq
  rw [List.length_append] at this
  omega
/-- 'range m'. -/
theorem MapE.range (h : MapE w b M) :
    ∃ w', (Instr.range 157 (.map (some b))).run Try.prog w = .ok (.pointer (some ⟨w.heap.size, 0, none⟩)) w' ∧ RangeE w' b w.heap.size M [] ∧ w.grownBy w' none ∧ w'.heap.size = w.heap.size + 1 := by
  have hlt := h.lt
  obtain ⟨es, clock, hb, hs, hm, hg⟩ := h
  refine ⟨_, run_range_map w _ _ _ b es clock Try.underlying157 hb, ⟨es, clock, clock, #[], clock, ((MapKept.heap_alloc w _).2 b hlt).trans hb, hs, hm, hg, (MapKept.heap_alloc w _).1, hs.1, Nat.le_refl _, Nat.le_refl _, M, ?_, by simp⟩, World.grownBy_alloc w _ none, by simp⟩
  have e0 : (leftOf es #[]).toList = es.toList := by
    unfold leftOf
    rw [Array.toList_filter]
    exact List.filter_eq_self.2 fun x _ => by simp
  rw [e0, hm]
theorem cut_born {x : MapEntry} : ∀ {L : List MapEntry}, (L.map (·.born)).Nodup → x ∈ L → ∃ l1 l2, L = l1 ++ x :: l2 ∧ L.filter (fun y => !(y.born == x.born)) = l1 ++ l2
  | [], _, h => by simp at h
  | y :: L, hn, h => by
    obtain ⟨n1, n2⟩ := List.nodup_cons.1 hn
    by_cases e : y = x
    · subst e
      refine ⟨[], L, rfl, ?_⟩
      rw [List.filter_cons_of_neg (by simp)]
      exact List.filter_eq_self.2 fun z hz => by
        have : z.born ≠ y.born := fun e => n1 (List.mem_map.2 ⟨z, hz, e⟩)
        simpa using this
    · have hx : x ∈ L := by rcases List.mem_cons.1 h with h | h; exact absurd h.symm e; exact h
      obtain ⟨l1, l2, e1, e2⟩ := cut_born n2 hx
      have hne : y.born ≠ x.born := fun e => n1 (List.mem_map.2 ⟨x, hx, e.symm⟩)
      refine ⟨y :: l1, l2, by rw [e1]; rfl, ?_⟩
      rw [List.filter_cons_of_pos (by simpa using hne), e2]
      rfl
/-- The step. -/
theorem RangeE.next (h : RangeE w b r M done) (ty : TypeId) :
    (done.Perm M ∧ (Instr.next (.pointer (some ⟨r, 0, none⟩)) false ty).run Try.prog w = .ok (.tuple #[.bool false]) w) ∨
    ∃ t w', t ∈ M ∧ (Instr.next (.pointer (some ⟨r, 0, none⟩)) false ty).run Try.prog w = .ok (.tuple #[.bool true, arr t.1, .int .i64 t.2]) w' ∧ RangeE w' b r M (done ++ [t]) ∧ done.length < M.length ∧
      w.grownBy w' (some r) ∧ w'.heap.size = w.heap.size ∧ (Instr.entry (.pointer (some ⟨r, 0, none⟩))).run Try.prog w' = .ok (.tuple #[arr t.1, .int .i64 t.2]) w' := by
  obtain ⟨es, clock, since, seen, c0, hb, hs, hm, hg, hr, hold, hsc, hsk, todo, ht, hp⟩ := h
  have hne : r ≠ b := by
    intro e
    rw [e, hb] at hr
    cases hr
  rcases run_next_at (P := Try.prog) w ty r b since c0 seen es clock hr hb hold hsc with ⟨h0, hrun⟩ | ⟨e, he, w1, hal, hrun⟩
  · refine .inl ⟨?_, hrun⟩
    have : todo = [] := by
      have := congrArg List.length ht
      simp [h0] at this
      exact List.eq_nil_of_length_eq_zero this.symm
    subst this
    simpa using hp
  · obtain ⟨hem, hes⟩ := mem_left he
    have hnL : ((leftOf es seen).toList.map (·.born)).Nodup := by
      unfold leftOf
      rw [Array.toList_filter]
      exact (List.filter_sublist.map _).nodup hs.2.1
    obtain ⟨l1, l2, e1, e2⟩ := cut_born hnL he
    rw [e1, List.map_append, List.map_cons] at ht
    obtain ⟨t1, t', rfl, ht1, ht'⟩ := List.map_eq_append_iff.1 ht.symm
    obtain ⟨t, t2, rfl, htv, ht2⟩ := List.map_eq_cons_iff.1 ht'
    simp only [Prod.mk.injEq] at htv
    have hr1 : w1.heap[r]? = some (.mapIter (some b) since seen c0) := by rcases hal with rfl | rfl <;> exact hr
    have hb1 : w1.heap[b]? = some (.map es clock) := by rcases hal with rfl | rfl <;> exact hb
    have hset := MapKept.heap_set (o' := .mapIter (some b) since (seen.push e.born) clock) hr1
    have hb' : (setBlock w1 r (.mapIter (some b) since (seen.push e.born) clock)).heap[b]? = some (.map es clock) := (hset.2 b (fun e1 => hne e1.symm)).trans hb1
    have htM : t ∈ M := hp.mem_iff.1 (by simp)
    rw [← htv.1, ← htv.2] at hrun
    refine .inr ⟨t, _, htM, hrun, ⟨es, clock, since, seen.push e.born, clock, hb', hs, hm, hg, hset.1, hold, hsk, hsk, t1 ++ t2, ?_, ?_⟩, ?_, ?_, ?_, ?_⟩
    · have e3 : (leftOf es (seen.push e.born)).toList = l1 ++ l2 := by
        rw [← e2]
        unfold leftOf
        rw [Array.toList_filter, Array.toList_filter, List.filter_filter]
        apply List.filter_congr
        intro y _
        rw [contains_push]
        cases seen.contains y.born <;> cases (y.born == e.born) <;> rfl
      rw [e3, List.map_append, List.map_append, ht1, ht2]
    · refine List.Perm.trans ?_ hp
      rw [List.append_assoc]
      refine List.Perm.append_left _ ?_
      simp only [List.singleton_append]
      exact (List.perm_middle).symm
    · have := hp.length_eq
      simp at this
      omega
    · rcases hal with rfl | rfl <;> exact ⟨rfl, rfl, rfl, by simp [setBlock], fun i _ hi => hset.2 i (fun e1 => hi (by rw [e1]))⟩
    · rcases hal with rfl | rfl <;> simp [setBlock]
    · rw [htv.1, htv.2]
      exact run_entry_at _ r b since seen es clock e hset.1 hb' hem hs.2.1
end

/-! ### at the operations -/
section
variable (w : World) {ops : Array Oper} {rest : List Oper} {o : Oper} {a : Act} {Q : Exit → Act → World → Prop} {b r : Nat} {M done : List Tm}
theorem wpList_rangeE (hg : o.guard = none) (m : Operand) (hop : o.op = Op.range 157 m) (hm : a.eval m = .map (some b)) (h : MapE w b M)
    (hK : ∀ w', RangeE w' b w.heap.size M [] → w.grownBy w' none → w'.heap.size = w.heap.size + 1 → wpList Try.prog ops Q rest (a.put o.dst (.pointer (some ⟨w.heap.size, 0, none⟩))) w') :
    wpList Try.prog ops Q (o :: rest) a w := by
  refine wpList_plain hg fun K' hK' => ?_
  obtain ⟨w', hrun, r1, r2, r3⟩ := h.range
  unfold Oper.wp
  simp [execOp, hop, hm, hrun, Result.andThen]
  exact hK' _ _ (hK w' r1 r2 r3)
theorem wpList_nextE (hg : o.guard = none) (it : Operand) (hop : o.op = Op.next it false) (hit : a.eval it = .pointer (some ⟨r, 0, none⟩)) (h : RangeE w b r M done)
    (hDone : done.Perm M → wpList Try.prog ops Q rest (a.put o.dst (.tuple #[.bool false])) w)
    (hMore : ∀ (t : Tm) (w' : World), t ∈ M → RangeE w' b r M (done ++ [t]) → done.length < M.length → w.grownBy w' (some r) → w'.heap.size = w.heap.size →
      (Instr.entry (.pointer (some ⟨r, 0, none⟩))).run Try.prog w' = .ok (.tuple #[arr t.1, .int .i64 t.2]) w' → wpList Try.prog ops Q rest (a.put o.dst (.tuple #[.bool true, arr t.1, .int .i64 t.2])) w') :
    wpList Try.prog ops Q (o :: rest) a w := by
  refine wpList_plain hg fun K' hK' => ?_
  unfold Oper.wp
  rcases h.next o.type with ⟨h0, hrun⟩ | ⟨t, w', ht, hrun, hrg, hlt, hgr, hsz, hen⟩
  · simp [execOp, hop, hit, hrun, Result.andThen]
    exact hK' _ _ (hDone h0)
  · simp [execOp, hop, hit, hrun, Result.andThen]
    exact hK' _ _ (hMore t w' ht hrg hlt hgr hsz hen)
end

/-! ### at the operations of a region that draws -/
/-- A map whose entries are M, but that there may be an entry 0 more, for e. -/
def MapL (w : World) (b : Nat) (M : List Tm) (e : List Int) : Prop := ∃ M1, MapE w b M1 ∧ cfT M1 e = cfT M e ∧ ∀ v, putT M1 e v = putT M e v
def MapT (w : World) (b : Nat) (M : List Tm) (e : List Int) (st : Nat) : Prop := ∃ M1, MapAt w b M1 e st ∧ cfT M1 e = cfT M e ∧ ∀ v, putT M1 e v = putT M e v
theorem MapE.toL {w : World} {b : Nat} {M : List Tm} (h : MapE w b M) (e : List Int) : MapL w b M e := ⟨M, h, rfl, fun _ => rfl⟩
theorem MapT.toL {w : World} {b st : Nat} {M : List Tm} {e : List Int} (h : MapT w b M e st) : MapL w b M e := by
  obtain ⟨M1, h1, h2⟩ := h
  exact ⟨M1, h1.map, h2⟩
theorem cfT_put (e : List Int) (x : Int) : ∀ M : List Tm, cfT (putT M e x) e = x
  | [] => if_pos rfl
  | t :: M => by
    by_cases h : t.1 = e
    · rw [show putT (t :: M) e x = (e, x) :: M from if_pos h]
      exact if_pos rfl
    · rw [show putT (t :: M) e x = t :: putT M e x from if_neg h, show cfT (t :: putT M e x) e = cfT (putT M e x) e from if_neg h, cfT_put e x M]
theorem MapL.lookup {w : World} {b : Nat} {M : List Tm} {e : List Int} (h : MapL w b M e) (he : ex7 e) :
    (Instr.lookup 157 (.map (some b)) (arr e) false).run Try.prog w = .ok (.int .i64 (cfT M e)) w := by
  obtain ⟨M1, h1, h2, _⟩ := h
  rw [← h2]
  exact h1.lookup he
theorem MapL.entry {w : World} {b : Nat} {M : List Tm} {e : List Int} (h : MapL w b M e) (he : ex7 e) :
    ∃ (st : Nat) (w1 : World), (Instr.mapEntry 157 (.map (some b)) (arr e)).run Try.prog w = .ok (.tuple #[.int .i64 (cfT M e), .int .i64 (st : Nat)]) w1 ∧ MapT w1 b M e st ∧ w.grownBy w1 (some b) ∧ w1.heap.size = w.heap.size := by
  obtain ⟨M1, h1, h2, h3⟩ := h
  obtain ⟨st, w1, hrun, k1, k2, k3⟩ := h1.entry he
  rw [← h2]
  exact ⟨st, w1, hrun, ⟨_, k1, by rw [cfT_put, h2], fun v => by rw [putT_twice, h3]⟩, k2, k3⟩
theorem MapT.store {w : World} {b st : Nat} {M : List Tm} {e : List Int} (h : MapT w b M e st) (he : ex7 e) {v : Int} (hv : in64 v) :
    ∃ w1, (Instr.entryStore 157 (.map (some b)) (.int .i64 (st : Nat)) (.int .i64 v)).run Try.prog w = .ok () w1 ∧ MapE w1 b (putT M e v) ∧ w.grownBy w1 (some b) ∧ w1.heap.size = w.heap.size := by
  obtain ⟨M1, h1, _, h3⟩ := h
  obtain ⟨w1, hrun, k1, k2, k3⟩ := h1.store he hv
  rw [h3] at k1
  exact ⟨w1, hrun, k1, k2, k3⟩
end Go.Proofs.Ytcoelbfcndeblaa

/-
  Sums, products and divided differences of lists of terms: plain lemmas. Conditions: exponents from 0 to 127.
-/

namespace Go.Proofs.Ytcoelbfcndeblaa
open Go.RowKit

theorem linL_app (f : Int → List Mn) (a b : List Mn) : linL f (a ++ b) = linL f a ++ linL f b := by simp [linL]
theorem scaleM_app (c : Int) (a b : List Mn) : scaleM c (a ++ b) = scaleM c a ++ scaleM c b := by simp [scaleM]
theorem openM_app (a b : List Tm) : openM (a ++ b) = openM a ++ openM b := by simp [openM]
theorem openM_perm {a b : List Tm} (h : a.Perm b) (k : Int) : cfL (openM a) k = cfL (openM b) k := cfL_perm (h.map _) k
theorem scale_congr (c : Int) {a b : List Mn} (h : ∀ k, eqm (cfL a k) (cfL b k)) (k : Int) : eqm (cfL (scaleM c a) k) (cfL (scaleM c b) k) :=
  (cfL_scale c k a).trans (((h k).mul_left c).trans (cfL_scale c k b).symm)
/-- The same coefficients. -/
def sameC (a b : List Mn) : Prop := ∀ k, eqm (cfL a k) (cfL b k)
theorem sameC.refl (a : List Mn) : sameC a a := fun _ => eqm.refl _
theorem sameC.symm {a b : List Mn} (h : sameC a b) : sameC b a := fun k => (h k).symm
theorem sameC.trans {a b c : List Mn} (h : sameC a b) (h' : sameC b c) : sameC a c := fun k => (h k).trans (h' k)
theorem sameC.app {a b c d : List Mn} (h : sameC a b) (h' : sameC c d) : sameC (a ++ c) (b ++ d) := fun k => by rw [cfL_app, cfL_app]; exact (h k).add (h' k)
theorem sameC.scale {a b : List Mn} (c : Int) (h : sameC a b) : sameC (scaleM c a) (scaleM c b) := scale_congr c h
theorem sameC.lin {a b : List Mn} (f : Int → List Mn) (h : sameC a b) : sameC (linL f a) (linL f b) := lin_congr f h
theorem sameC.gather {a b : List Mn} (h : sameC a b) : gatherL a = gatherL b := gatherL_congr h
theorem sameC.gath (a : List Mn) : sameC (gatherL a) a := fun k => gatherL_cf k a
theorem sameC.of_perm {a b : List Mn} (h : a.Perm b) : sameC a b := fun k => by rw [cfL_perm h]; exact eqm.refl _
theorem sameC.open {a b : List Tm} (h : a.Perm b) : sameC (openM a) (openM b) := sameC.of_perm (h.map _)
theorem sameC.swap (a b : List Mn) : sameC (a ++ b) (b ++ a) := sameC.of_perm List.perm_append_comm
theorem sameC.one {x y z : Int} (h : eqm y z) : sameC [(x, y)] [(x, z)] := fun k => by
  show eqm ((if x = k then y else 0) + 0) ((if x = k then z else 0) + 0)
  split
  · exact h.add (eqm.refl _)
  · exact eqm.refl _
/-- One coefficient added. -/
theorem put_same (M : List Tm) (e : List Int) (c : Int) : sameC (openM (putT M e (w64 (cfT M e + c)))) (openM M ++ [(key7 e, c)]) := fun k => by
  rw [putT_cf, cfL_app]
  show eqm _ (cfL (openM M) k + ((if key7 e = k then c else 0) + 0))
  have := w64_eqm (cfT M e + c)
  rw [eqm_iff] at *
  split <;> omega
/-- All products of a term of a and one of b. -/
def timesL (a b : List Mn) : List Mn := linL (fun x => b.map fun u => (x + u.1, u.2)) a
theorem cfL_shift (x k : Int) : ∀ b : List Mn, cfL (b.map fun u => (x + u.1, u.2)) k = cfL b (k - x)
  | [] => rfl
  | u :: b => by
    show (if x + u.1 = k then u.2 else 0) + cfL (b.map fun u => (x + u.1, u.2)) k = (if u.1 = k - x then u.2 else 0) + cfL b (k - x)
    rw [cfL_shift x k b]
    by_cases h : x + u.1 = k
    · rw [if_pos h, if_pos (by omega)]
    · rw [if_neg h, if_neg (by omega)]
theorem sameC.times {a a' b b' : List Mn} (ha : sameC a a') (hb : sameC b b') : sameC (timesL a b) (timesL a' b') := fun k =>
  (lin_congr _ ha k).trans ((cfL_lin _ k a').trans ((tot_F fun t _ => by rw [cfL_shift, cfL_shift]; exact hb _).trans (cfL_lin _ k a').symm))
/-- One term times those of a list. -/
def mulT (x c : Int) (l : List Mn) : List Mn := scaleM c (l.map fun u => (x + u.1, u.2))
theorem mulT_app (x c : Int) (a b : List Mn) : mulT x c (a ++ b) = mulT x c a ++ mulT x c b := by simp [mulT, scaleM]
theorem times_app (a b l : List Mn) : timesL (a ++ b) l = timesL a l ++ timesL b l := linL_app _ a b
theorem times_one (x c : Int) (l : List Mn) : timesL [(x, c)] l = mulT x c l := by simp [timesL, linL, mulT]
theorem sameC.mulT {a b : List Mn} (x c : Int) (h : sameC a b) : sameC (mulT x c a) (mulT x c b) := by
  refine sameC.scale c fun k => ?_
  rw [cfL_shift, cfL_shift]
  exact h _

/-- The keys of the divided difference of one term, and their sign. -/
def divK (x : Int) (i : Nat) : List Int :=
  (List.range (x / unitI i % 128 - x / unitI (i + 1) % 128).natAbs).map fun (j : Nat) =>
    x - x / unitI i % 128 * unitI i - x / unitI (i + 1) % 128 * unitI (i + 1) + (min (x / unitI i % 128) (x / unitI (i + 1) % 128) + (x / unitI i % 128 - x / unitI (i + 1) % 128).natAbs - 1 - j) * unitI i + (min (x / unitI i % 128) (x / unitI (i + 1) % 128) + j) * unitI (i + 1)
def sgK (x : Int) (i : Nat) : Int := if x / unitI i % 128 < x / unitI (i + 1) % 128 then -1 else 1
def divF (i : Nat) (x : Int) : List Mn := (divK x i).map fun y => (y, sgK x i)
def divL (i : Nat) (l : List Mn) : List Mn := linL (divF i) l
theorem divK_key {e : List Int} (h : ex7 e) {i : Nat} (hi : i < 6) : divK (key7 e) i = (ddE e i).map key7 := by
  unfold divK ddE
  rw [key7_at h (by omega), key7_at h (by omega), List.map_map]
  apply List.map_congr_left
  intro j _
  show _ = key7 (putE e i _ _)
  rw [putE_key h.1 hi]
theorem sgK_key {e : List Int} (h : ex7 e) {i : Nat} (hi : i < 6) : sgK (key7 e) i = ddS e i := by
  unfold sgK ddS
  rw [key7_at h (by omega), key7_at h (by omega)]
/-- No exponent above d. -/
def capE (d : Int) (M : List Tm) : Prop := ∀ t ∈ M, ∀ k, k < 7 → nth t.1 k ≤ d
theorem capE.nil (d : Int) : capE d [] := fun t ht => by simp at ht
theorem capE.mono {d d' : Int} {M : List Tm} (h : capE d M) (hd : d ≤ d') : capE d' M := fun t ht k hk => Int.le_trans (h t ht k hk) hd
theorem capE.put {d : Int} {M : List Tm} (h : capE d M) {e : List Int} (he : ∀ k, k < 7 → nth e k ≤ d) (x : Int) : capE d (putT M e x) := fun t ht k hk => by
  rcases putT_mem ht with rfl | ht
  · exact he k hk
  · exact h t ht k hk
end Go.Proofs.Ytcoelbfcndeblaa

/-
  The document's sums and products of lists of terms. Conditions: lengths whose product is below 2^30, keys below 2^50.
-/

namespace Go.Proofs.Ytcoelbfcndeblaa
open Go.RowKit

theorem scale_next {l : List Ce} (k : Int) {j : Nat} (h : j < l.length) : scaleM k (l.take (j + 1)) = scaleM k (l.take j) ++ [((ce l j).1, w64 (k * (ce l j).2))] := by
  rw [take_ce h, scaleM_app]; rfl
theorem mul_next {l : List Ce} (x c : Int) {j : Nat} (h : j < l.length) : mulT x c (l.take (j + 1)) = mulT x c (l.take j) ++ [(x + (ce l j).1, w64 (c * (ce l j).2))] := by
  rw [take_ce h, mulT_app]; rfl
theorem times_next {l b : List Ce} {j : Nat} (h : j < l.length) : timesL (l.take (j + 1)) b = timesL (l.take j) b ++ mulT (ce l j).1 (ce l j).2 b := by
  rw [take_ce h, times_app]
  congr 1
  exact times_one _ _ _
theorem mul_len (x c : Int) (l : List Mn) : (mulT x c l).length = l.length := by simp [mulT, scaleM]
theorem times_len : ∀ (a b : List Mn), (timesL a b).length = a.length * b.length
  | [], b => by simp [timesL, linL]
  | t :: a, b => by
    have e : timesL (t :: a) b = mulT t.1 t.2 b ++ timesL a b := by
      rw [show t :: a = [t] ++ a from rfl, times_app]
      congr 1
      exact times_one _ _ _
    rw [e, List.length_append, mul_len, times_len a b, List.length_cons, Nat.succ_mul]
    omega
theorem scale_in64 (k : Int) (l : List Mn) : ∀ t ∈ scaleM k l, in64 t.2 := fun t ht => by
  unfold scaleM at ht
  obtain ⟨u, _, rfl⟩ := List.mem_map.1 ht
  exact w64_in _
theorem lin_in64 (f : Int → List Mn) (l : List Mn) : ∀ t ∈ linL f l, in64 t.2 := fun t ht => by
  unfold linL at ht
  obtain ⟨u, _, h⟩ := List.mem_flatMap.1 ht
  exact scale_in64 _ _ t h
set_option maxRecDepth 100000 in
set_option maxHeartbeats 1000000 in
theorem l2Plus_any (A : Option Addr) (n c : Nat) (la : List Mn) (kk : Int) (A2 : Option Addr) (m c2 : Nat) (lb : List Mn) (w : World) (hs : MS w A n la) (hs2 : MS w A2 m lb) (hn : n ≤ 400000000) (hm : m ≤ 400000000) (h64 : ∀ t ∈ la, in64 t.2) :
    Calls Try.prog 116 #[.slice A n c, .int .i64 kk, .slice A2 m c2] w fun e w' => FreshM w w' e (gatherL (la ++ scaleM kk lb)) := by
  have HL := Lib.hid hs.1
  have HL2 := Lib.hid hs2.1
  have H64 := Lib.hid h64
  clear h64
  go_enter Try.func116, Try.ntmps116
  obtain ⟨B, hB⟩ : ∃ B, B = w.heap.size := ⟨_, rfl⟩
  have HB0 : Hid (B = w.heap.size) := Lib.hid hB
  go_wp2_with (refine wpList_cloneM rfl (.tmp 9) (.tmp 10) rfl w.heap.size (some ⟨w.heap.size, 0, none⟩) 0 A n c la rfl rfl (by simpa using OwnM.empty w) (hs.below ((Below.refl w.heap.size w).alloc (Nat.le_refl _) _) (Nat.le_refl _)) (by simp) (by omega) ?_; intro A1 c1 w1 ho1 hb1)
  rw [← hB] at ho1 hb1 ⊢
  have HB1 : Hid (Below B w w1) := Lib.hid (((Below.refl w.heap.size w).alloc (Nat.le_refl _) _ |>.mono (by rw [hB]; exact Nat.le_refl _)).trans hb1)
  have HO1 := Lib.hid ho1
  have HZ1 : Hid (B ≤ w1.heap.size) := Lib.hid (by have := HB1.out.size; omega)
  clear hb1 hs hB ho1
  go_loopw [7, 8] (fun lf jv wx => ∃ A5 c5 j, lf = .slice A5 (n + j) c5 ∧ jv = .int .i64 (j : Nat) ∧ j ≤ m ∧ OwnM wx B wx.heap.size A5 (n + j) c5 (la ++ scaleM kk (lb.take j)) ∧ Below B w wx ∧ B ≤ wx.heap.size)
    (fun _ jv _ => m - (intOf jv).toNat)
  case atStart => exact ⟨A1, c1, 0, rfl, rfl, Nat.zero_le _, by simpa [scaleM] using HO1.out, HB1.out, HZ1.out⟩
  case round =>
    obtain ⟨A5, c5, j, rfl, rfl, hj, ho5, hb5, hz5⟩ := hrel
    clear HO1 HB1 HZ1
    have HO5 := Lib.hid ho5
    have HB5 := Lib.hid hb5
    have HZ5 := Lib.hid hz5
    have hsr := hs2.below hb5 (by rw [← HB0.out]; exact Nat.le_refl _)
    have hs0 := hs2
    clear ho5 hb5 hz5 hs2
    by_cases hlt : j < m
    · have hltI : (j : Int) < (m : Int) := by omega
      have HNX := Lib.hid (scale_next (l := lb) kk (j := j) (by rw [HL2.out]; exact hlt))
      obtain ⟨b, o, rfl, hb, hi0, hi1⟩ := hsr.at_ (k := j) hlt
      have hbw : b < B := by
        obtain ⟨b2, o2, e2, hb2, _⟩ := hs0.at_ (k := j) hlt
        simp only [Option.some.injEq, Addr.mk.injEq, and_true] at e2
        rw [HB0.out, e2.1]; exact hb2
      clear hs0
      obtain ⟨p1, hp1⟩ : ∃ p1, p1 = (ce lb j).1 := ⟨_, rfl⟩
      obtain ⟨q1, hq1⟩ : ∃ q1, q1 = (ce lb j).2 := ⟨_, rfl⟩
      rw [← hp1] at hi0
      rw [← hq1] at hi1
      have HPQ : Hid (((ce lb j).1, w64 (kk * (ce lb j).2)) = (p1, w64 (kk * q1))) := Lib.hid (by rw [hp1, hq1])
      have HK : Hid (b < B) := Lib.hid hbw
      clear hsr hp1 hq1 hb hbw
      go_wp2_with fail
      go_region_held3 (fun w' => w'.cell? ⟨b, o + j * 2, none⟩ = some (.int .i64 p1) ∧ w'.cell? ⟨b, o + j * 2 + 1, none⟩ = some (.int .i64 q1))
        (first | go_keep | exact K5)
        (first
          | (refine step_appendM _ (by rfl) (.tmp 18) (.tmp 32) (by rfl) B wr.heap.size A5 (n + j) c5 (la ++ scaleM kk (lb.take j)) p1 (IntKind.i64.wrap (kk * q1)) wr.heap.size (by rfl) (by rfl) (Blk.new wr.drew _ _) (OwnM.below (w := wr.drew) (HO5.out.drawn ⟨1, rfl⟩) ((Below.refl wr.heap.size wr.drew).alloc (Nat.le_refl _) _) (Nat.le_refl _)) (by have := HZ5.out; simp; omega) (by omega) ?_
             intro A6 c6 w6 ho6 hb6
             have g3 : Below B wr w6 := (((Below.refl B wr).drew).alloc HZ5.out (.cells #[.int .i64 p1, .int .i64 (IntKind.i64.wrap (kk * q1))] 163)).trans hb6
             have K5 : w6.cell? ⟨b, o + j * 2, none⟩ = some (.int .i64 p1) ∧ w6.cell? ⟨b, o + j * 2 + 1, none⟩ = some (.int .i64 q1) :=
               ⟨(Below.cell g3 (p := ⟨b, o + j * 2, none⟩) HK.out).trans hi0, (Below.cell g3 (p := ⟨b, o + j * 2 + 1, none⟩) HK.out).trans hi1⟩
             have HO6 := Lib.hid ho6
             have HB6 : Hid (Below B w w6) := Lib.hid (HB5.out.trans g3)
             have HZ6 : Hid (B ≤ w6.heap.size) := Lib.hid (Nat.le_trans HZ5.out g3.size)
             clear ho6 hb6 g3))
      go_wp2
      go_roundw
      case rel => exact ⟨A6, c6, j + 1, rfl, by go_num, by omega, by rw [HNX.out, HPQ.out, ← List.append_assoc, ← wrap_w64]; exact HO6.out, HB6.out, HZ6.out⟩
      case measure => simp [intOf]; omega
    · have hjm : j = m := by omega
      subst hjm
      have HOL : Hid (OwnM wr B wr.heap.size A5 (n + j) c5 (la ++ scaleM kk lb)) := Lib.hid (by have := HO5.out; rwa [List.take_of_length_le (by rw [HL2.out]; omega)] at this)
      have HG := Lib.hid (specGather_any A5 (n + j) c5 _ wr HOL.out.si (by omega) (fun t ht => by
        rcases List.mem_append.1 ht with ht | ht
        · exact H64.out t ht
        · exact scale_in64 _ _ t ht))
      go_wp2_with (go_at_call 158; refine HG.out.mono ?_; rintro e w7 ⟨A7, n7, c7, rfl, ho7, hb7⟩; have HO7 := Lib.hid ho7; have HB7 := Lib.hid hb7; clear ho7 hb7)
      go_ret
      exact ⟨A7, n7, c7, rfl, HO7.out.wide (by rw [← HB0.out]; exact HZ5.out) (Nat.le_refl _), by rw [← HB0.out]; exact HB5.out.trans (HB7.out.mono HZ5.out)⟩

/-- Keys whose sum 51 bits hold. -/
def in50 (x : Int) : Prop := 0 ≤ x ∧ x < 1125899906842624
set_option maxRecDepth 100000 in
set_option maxHeartbeats 2000000 in
theorem l2Times_any (A : Option Addr) (n c : Nat) (la : List Mn) (A2 : Option Addr) (m c2 : Nat) (lb : List Mn) (w : World) (hs : MS w A n la) (hs2 : MS w A2 m lb) (hnm : n * m ≤ 1000000000) (hn : n ≤ 1000000000) (hm : m ≤ 1000000000)
    (ha : ∀ t ∈ la, in50 t.1) (hb : ∀ t ∈ lb, in50 t.1) :
    Calls Try.prog 86 #[.slice A n c, .slice A2 m c2] w fun e w' => FreshM w w' e (gatherL (timesL la lb)) := by
  have HL := Lib.hid hs.1
  have HL2 := Lib.hid hs2.1
  have HA50 := Lib.hid ha
  have HB50 := Lib.hid hb
  have HNM := Lib.hid hnm
  have hwm : IntKind.i64.wrap ((n : Int) * (m : Int)) = ((n * m : Nat) : Int) := by rw [← Int.natCast_mul]; exact IntWalk.i64_in _ (by omega)
  clear ha hb hnm
  go_enter Try.func86, Try.ntmps86
  obtain ⟨B, hB⟩ : ∃ B, B = w.heap.size := ⟨_, rfl⟩
  have HB0 : Hid (B = w.heap.size) := Lib.hid hB
  go_wp2_with (at_make; refine wpList_makeM rfl (.const (.int .i64 0)) (.tmp 12) rfl (n * m) rfl (by first | rfl | exact congrArg _ hwm) (by have := HNM.out; omega) ?_; intro w1 ho1 hb1; have HO1 := Lib.hid ho1; have HB1 := Lib.hid hb1; clear ho1 hb1)
  rw [← hB] at HO1 HB1 ⊢
  have HZ1 : Hid (B ≤ w1.heap.size) := Lib.hid (by have := HB1.out.size; omega)
  clear hB hwm
  go_loopw [5, 6] (fun lf iv wx => ∃ A5 c5 n5 i, lf = .slice A5 n5 c5 ∧ iv = .int .i64 (i : Nat) ∧ i ≤ n ∧ OwnM wx B wx.heap.size A5 n5 c5 (timesL (la.take i) lb) ∧ Below B w wx ∧ B ≤ wx.heap.size)
    (fun _ iv _ => n - (intOf iv).toNat)
  case atStart => exact ⟨_, _, 0, 0, rfl, rfl, Nat.zero_le _, by simpa [timesL, linL] using HO1.out, HB1.out, HZ1.out⟩
  case round =>
    obtain ⟨A5, c5, n5, i, rfl, rfl, hi, ho5, hb5, hz5⟩ := hrel
    clear HO1 HB1 HZ1
    have HO5 := Lib.hid ho5
    have HB5 := Lib.hid hb5
    have HZ5 := Lib.hid hz5
    clear ho5 hb5 hz5
    by_cases hlt : i < n
    · have hltI : (i : Int) < (n : Int) := by omega
      have HNX := Lib.hid (times_next (l := la) (b := lb) (j := i) (by rw [HL.out]; exact hlt))
      obtain ⟨b, o, rfl, hbw0, ha0, ha1⟩ := hs.at_ (k := i) hlt
      have hbw : b < B := by rw [HB0.out]; exact hbw0
      obtain ⟨x, hx⟩ : ∃ x, x = (ce la i).1 := ⟨_, rfl⟩
      obtain ⟨z, hz⟩ : ∃ z, z = (ce la i).2 := ⟨_, rfl⟩
      have hx50 : in50 x := by rw [hx]; exact HA50.out _ (ce_mem (by rw [HL.out]; exact hlt))
      rw [← hx] at ha0
      rw [← hz] at ha1
      have HXZ : Hid (mulT (ce la i).1 (ce la i).2 lb = mulT x z lb) := Lib.hid (by rw [hx, hz])
      have HK : Hid (b < B) := Lib.hid hbw
      have HSA := Lib.hid hs
      have hlen : n5 = i * m := by
        have := HO5.out.len
        rw [times_len, List.length_take, HL.out, HL2.out, Nat.min_eq_left (by omega)] at this
        exact this.symm
      have hbnd : i * m + m ≤ 1000000000 := by
        have h1 : (i + 1) * m ≤ n * m := Nat.mul_le_mul_right m hlt
        rw [Nat.succ_mul] at h1
        have := HNM.out
        omega
      have HLB : Hid (n5 + m ≤ 1000000000) := Lib.hid (by omega)
      clear hs hx hz hbw0 hbw hlen hbnd
      go_wp2_with fail
      go_loopw [5, 7] (fun lf jv wx => ∃ A5 c5 j, lf = .slice A5 (n5 + j) c5 ∧ jv = .int .i64 (j : Nat) ∧ j ≤ m ∧ OwnM wx B wx.heap.size A5 (n5 + j) c5 (timesL (la.take i) lb ++ mulT x z (lb.take j)) ∧ Below B w wx ∧ B ≤ wx.heap.size)
        (fun _ jv _ => m - (intOf jv).toNat)
      case atStart => exact ⟨A5, c5, 0, rfl, rfl, Nat.zero_le _, by simpa [mulT, scaleM] using HO5.out, HB5.out, HZ5.out⟩
      case round =>
        obtain ⟨A6, c6, j, rfl, rfl, hj, ho6, hb6, hz6⟩ := hrel
        clear HO5 HB5 HZ5
        have HO6 := Lib.hid ho6
        have HB6 := Lib.hid hb6
        have HZ6 := Lib.hid hz6
        have hsr := hs2.below hb6 (by rw [← HB0.out]; exact Nat.le_refl _)
        have hc0 := (Below.cell hb6 (p := ⟨b, o + i * 2, none⟩) HK.out).trans ha0
        have hc1 := (Below.cell hb6 (p := ⟨b, o + i * 2 + 1, none⟩) HK.out).trans ha1
        have hs0 := hs2
        clear ho6 hb6 hz6 hs2
        by_cases hlt2 : j < m
        · have hlt2I : (j : Int) < (m : Int) := by omega
          have HNX2 := Lib.hid (mul_next (l := lb) x z (j := j) (by rw [HL2.out]; exact hlt2))
          obtain ⟨b2, o2, rfl, hbb, hd0, hd1⟩ := hsr.at_ (k := j) hlt2
          have hbw : b2 < B := by
            obtain ⟨b3, o3, e3, hb3, _⟩ := hs0.at_ (k := j) hlt2
            simp only [Option.some.injEq, Addr.mk.injEq, and_true] at e3
            rw [HB0.out, e3.1]; exact hb3
          clear hs0
          obtain ⟨p1, hp1⟩ : ∃ p1, p1 = (ce lb j).1 := ⟨_, rfl⟩
          obtain ⟨q1, hq1⟩ : ∃ q1, q1 = (ce lb j).2 := ⟨_, rfl⟩
          have hp50 : in50 p1 := by rw [hp1]; exact HB50.out _ (ce_mem (by rw [HL2.out]; exact hlt2))
          rw [← hp1] at hd0
          rw [← hq1] at hd1
          have HPQ : Hid ((x + (ce lb j).1, w64 (z * (ce lb j).2)) = (x + p1, w64 (z * q1))) := Lib.hid (by rw [hp1, hq1])
          have HK2 : Hid (b2 < B) := Lib.hid hbw
          have hw1 : IntKind.i64.wrap (x + p1) = x + p1 := IntWalk.i64_in _ (by unfold in50 at *; omega)
          have hlb := HLB.out
          clear hsr hp1 hq1 hbb hbw ha0 ha1 hp50
          go_wp2_with fail
          go_region_held3 (fun w' => w'.cell? ⟨b, o + i * 2, none⟩ = some (.int .i64 x) ∧ w'.cell? ⟨b, o + i * 2 + 1, none⟩ = some (.int .i64 z) ∧ w'.cell? ⟨b2, o2 + j * 2, none⟩ = some (.int .i64 p1) ∧ w'.cell? ⟨b2, o2 + j * 2 + 1, none⟩ = some (.int .i64 q1))
            (first | go_keep | exact K5)
            (first
              | (refine step_appendM _ (by rfl) (.tmp 26) (.tmp 50) (by rfl) B wr.heap.size A6 (n5 + j) c6 (timesL (la.take i) lb ++ mulT x z (lb.take j)) (x + p1) (IntKind.i64.wrap (z * q1)) wr.heap.size (by rfl) (by rfl) (Blk.new wr.drew _ _) (OwnM.below (w := wr.drew) (HO6.out.drawn ⟨1, rfl⟩) ((Below.refl wr.heap.size wr.drew).alloc (Nat.le_refl _) _) (Nat.le_refl _)) (by have := HZ6.out; simp; omega) (by omega) ?_
                 intro A7 c7 w7 ho7 hb7
                 have g3 : Below B wr w7 := (((Below.refl B wr).drew).alloc HZ6.out (.cells #[.int .i64 (x + p1), .int .i64 (IntKind.i64.wrap (z * q1))] 163)).trans hb7
                 have K5 : w7.cell? ⟨b, o + i * 2, none⟩ = some (.int .i64 x) ∧ w7.cell? ⟨b, o + i * 2 + 1, none⟩ = some (.int .i64 z) ∧ w7.cell? ⟨b2, o2 + j * 2, none⟩ = some (.int .i64 p1) ∧ w7.cell? ⟨b2, o2 + j * 2 + 1, none⟩ = some (.int .i64 q1) :=
                   ⟨(Below.cell g3 (p := ⟨b, o + i * 2, none⟩) HK.out).trans hc0, (Below.cell g3 (p := ⟨b, o + i * 2 + 1, none⟩) HK.out).trans hc1, (Below.cell g3 (p := ⟨b2, o2 + j * 2, none⟩) HK2.out).trans hd0, (Below.cell g3 (p := ⟨b2, o2 + j * 2 + 1, none⟩) HK2.out).trans hd1⟩
                 have HO7 := Lib.hid ho7
                 have HB7 : Hid (Below B w w7) := Lib.hid (HB6.out.trans g3)
                 have HZ7 : Hid (B ≤ w7.heap.size) := Lib.hid (Nat.le_trans HZ6.out g3.size)
                 clear ho7 hb7 g3))
          go_wp2
          go_roundw
          case rel => exact ⟨A7, c7, j + 1, rfl, by go_num, by omega, by rw [HNX2.out, HPQ.out, ← List.append_assoc, ← wrap_w64]; exact HO7.out, HB7.out, HZ7.out⟩
          case measure => simp [intOf]; omega
        · have hjm : j = m := by omega
          subst hjm
          have HOL : Hid (OwnM wr B wr.heap.size A6 (n5 + j) c6 (timesL (la.take (i + 1)) lb)) := Lib.hid (by have := HO6.out; rw [show lb.take j = lb from List.take_of_length_le (by rw [HL2.out]; omega)] at this; rw [HNX.out, HXZ.out]; exact this)
          go_wp2_with fail
          go_roundw
          case rel => exact ⟨A6, c6, n5 + j, i + 1, rfl, by go_num, by omega, HOL.out, HB6.out, HZ6.out⟩
          case measure => simp [intOf]; omega
    · have hin : i = n := by omega
      subst hin
      have HOL : Hid (OwnM wr B wr.heap.size A5 n5 c5 (timesL la lb)) := Lib.hid (by have := HO5.out; rwa [List.take_of_length_le (by rw [HL.out]; omega)] at this)
      have HG := Lib.hid (specGather_any A5 n5 c5 _ wr HOL.out.si (by have := HOL.out.len; rw [times_len, HL.out, HL2.out] at this; have := HNM.out; omega) (lin_in64 _ _))
      go_wp2_with (go_at_call 158; refine HG.out.mono ?_; rintro e w7 ⟨A7, n7, c7, rfl, ho7, hb7⟩; have HO7 := Lib.hid ho7; have HB7 := Lib.hid hb7; clear ho7 hb7)
      go_ret
      exact ⟨A7, n7, c7, rfl, HO7.out.wide (by rw [← HB0.out]; exact HZ5.out) (Nat.le_refl _), by rw [← HB0.out]; exact HB5.out.trans (HB7.out.mono HZ5.out)⟩
end Go.Proofs.Ytcoelbfcndeblaa

/-
  The program's polynomial under construction: a coefficient added. Conditions: exponents from 0 to 127.
-/


namespace Go.Proofs.Ytcoelbfcndeblaa
open Go.RowKit

theorem Try.undSum : (Try.prog.info? 159).map (·.size) = some 1 := by kernel_rfl
/-- p points to a polynomial under construction whose map, block b, has the entries M. -/
def SumP (w : World) (g b : Nat) (M : List Tm) : Prop := Blk w g 159 #[.map (some b)] ∧ MapE w b M
theorem SumP.field {w : World} {g b : Nat} {M : List Tm} (h : SumP w g b M) : w.cell? ⟨g, 0, none⟩ = some (.map (some b)) := h.1.cell 0
theorem SumP.ne {w : World} {g b : Nat} {M : List Tm} (h : SumP w g b M) : g ≠ b := by
  rintro rfl
  obtain ⟨es, clock, hb, _⟩ := h.2
  have h1 := h.1
  unfold Blk at h1
  rw [hb] at h1
  cases h1
theorem load_map {w : World} {g b : Nat} (h : w.cell? ⟨g, 0, none⟩ = some (.map (some b))) : (loadVar 157 ⟨g, 0, none⟩).run Try.prog w = .ok (.map (some b)) w := by
  simp [loadVar, isAgg, underlying, Try.underlying157, h, Result.andThen]
theorem load_exp {w : World} {g : Nat} {e : List Int} (h : Blk w g 156 (arrC e)) : (loadVar 156 ⟨g, 0, none⟩).run Try.prog w = .ok (arr e) w :=
  run_loadVar_row w g 156 156 (arrC e) (0, 0) _ h Try.undExp rfl (by rw [Try.infoExp]; rfl)

theorem grown_of_drew {w w' : World} {row : Option Nat} (h : w.drew.grownBy w' row) : w.grownBy w' row := ⟨h.os, h.tape, h.output, h.size, h.block⟩
theorem cells7 {w : World} {g : Nat} {e : List Int} (h : Blk w g 156 (arrC e)) : w.cell? ⟨g, 0, none⟩ = some (.int .i64 (nth e 0)) ∧ w.cell? ⟨g, 1, none⟩ = some (.int .i64 (nth e 1)) ∧ w.cell? ⟨g, 2, none⟩ = some (.int .i64 (nth e 2)) ∧ w.cell? ⟨g, 3, none⟩ = some (.int .i64 (nth e 3)) ∧ w.cell? ⟨g, 4, none⟩ = some (.int .i64 (nth e 4)) ∧ w.cell? ⟨g, 5, none⟩ = some (.int .i64 (nth e 5)) ∧ w.cell? ⟨g, 6, none⟩ = some (.int .i64 (nth e 6)) :=
  ⟨h.cell 0, h.cell 1, h.cell 2, h.cell 3, h.cell 4, h.cell 5, h.cell 6⟩
set_option maxRecDepth 100000 in
set_option maxHeartbeats 1000000 in
theorem add_any (g b : Nat) (M : List Tm) (e : List Int) (c : Int) (w : World) (h : SumP w g b M) (he : ex7 e) :
    Calls Try.prog 153 #[.pointer (some ⟨g, 0, none⟩), arr e, .int .i64 c] w fun r w' => r = .returned (.tuple #[]) ∧ SumP w' g b (putT M e (w64 (cfT M e + c))) ∧ w.grownBy w' (some b) := by
  have HG := Lib.hid h.1.lt
  have HNE := Lib.hid h.ne
  have HE := Lib.hid he
  have HBL := Lib.hid h.2.lt
  have hb1 := h.1.alloc (.cells (arrC e) 156)
  have hb2 := Blk.new w 156 (arrC e)
  have HB1 := Lib.hid hb1
  have HB2 := Lib.hid hb2
  have KM0 := (h.2.alloc (.cells (arrC e) 156)).toL e
  have K0 : ∀ w', w' = (w.alloc (.cells (arrC e) 156)) ∨ w' = (w.alloc (.cells (arrC e) 156)).drew → w'.cell? ⟨g, 0, none⟩ = some (.map (some b)) ∧ w'.cell? ⟨w.heap.size, 0, none⟩ = some (.int .i64 (nth e 0)) ∧ w'.cell? ⟨w.heap.size, 1, none⟩ = some (.int .i64 (nth e 1)) ∧ w'.cell? ⟨w.heap.size, 2, none⟩ = some (.int .i64 (nth e 2)) ∧ w'.cell? ⟨w.heap.size, 3, none⟩ = some (.int .i64 (nth e 3)) ∧ w'.cell? ⟨w.heap.size, 4, none⟩ = some (.int .i64 (nth e 4)) ∧ w'.cell? ⟨w.heap.size, 5, none⟩ = some (.int .i64 (nth e 5)) ∧ w'.cell? ⟨w.heap.size, 6, none⟩ = some (.int .i64 (nth e 6)) := by
    rintro w' (rfl | rfl)
    · exact ⟨hb1.cell 0, cells7 hb2⟩
    · exact ⟨hb1.cell 0, cells7 hb2⟩
  have HM0 := Lib.hid KM0
  have HM1 : Hid (MapL (w.alloc (.cells (arrC e) 156)).drew b M e) := Lib.hid KM0
  have HK0 := Lib.hid K0
  clear K0 KM0 h he hb1 hb2
  go_enter Try.func153, Try.ntmps153
  go_wp2_with fail
  go_region_held3 (fun w' => w'.cell? ⟨g, 0, none⟩ = some (.map (some b)) ∧ w'.cell? ⟨w.heap.size, 0, none⟩ = some (.int .i64 (nth e 0)) ∧ w'.cell? ⟨w.heap.size, 1, none⟩ = some (.int .i64 (nth e 1)) ∧ w'.cell? ⟨w.heap.size, 2, none⟩ = some (.int .i64 (nth e 2)) ∧ w'.cell? ⟨w.heap.size, 3, none⟩ = some (.int .i64 (nth e 3)) ∧ w'.cell? ⟨w.heap.size, 4, none⟩ = some (.int .i64 (nth e 4)) ∧ w'.cell? ⟨w.heap.size, 5, none⟩ = some (.int .i64 (nth e 5)) ∧ w'.cell? ⟨w.heap.size, 6, none⟩ = some (.int .i64 (nth e 6)))
    (first | exact HK0.out _ (.inl rfl) | exact HK0.out _ (.inr rfl) | assumption | exact K5 | exact K6)
    (first
      | (rw [MapL.lookup (b := b) (M := M) (e := e) (by first | exact HM1.out | exact HM0.out | assumption) HE.out]; simp only [Result.andThen, Oper.upon_value])
      | (obtain ⟨st, w6, hrun6, hat6, hg6, hs6⟩ := MapL.entry (b := b) (M := M) (e := e) (w := _) HM1.out HE.out
         rw [hrun6]; simp only [Result.andThen, Oper.upon_value]
         have hl6 := hat6.toL
         have hb6 : Blk w6 g 159 #[.map (some b)] := Blk.grown (w := (w.alloc (.cells (arrC e) 156)).drew) HB1.out hg6 (fun h => HNE.out (Option.some.inj h))
         have ha6 : Blk w6 w.heap.size 156 (arrC e) := Blk.grown (w := (w.alloc (.cells (arrC e) 156)).drew) HB2.out hg6 (fun h => Nat.ne_of_gt HBL.out (Option.some.inj h))
         have K5 : w6.cell? ⟨g, 0, none⟩ = some (.map (some b)) ∧ w6.cell? ⟨w.heap.size, 0, none⟩ = some (.int .i64 (nth e 0)) ∧ w6.cell? ⟨w.heap.size, 1, none⟩ = some (.int .i64 (nth e 1)) ∧ w6.cell? ⟨w.heap.size, 2, none⟩ = some (.int .i64 (nth e 2)) ∧ w6.cell? ⟨w.heap.size, 3, none⟩ = some (.int .i64 (nth e 3)) ∧ w6.cell? ⟨w.heap.size, 4, none⟩ = some (.int .i64 (nth e 4)) ∧ w6.cell? ⟨w.heap.size, 5, none⟩ = some (.int .i64 (nth e 5)) ∧ w6.cell? ⟨w.heap.size, 6, none⟩ = some (.int .i64 (nth e 6)) := ⟨hb6.cell 0, cells7 ha6⟩
         have HB6 := Lib.hid hb6
         have HA6 := Lib.hid ha6
         have HG6 := Lib.hid hg6
         clear hb6 ha6 hg6)
      | (obtain ⟨w7, hrun7, hm7, hg7, hs7⟩ := MapT.store hat6 HE.out (w64_in (cfT M e + c))
         rw [wrap_w64, hrun7]; simp only [Result.andThen, Oper.upon_skip]
         have hb7 : Blk w7 g 159 #[.map (some b)] := HB6.out.grown hg7 (fun h => HNE.out (Option.some.inj h))
         have ha7 : Blk w7 w.heap.size 156 (arrC e) := HA6.out.grown hg7 (fun h => Nat.ne_of_gt HBL.out (Option.some.inj h))
         have K6 : w7.cell? ⟨g, 0, none⟩ = some (.map (some b)) ∧ w7.cell? ⟨w.heap.size, 0, none⟩ = some (.int .i64 (nth e 0)) ∧ w7.cell? ⟨w.heap.size, 1, none⟩ = some (.int .i64 (nth e 1)) ∧ w7.cell? ⟨w.heap.size, 2, none⟩ = some (.int .i64 (nth e 2)) ∧ w7.cell? ⟨w.heap.size, 3, none⟩ = some (.int .i64 (nth e 3)) ∧ w7.cell? ⟨w.heap.size, 4, none⟩ = some (.int .i64 (nth e 4)) ∧ w7.cell? ⟨w.heap.size, 5, none⟩ = some (.int .i64 (nth e 5)) ∧ w7.cell? ⟨w.heap.size, 6, none⟩ = some (.int .i64 (nth e 6)) := ⟨hb7.cell 0, cells7 ha7⟩
         have HB7 := Lib.hid hb7
         have HM7 := Lib.hid hm7
         have HG7 : Hid (w.grownBy w7 (some b)) := Lib.hid (((World.grownBy_alloc w _ _).trans (grown_of_drew HG6.out)).trans hg7)
         clear hb7 ha7 hm7 hg7))
  all_goals
    go_end0
    exact ⟨rfl, ⟨HB7.out, HM7.out⟩, HG7.out⟩
end Go.Proofs.Ytcoelbfcndeblaa

/-
  The program's polynomials under construction: a new one, one added so many times. Conditions: exponents from 0 to 127.
-/


namespace Go.Proofs.Ytcoelbfcndeblaa
open Go.RowKit

theorem SumP.kept {w w' : World} {g b : Nat} {M : List Tm} {row : Option Nat} (h : SumP w g b M) (hg : w.grownBy w' row) (h1 : some g ≠ row) (h2 : some b ≠ row) : SumP w' g b M := ⟨h.1.grown hg h1, h.2.kept hg h2⟩
theorem SumP.below {w w' : World} {g b B : Nat} {M : List Tm} (h : SumP w g b M) (hb : Below B w w') (h1 : g < B) (h2 : b < B) : SumP w' g b M := ⟨h.1.below hb h1, h.2.below hb h2⟩
theorem SumP.alloc {w : World} {g b : Nat} {M : List Tm} (h : SumP w g b M) (o : Obj) : SumP (w.alloc o) g b M := ⟨h.1.alloc o, h.2.alloc o⟩
theorem SumP.ne_map {w : World} {g b b' : Nat} {M M' : List Tm} (h : SumP w g b M) (h' : MapE w b' M') : g ≠ b' := by
  rintro rfl
  obtain ⟨es, clock, hb, _⟩ := h'
  have h1 := h.1
  unfold Blk at h1
  rw [hb] at h1
  cases h1
theorem grown_then {a b' c : World} {row row' : Option Nat} (h : a.grownBy b' row) (k : b'.grownBy c row') (hr : ∀ j, row' = some j → a.heap.size ≤ j ∨ row = some j) : a.grownBy c row := h.andThen k hr
theorem grown_belowM {w w' : World} {row : Option Nat} (h : w.grownBy w' row) {B : Nat} (hB : B ≤ w.heap.size) (hr : ∀ g, row = some g → B ≤ g) : Below B w w' := grow_below h hB hr

theorem wrap64_w64 (x : Int) : wrap64 x = w64 x := by
  unfold wrap64 w64
  rw [Int.bmod_def]
  split <;> omega
set_option maxHeartbeats 400000 in
theorem newSum_any (w : World) : Calls Try.prog 120 #[] w fun r w' => ∃ g b, r = .returned (.pointer (some ⟨g, 0, none⟩)) ∧ SumP w' g b [] ∧ w.heap.size ≤ g ∧ w.heap.size ≤ b ∧ Below w.heap.size w w' := by
  have hmm := @run_makeMap Try.prog
  go_enter Try.func120, Try.ntmps120
  go_wp2
  go_ret
  refine ⟨_, w.heap.size, rfl, ⟨?_, (MapE.made w).alloc _⟩, by omega, Nat.le_refl _, (((Below.refl _ _).alloc (Nat.le_refl _) _).alloc (by simp) _)⟩
  have := Blk.new (w.alloc (.map #[] 0)) 159 #[.map (some w.heap.size)]
  simpa using this

set_option maxRecDepth 100000 in
set_option maxHeartbeats 1000000 in
theorem addTimes_any (gp bp gq bq : Nat) (Mp Mq : List Tm) (kk : Int) (d : Int) (w : World) (hp : SumP w gp bp Mp) (hq : SumP w gq bq Mq) (hne : bp ≠ bq) (hcp : capE d Mp) (hcq : capE d Mq) :
    Calls Try.prog 98 #[.pointer (some ⟨gp, 0, none⟩), .int .i64 kk, .pointer (some ⟨gq, 0, none⟩)] w fun r w' => r = .returned (.tuple #[]) ∧
      ∃ M', SumP w' gp bp M' ∧ sameC (openM M') (openM Mp ++ scaleM kk (openM Mq)) ∧ capE d M' ∧ w.grownBy w' (some bp) := by
  have hf := hq.field
  have HQ := Lib.hid hq.2
  have HP := Lib.hid hp
  have HCP := Lib.hid hcp
  have HCQ := Lib.hid hcq
  have HG1 := Lib.hid (hp.ne_map hq.2)
  have HG2 := Lib.hid hp.ne
  have HL := Lib.hid hp.2.lt
  have HLQ := Lib.hid hq.2.lt
  have HLG := Lib.hid hp.1.lt
  have HGD := Lib.hid hq.2.good
  have HNE := Lib.hid hne
  clear hp hq hcp hcq hne
  go_enter Try.func98, Try.ntmps98
  go_wp2_with (first
    | (at_range; refine wpList_rangeE _ rfl _ rfl rfl HQ.out ?_; intro w0 hrg0 hg0 hs0)
    | go_in)
  go_frame
  have HR0 := Lib.hid hrg0
  have HG0 := Lib.hid hg0
  clear hrg0 hg0 hs0
  go_loopw [13] (fun _ wr => ∃ M' done, SumP wr gp bp M' ∧ RangeE wr bq w.heap.size Mq done ∧ sameC (openM M') (openM Mp ++ scaleM kk (openM done)) ∧ capE d M' ∧ w.grownBy wr (some bp))
    (fun _ wr => wr.rangeLeft bq w.heap.size)
  case atStart => exact ⟨Mp, [], HP.out.kept HG0.out (by simp) (by simp), HR0.out, by simpa [scaleM, openM] using sameC.refl _, HCP.out, HG0.out.but _⟩
  case round =>
    obtain ⟨M', done, hs, hrg, hsame, hcap, hgw⟩ := hrel
    clear HR0 HG0
    have HS := Lib.hid hs
    have HSM := Lib.hid hsame
    have HCA := Lib.hid hcap
    have HGW := Lib.hid hgw
    have HRG := Lib.hid hrg
    clear hs hsame hcap hgw hrg
    go_wp2_with (first
      | (at_next; refine wpList_nextE _ rfl _ rfl rfl HRG.out ?_ ?_)
      | go_in)
    · intro hdone
      have HD := Lib.hid hdone
      clear hdone
      go_wp2
      go_end0
      exact ⟨rfl, M', HS.out, HSM.out.trans ((sameC.refl _).app ((sameC.open HD.out).scale kk)), HCA.out, HGW.out⟩
    · intro e c w1 htM hrg1 hlt hg1 hs1 hen
      have hex : ex7 e := (HGD.out _ htM).1
      have HEX := Lib.hid hex
      have HCT : Hid (∀ k, k < 7 → nth e k ≤ d) := Lib.hid (HCQ.out _ htM)
      have HLT := Lib.hid hlt
      have HR1 := Lib.hid hrg1
      have HG1' := Lib.hid hg1
      have HS1 := Lib.hid hs1
      clear hrg1 hlt hg1 hs1 hex htM
      have HC1 : Hid (SumP (w1.alloc (.cells (arrC e) 156)) gp bp M') := Lib.hid ((HS.out.kept HG1'.out (fun h => by injection h with h; have := HLG.out; omega) (fun h => by injection h with h; have := HL.out; omega)).alloc _)
      have HC2 : Hid (RangeE (w1.alloc (.cells (arrC e) 156)) bq w.heap.size Mq (done ++ [(e, c)])) := Lib.hid (HR1.out.kept (World.grownBy_alloc _ _ none) (by simp) (by simp))
      have HC3 : Hid (w.grownBy (w1.alloc (.cells (arrC e) 156)) (some bp)) := Lib.hid (grown_then (grown_then HGW.out HG1'.out (fun j hj => by injection hj with hj; exact .inl (by omega))) (World.grownBy_alloc _ _ none) (by simp))
      go_wp2_with (go_at_call 153; refine (add_any gp bp M' e (wrap64 (kk * c)) _ HC1.out HEX.out).mono ?_; rintro r w5 ⟨rfl, hs5, hg5⟩; have HS5 := Lib.hid hs5; have HG5 := Lib.hid hg5; clear hs5 hg5)
      have HR5 := HC2.out.kept HG5.out (fun h => by injection h with h; exact HNE.out h.symm) (fun h => by injection h with h; have := HL.out; omega)
      go_roundw
      case rel =>
        refine ⟨_, _, HS5.out, HR5, ?_, HCA.out.put HCT.out _, grown_then HC3.out HG5.out (fun j hj => .inr hj)⟩
        refine (put_same _ _ _).trans ?_
        rw [wrap64_w64, openM_app, scaleM_app, ← List.append_assoc]
        exact HSM.out.app (sameC.refl _)
      case measure =>
        have h1 := HR5.left_eq
        have h2 := HRG.out.left_eq
        have h3 := HLT.out
        rw [List.length_append] at h1
        simp at h1
        omega
end Go.Proofs.Ytcoelbfcndeblaa

/-
  The document's divided differences. Conditions: keys below 2^49, lengths below 7000000.
-/




namespace Go.Proofs.Ytcoelbfcndeblaa
open Go.RowKit

theorem w64_self {x : Int} (h : in64 x) : w64 x = x := eqm_in (w64_eqm x) (w64_in x) h
/-- What has come of one term after j rounds of the document. -/
def dvP (x a b U V C : Int) (N : Nat) (j : Nat) : List Mn := (List.range j).map fun (m : Nat) => (x - a * U - b * V + (min a b + N - 1 - m) * U + (min a b + m) * V, C)
theorem dvP_next (x a b U V C : Int) (N j : Nat) : dvP x a b U V C N (j + 1) = dvP x a b U V C N j ++ [(x - a * U - b * V + (min a b + N - 1 - j) * U + (min a b + j) * V, C)] := by
  unfold dvP; rw [List.range_succ, List.map_append]; rfl
theorem dvP_len (x a b U V C : Int) (N j : Nat) : (dvP x a b U V C N j).length = j := by simp [dvP]
theorem dvP_all {x z a b U V C : Int} {i N : Nat} (ha : a = x / unitI i % 128) (hb : b = x / unitI (i + 1) % 128) (hU : U = unitI i) (hV : V = unitI (i + 1)) (hN : N = (a - b).natAbs) (hz : in64 z) (hC : C = if a < b then w64 (0 - z) else z) :
    dvP x a b U V C N N = scaleM z (divF i x) := by
  unfold divF divK scaleM dvP
  rw [List.map_map, List.map_map, ← ha, ← hb, ← hU, ← hV, hN]
  apply List.map_congr_left
  intro m _
  show _ = ((_ : Int), w64 (z * sgK x i))
  unfold sgK
  rw [← ha, ← hb, hC]
  split
  · rw [Int.mul_neg_one, Int.zero_sub]
  · rw [Int.mul_one, w64_self hz]
theorem div_next {l : List Ce} (i : Nat) {k : Nat} (h : k < l.length) : divL i (l.take (k + 1)) = divL i (l.take k) ++ scaleM (ce l k).2 (divF i (ce l k).1) := by
  unfold divL
  rw [take_ce h, linL_app]
  congr 1
  simp [linL]
theorem divF_len (i : Nat) (x : Int) : (divF i x).length ≤ 127 := by
  unfold divF divK
  rw [List.length_map, List.length_map, List.length_range]
  omega
theorem div_len (i : Nat) : ∀ l : List Mn, (divL i l).length ≤ 127 * l.length
  | [] => by simp [divL, linL]
  | t :: l => by
    have ih := div_len i l
    have h := divF_len i t.1
    have e : divL i (t :: l) = scaleM t.2 (divF i t.1) ++ divL i l := rfl
    rw [e, List.length_append, List.length_cons]
    simp [scaleM]
    omega
set_option maxRecDepth 100000 in
set_option maxHeartbeats 4000000 in
theorem l2Divided_any (A : Option Addr) (n c : Nat) (l : List Mn) (i : Nat) (w : World) (hs : MS w A n l) (hn : n ≤ 7000000) (hi : i < 6) (h49 : ∀ t ∈ l, in49 t.1) (h64 : ∀ t ∈ l, in64 t.2) :
    Calls Try.prog 89 #[.slice A n c, .int .i64 i] w fun e w' => FreshM w w' e (gatherL (divL i l)) := by
  have HL := Lib.hid hs.1
  have H49 := Lib.hid h49
  have H64 := Lib.hid h64
  clear h49 h64
  obtain ⟨U, hU⟩ : ∃ U, U = unitI i := ⟨_, rfl⟩
  obtain ⟨V, hV⟩ : ∃ V, V = unitI (i + 1) := ⟨_, rfl⟩
  have uU := unitI_pos (i := i) (by omega)
  have uV := unitI_pos (i := i + 1) (by omega)
  rw [← hU] at uU
  rw [← hV] at uV
  have HUU := Lib.hid (And.intro hU hV)
  have HUB := Lib.hid (And.intro uU uV)
  have C3 := Lib.hid (fun w => l2Unit_at (j := (i : Int)) i rfl (by omega) hU w)
  have C4 := Lib.hid (fun w => l2Unit_at (j := (i : Int) + 1) (i + 1) (by omega) (by omega) hV w)
  have hw0 : IntKind.i64.wrap ((i : Int) + 1) = (i : Int) + 1 := IntWalk.i64_in _ (by omega)
  clear hU hV uU uV
  obtain ⟨B, hB⟩ : ∃ B, B = w.heap.size := ⟨_, rfl⟩
  have HB0 : Hid (B = w.heap.size) := Lib.hid hB
  have HO5 : Hid (OwnM (w.alloc (.cells #[] 163)) B (w.alloc (.cells #[] 163)).heap.size (some ⟨B, 0, none⟩) 0 0 []) := Lib.hid (by rw [hB]; simpa using OwnM.empty w)
  have HB5 : Hid (Below B w (w.alloc (.cells #[] 163))) := Lib.hid (by rw [hB]; exact (Below.refl _ _).alloc (Nat.le_refl _) _)
  have HZ5 : Hid (B ≤ (w.alloc (.cells #[] 163)).heap.size) := Lib.hid (by rw [hB]; simp)
  go_enter Try.func89, Try.ntmps89
  go_wp2_with fail
  rw [← hB]
  clear hB
  go_loopw [5, 6] (fun lf k wx => ∃ A5 c5 n5 kk, lf = .slice A5 n5 c5 ∧ k = .int .i64 (kk : Nat) ∧ kk ≤ n ∧ OwnM wx B wx.heap.size A5 n5 c5 (divL i (l.take kk)) ∧ Below B w wx ∧ B ≤ wx.heap.size)
    (fun _ k _ => n - (intOf k).toNat)
  case atStart => exact ⟨_, 0, 0, 0, rfl, rfl, Nat.zero_le _, by simpa [divL, linL] using HO5.out, HB5.out, HZ5.out⟩
  case round =>
    obtain ⟨A5, c5, n5, k, rfl, rfl, hk, ho5, hb5, hz5⟩ := hrel
    clear HO5 HB5 HZ5
    have HO5 := Lib.hid ho5
    have HB5 := Lib.hid hb5
    have HZ5 := Lib.hid hz5
    have hsr := hs.below hb5 (by rw [← HB0.out]; exact Nat.le_refl _)
    have hs0 := hs
    clear ho5 hb5 hz5 hs
    by_cases hlt : k < n
    · have hltI : (k : Int) < (n : Int) := by omega
      have HNX := Lib.hid (div_next (l := l) i (k := k) (by rw [HL.out]; exact hlt))
      have h49 := H49.out _ (ce_mem (l := l) (k := k) (by rw [HL.out]; exact hlt))
      have h64 := H64.out _ (ce_mem (l := l) (k := k) (by rw [HL.out]; exact hlt))
      obtain ⟨b0, o, rfl, hb, hi0, hi1⟩ := hsr.at_ (k := k) hlt
      clear hs0 hsr
      obtain ⟨x, hx⟩ : ∃ x, x = (ce l k).1 := ⟨_, rfl⟩
      obtain ⟨z, hz⟩ : ∃ z, z = (ce l k).2 := ⟨_, rfl⟩
      rw [← hx] at hi0 h49
      rw [← hz] at hi1 h64
      have HXZ : Hid (scaleM (ce l k).2 (divF i (ce l k).1) = scaleM z (divF i x)) := Lib.hid (by rw [hx, hz])
      obtain ⟨a, ha⟩ : ∃ a, a = x / unitI i % 128 := ⟨_, rfl⟩
      obtain ⟨b, hbb⟩ : ∃ b, b = x / unitI (i + 1) % 128 := ⟨_, rfl⟩
      have hab : 0 ≤ a ∧ a ≤ 127 := by rw [ha]; omega
      have hbr : 0 ≤ b ∧ b ≤ 127 := by rw [hbb]; omega
      have C1 := Lib.hid (fun w => l2At_at (x := x) (j := (i : Int)) i rfl (by omega) h49.1 h49.2 ha w)
      have C2 := Lib.hid (fun w => l2At_at (x := x) (j := (i : Int) + 1) (i + 1) (by omega) (by omega) h49.1 h49.2 hbb w)
      obtain ⟨⟨u1, u2⟩, ⟨v1, v2⟩⟩ := HUB.out
      have m1 := mul_bnd (d := a) (U := U) (by omega) (by omega) u1 u2
      have m2 := mul_bnd (d := b) (U := V) (by omega) (by omega) v1 v2
      have h491 := h49.1
      have h492 := h49.2
      have hw1 : IntKind.i64.wrap (a * U) = a * U := IntWalk.i64_in _ (by omega)
      have hw2 : IntKind.i64.wrap (b * V) = b * V := IntWalk.i64_in _ (by omega)
      have hw3 : IntKind.i64.wrap (x - a * U) = x - a * U := IntWalk.i64_in _ (by omega)
      have hw4 : IntKind.i64.wrap (x - a * U - b * V) = x - a * U - b * V := IntWalk.i64_in _ (by omega)
      have hw5 : IntKind.i64.wrap (a - b) = a - b := IntWalk.i64_in _ (by omega)
      have hw6 : IntKind.i64.wrap (0 - (a - b)) = b - a := by rw [IntWalk.i64_in _ (by omega)]; omega
      have HAB := Lib.hid (And.intro ha hbb)
      have HMB := Lib.hid (And.intro m1 m2)
      have H6 := Lib.hid h64
      have HX49 := Lib.hid h49
      clear hx hz ha hbb h64 m1 m2 u1 u2 v1 v2 h49 h491 h492
      go_upto_region 7 with (first
        | (go_at_call 159; first | ((with_reducible refine (C1.out _).mono ?_); rintro e w1 ⟨rfl, rfl⟩) | ((with_reducible refine (C2.out _).mono ?_); rintro e w1 ⟨rfl, rfl⟩)))
      go_region_held3 (fun w' => w'.cell? ⟨b0, o + k * 2, none⟩ = some (.int .i64 x) ∧ w'.cell? ⟨b0, o + k * 2 + 1, none⟩ = some (.int .i64 z))
        (first | go_keep | assumption)
        (first
          | (go_at_call 160; first | ((with_reducible refine (C3.out _).mono ?_); rintro e w1 ⟨rfl, rfl⟩) | ((with_reducible refine (C4.out _).mono ?_); rintro e w1 ⟨rfl, rfl⟩)))
      go_upto_if 64 with fail
      obtain ⟨lo, hlo⟩ : ∃ lo, lo = min a b := ⟨_, rfl⟩
      obtain ⟨N, hN⟩ : ∃ N, N = (a - b).natAbs := ⟨_, rfl⟩
      obtain ⟨C, hC⟩ : ∃ C, C = if a < b then w64 (0 - z) else z := ⟨_, rfl⟩
      obtain ⟨r, hr⟩ : ∃ r, r = x - a * U - b * V := ⟨_, rfl⟩
      have hlr : 0 ≤ lo ∧ lo + N ≤ 127 := by rw [hlo, hN]; omega
      have hrr : -1117103813820416 ≤ r ∧ r ≤ 1680055767870464 := by
        have h1 := HMB.out
        have h2 := HX49.out
        unfold in49 at h2
        rw [hr]; omega
      have hlo' : (if b < a then b else a) = lo := by rw [hlo]; split <;> omega
      rw [hlo', ← hr]
      have HALL := Lib.hid (dvP_all HAB.out.1 HAB.out.2 HUU.out.1 HUU.out.2 hN H6.out hC)
      have HLO := Lib.hid hlo
      have HN := Lib.hid hN
      have HC := Lib.hid hC
      have HRD : Hid (r = x - a * U - b * V) := Lib.hid hr
      have HWD : Hid (OwnM w1.drew B w1.drew.heap.size A5 n5 c5 (divL i (l.take k)) ∧ Below B w w1.drew ∧ B ≤ w1.drew.heap.size) := Lib.hid ⟨HO5.out.drawn ⟨1, rfl⟩, HB5.out.drawnN 1, HZ5.out⟩
      clear hr hlo hlo' hw1 hw2 hw3 hw4 hN hC hb hi0 hi1 HO5 HB5 HZ5
      go_cut [11, 12] from 15 to 97 (fun nv cv wx => nv = .int .i64 (N : Nat) ∧ cv = .int .i64 C ∧ wx = w1.drew)
      case first =>
        by_cases hneg : a < b
        · have hnI : a - b < 0 := by omega
          have hNN : b - a = (N : Int) := by rw [HN.out]; omega
          go_wp2
          go_meet
          case rel =>
            refine ⟨?_, ?_, rfl⟩
            · exact congrArg (Value.int .i64) (by have := HN.out; omega)
            · rw [HC.out, if_pos hneg, Int.zero_sub]
              exact congrArg (Value.int .i64) (by first | exact wrap64_w64 _ | exact wrap_w64 _)
        · have hnI : ¬ a - b < 0 := by omega
          have hNN : a - b = (N : Int) := by rw [HN.out]; omega
          go_wp2
          go_meet
          case rel => exact ⟨congrArg (Value.int .i64) (by have := HN.out; omega), by rw [HC.out, if_neg (by omega)], rfl⟩
      case rest =>
        obtain ⟨rfl, rfl, rfl⟩ := hcut
        generalize w1.drew = w2 at *
        obtain ⟨ho5, hb5, hz5⟩ := HWD.out
        have HO5 := Lib.hid ho5
        have HB5 := Lib.hid hb5
        have HZ5 := Lib.hid hz5
        have hn5 : n5 ≤ 900000000 := by
          have h1 := ho5.len
          have h2 := div_len i (l.take k)
          rw [h1, List.length_take, HL.out, Nat.min_eq_left (by omega)] at h2
          omega
        clear ho5 hb5 hz5 HWD hw5 hw6
        go_wp2_with fail
        go_loopw [5, 13] (fun lf jv wx => ∃ A6 c6 j, lf = .slice A6 (n5 + j) c6 ∧ jv = .int .i64 (j : Nat) ∧ j ≤ N ∧ OwnM wx B wx.heap.size A6 (n5 + j) c6 (divL i (l.take k) ++ dvP x a b U V C N j) ∧ Below B w wx ∧ B ≤ wx.heap.size)
          (fun _ jv _ => N - (intOf jv).toNat)
        case atStart => exact ⟨A5, c5, 0, rfl, rfl, Nat.zero_le _, by simpa [dvP] using HO5.out, HB5.out, HZ5.out⟩
        case round =>
          obtain ⟨A6, c6, j, rfl, rfl, hj, ho6, hb6, hz6⟩ := hrel
          clear HO5 HB5 HZ5
          have HO6 := Lib.hid ho6
          have HB6 := Lib.hid hb6
          have HZ6 := Lib.hid hz6
          clear ho6 hb6 hz6
          by_cases hlt2 : j < N
          · have hlt2I : (j : Int) < (N : Int) := by omega
            have HNX2 := Lib.hid (dvP_next x a b U V C N j)
            obtain ⟨⟨u1, u2⟩, ⟨v1, v2⟩⟩ := HUB.out
            have m1 := mul_bnd (d := lo + N - 1 - j) (U := U) (by omega) (by omega) u1 u2
            have m2 := mul_bnd (d := lo + j) (U := V) (by omega) (by omega) v1 v2
            have hv1 : IntKind.i64.wrap (lo + N) = lo + N := IntWalk.i64_in _ (by omega)
            have hv2 : IntKind.i64.wrap (lo + N - 1) = lo + N - 1 := IntWalk.i64_in _ (by omega)
            have hv3 : IntKind.i64.wrap (lo + N - 1 - j) = lo + N - 1 - j := IntWalk.i64_in _ (by omega)
            have hv4 : IntKind.i64.wrap ((lo + N - 1 - j) * U) = (lo + N - 1 - j) * U := IntWalk.i64_in _ (by omega)
            have hv5 : IntKind.i64.wrap (r + (lo + N - 1 - j) * U) = r + (lo + N - 1 - j) * U := IntWalk.i64_in _ (by omega)
            have hv6 : IntKind.i64.wrap (lo + j) = lo + j := IntWalk.i64_in _ (by omega)
            have hv7 : IntKind.i64.wrap ((lo + j) * V) = (lo + j) * V := IntWalk.i64_in _ (by omega)
            have hv8 : IntKind.i64.wrap (r + (lo + N - 1 - j) * U + (lo + j) * V) = r + (lo + N - 1 - j) * U + (lo + j) * V := IntWalk.i64_in _ (by omega)
            clear u1 u2 v1 v2 m1 m2
            go_wp2_with (first
              | (go_at_call 160; first | ((with_reducible refine (C3.out _).mono ?_); rintro e w1 ⟨rfl, rfl⟩) | ((with_reducible refine (C4.out _).mono ?_); rintro e w1 ⟨rfl, rfl⟩))
              | (at_builtin; refine wpList_appendM rfl (.tmp 74) (.tmp 96) rfl B A6 (n5 + j) c6 (divL i (l.take k) ++ dvP x a b U V C N j) (r + (lo + N - 1 - j) * U + (lo + j) * V) C rfl rfl HO6.out HZ6.out (by omega) ?_; intro A7 c7 w7 ho7 hb7 _ _; have HO7 := Lib.hid ho7; have HB7 := Lib.hid hb7; clear ho7 hb7)
              | go_in)
            go_roundw
            case rel => exact ⟨A7, c7, j + 1, rfl, by go_num, by omega, by rw [HNX2.out, ← List.append_assoc, ← HLO.out, ← HRD.out]; exact HO7.out, HB6.out.trans HB7.out, Nat.le_trans HZ6.out HB7.out.size⟩
            case measure => simp [intOf]; omega
          · have hjN : j = N := by omega
            subst hjN
            have HOL : Hid (OwnM wr B wr.heap.size A6 (n5 + j) c6 (divL i (l.take (k + 1)))) := Lib.hid (by have := HO6.out; rw [HALL.out] at this; rw [HNX.out, HXZ.out]; exact this)
            go_wp2_with fail
            go_roundw
            case rel => exact ⟨A6, c6, n5 + j, k + 1, rfl, by go_num, by omega, HOL.out, HB6.out, HZ6.out⟩
            case measure => simp [intOf]; omega
    · have hkn : k = n := by omega
      subst hkn
      have HOL : Hid (OwnM wr B wr.heap.size A5 n5 c5 (divL i l)) := Lib.hid (by have := HO5.out; rwa [List.take_of_length_le (by rw [HL.out]; omega)] at this)
      have HG := Lib.hid (specGather_any A5 n5 c5 _ wr HOL.out.si (by have h1 := HOL.out.len; have h2 := div_len i l; rw [h1, HL.out] at h2; omega) (lin_in64 _ _))
      go_wp2_with (go_at_call 158; refine HG.out.mono ?_; rintro e w7 ⟨A7, n7, c7, rfl, ho7, hb7⟩; have HO7 := Lib.hid ho7; have HB7 := Lib.hid hb7; clear ho7 hb7)
      go_ret
      exact ⟨A7, n7, c7, rfl, HO7.out.wide (by rw [← HB0.out]; exact HZ5.out) (Nat.le_refl _), by rw [← HB0.out]; exact HB5.out.trans (HB7.out.mono HZ5.out)⟩
end Go.Proofs.Ytcoelbfcndeblaa

/-
  The program's polynomials under construction: times a variable. Conditions: exponents from 0 to 126.
-/

namespace Go.Proofs.Ytcoelbfcndeblaa
open Go.RowKit

/-- Exponents with one more at a place. -/
def incE (e : List Int) (i : Nat) : List Int := e.set i (nth e i + 1)
theorem incE_len (e : List Int) (i : Nat) : (incE e i).length = e.length := by simp [incE]
theorem set_nth {e : List Int} {i : Nat} (_hi : i < e.length) (x : Int) {k : Nat} (hk : k < e.length) : nth (e.set i x) k = if k = i then x else nth e k := by
  rw [nth_get (by simpa using hk), List.getElem_set]
  by_cases h : i = k
  · rw [if_pos h, if_pos h.symm]
  · rw [if_neg h, if_neg (fun h' => h h'.symm), nth_get hk]
theorem set_ex7 {e : List Int} (h : ex7 e) {i : Nat} (hi : i < 7) {x : Int} (hx : 0 ≤ x ∧ x ≤ 127) : ex7 (e.set i x) := by
  refine ⟨by simp [h.1], fun k hk => ?_⟩
  rw [set_nth (by rw [h.1]; exact hi) x (by rw [h.1]; exact hk)]
  split
  · exact hx
  · exact h.2 k hk
theorem set_key {e : List Int} (h : e.length = 7) {i : Nat} (hi : i < 7) (x : Int) : key7 (e.set i x) = key7 e + (x - nth e i) * unitI i := by
  match e, h with
  | [a, b, c, d, f, g, j], _ =>
    rcases lt7s hi with rfl | rfl | rfl | rfl | rfl | rfl | rfl <;> simp [key7, nth, unitI] <;> omega
/-- Each term times a variable. -/
def shiftF (i : Nat) (x : Int) : List Mn := [(x + unitI i, 1)]
def shiftL (i : Nat) (l : List Mn) : List Mn := linL (shiftF i) l
theorem shift_times (i : Nat) (l : List Mn) : shiftL i l = timesL l [(unitI i, 1)] := rfl

set_option maxRecDepth 100000 in
set_option maxHeartbeats 1000000 in
theorem timesVar_any (gp bp : Nat) (Mp : List Tm) (i : Nat) (d : Int) (w : World) (hp : SumP w gp bp Mp) (hcp : capE d Mp) (hd : d ≤ 126) (hi : i < 7) :
    Calls Try.prog 164 #[.pointer (some ⟨gp, 0, none⟩), .int .i64 i] w fun r w' => ∃ g b M', r = .returned (.pointer (some ⟨g, 0, none⟩)) ∧
      SumP w' g b M' ∧ w.heap.size ≤ g ∧ w.heap.size ≤ b ∧ sameC (openM M') (shiftL i (openM Mp)) ∧ capE (d + 1) M' ∧ Below w.heap.size w w' := by
  have HP := Lib.hid hp
  have HCP := Lib.hid hcp
  have HLP := Lib.hid hp.2.lt
  have HLG := Lib.hid hp.1.lt
  have HGD := Lib.hid hp.2.good
  clear hp hcp
  go_enter Try.func164, Try.ntmps164
  go_wp2_with (first
    | (go_at_call 120; refine (newSum_any _).mono ?_; rintro r w1 ⟨g5, b5, rfl, hs1, hg51, hb51, hbel1⟩; have HS1 := Lib.hid hs1; have HB1 := Lib.hid hbel1; have HG51 := Lib.hid hg51; have HB51 := Lib.hid hb51; clear hs1 hbel1 hg51 hb51; have hf := (HP.out.below HB1.out HLG.out HLP.out).field)
    | (at_range; refine wpList_rangeE _ rfl _ rfl rfl (HP.out.below HB1.out HLG.out HLP.out).2 ?_; intro w0 hrg0 hg0 hs0)
    | go_in)
  go_frame
  have HBW : Hid (Below w.heap.size w w0) := Lib.hid (HB1.out.trans (grown_belowM hg0 HB1.out.size (by simp)))
  have HS0 : Hid (SumP w0 g5 b5 []) := Lib.hid (HS1.out.kept hg0 (by simp) (by simp))
  have HR0 := Lib.hid hrg0
  have HR1W : Hid (w.heap.size ≤ w1.heap.size) := Lib.hid HB1.out.size
  have HRB : Hid (b5 < w1.heap.size ∧ g5 < w1.heap.size) := Lib.hid ⟨HS1.out.2.lt, HS1.out.1.lt⟩
  obtain ⟨R, hR⟩ : ∃ R, R = w1.heap.size := ⟨_, rfl⟩
  rw [← hR] at HR0 HR1W HRB ⊢
  clear hrg0 hg0 hs0 hf HS1 HB1 hR
  go_loopw [14] (fun _ wr => ∃ M' done, SumP wr g5 b5 M' ∧ RangeE wr bp R Mp done ∧ sameC (openM M') (shiftL i (openM done)) ∧ capE (d + 1) M' ∧ Below w.heap.size w wr)
    (fun _ wr => wr.rangeLeft bp R)
  case atStart => exact ⟨[], [], HS0.out, HR0.out, sameC.refl _, capE.nil _, HBW.out⟩
  case round =>
    obtain ⟨M', done, hs, hrg, hsame, hcap, hbw⟩ := hrel
    clear HR0 HS0 HBW
    have HS := Lib.hid hs
    have HSM := Lib.hid hsame
    have HCA := Lib.hid hcap
    have HBW := Lib.hid hbw
    have HRG := Lib.hid hrg
    clear hs hsame hcap hbw hrg
    go_wp2_with (first
      | (at_next; refine wpList_nextE _ rfl _ rfl rfl HRG.out ?_ ?_)
      | go_in)
    · intro hdone
      have HD := Lib.hid hdone
      clear hdone
      go_wp2
      go_ret
      exact ⟨g5, b5, M', rfl, HS.out, HG51.out, HB51.out, HSM.out.trans ((sameC.open HD.out).lin _), HCA.out, HBW.out⟩
    · intro e c w2 htM hrg1 hlt hg1 hs1 hen
      have hex : ex7 e := (HGD.out _ htM).1
      have hct : ∀ k, k < 7 → nth e k ≤ d := HCP.out _ htM
      have hlr := HRB.out
      have hrw := HR1W.out
      have hbn : bp ≠ b5 := by have := HLP.out; have := HB51.out; omega
      have HEX := Lib.hid hex
      have HCT := Lib.hid hct
      have HLT := Lib.hid hlt
      have hws := HBW.out.size
      have hne5 : R ≠ b5 ∧ R ≠ g5 := by omega
      have HN5 := Lib.hid hne5
      have hA : Blk (w2.alloc (.cells (arrC e) 156)) w2.heap.size 156 (arrC e) := Blk.new _ _ _
      have hA2 : Blk ((w2.alloc (.cells (arrC e) 156)).setCell ⟨w2.heap.size, i, none⟩ (.int .i64 (nth e i + 1))) w2.heap.size 156 (arrC (incE e i)) := by
        have := hA.set_ i (.int .i64 (nth e i + 1))
        rwa [arrC_set e i hi _ hex.1] at this
      have h2b : Below w.heap.size w w2 := HBW.out.trans (grown_belowM hg1 hws (fun j hj => by injection hj with hj; omega))
      have h3b : Below w.heap.size w ((w2.alloc (.cells (arrC e) 156)).setCell ⟨w2.heap.size, i, none⟩ (.int .i64 (nth e i + 1))) := (h2b.alloc h2b.size _).setCell h2b.size _
      have hS2 : SumP ((w2.alloc (.cells (arrC e) 156)).setCell ⟨w2.heap.size, i, none⟩ (.int .i64 (nth e i + 1))) g5 b5 M' := by
        have h1 := (HS.out.kept hg1 (fun h => by injection h with h; omega) (fun h => by injection h with h; omega))
        have h2 := h1.alloc (.cells (arrC e) 156)
        exact ⟨h2.1.far (by have := h1.1.lt; show g5 ≠ w2.heap.size; omega) _, h2.2.same (Below.heap_setCell _ _ _ _ (by have := h1.2.lt; show b5 ≠ w2.heap.size; omega))⟩
      have hR2 : RangeE ((w2.alloc (.cells (arrC e) 156)).setCell ⟨w2.heap.size, i, none⟩ (.int .i64 (nth e i + 1))) bp R Mp (done ++ [(e, c)]) := by
        have h2 := hrg1.kept (World.grownBy_alloc _ (.cells (arrC e) 156) none) (by simp) (by simp)
        have l1 := hrg1.map.lt
        have l2 := hrg1.lt
        exact h2.same (Below.heap_setCell _ _ _ _ (by show bp ≠ w2.heap.size; omega)) (Below.heap_setCell _ _ _ _ (by show R ≠ w2.heap.size; omega))
      have hc := hA.cell i
      rw [arrC_get e i hi] at hc
      have hz := hA.frozen i
      have hwp : IntKind.i64.wrap (nth e i + 1) = nth e i + 1 := IntWalk.i64_in _ (by have := hex.2 i hi; omega)
      have hi0 : (0 : Int) ≤ (i : Int) := by omega
      have hi7 : (i : Int) < 7 := by omega
      have HA2 := Lib.hid hA2
      have HB3 := Lib.hid h3b
      have HS2 := Lib.hid hS2
      have HR2 := Lib.hid hR2
      have HI := Lib.hid hi
      have hei : ex7 (incE e i) := set_ex7 hex hi (by have := hex.2 i hi; have := hct i hi; omega)
      have HEI := Lib.hid hei
      clear hA hA2 h2b h3b hS2 hR2 hrg1 hlt hg1 hs1 hex htM hct hne5 hei hbn hlr
      go_upto_region 5 with fail
      generalize (w2.alloc (.cells (arrC e) 156)) = w3 at *
      go_wp2_with (first
        | (refine wpList_load_blk rfl 156 (.tmp 6) rfl w2.heap.size rfl 156 (arrC (incE e i)) 7 3 HA2.out Try.undExp Try.infoExp ?_)
        | (go_at_call 153; refine (add_any g5 b5 M' (incE e i) c _ HS2.out HEI.out).mono ?_; rintro r w5 ⟨rfl, hs5, hg5⟩; have HS5 := Lib.hid hs5; have HG5 := Lib.hid hg5; clear hs5 hg5)
        | go_in)
      have HR5 := Lib.hid (HR2.out.kept HG5.out (fun h => by injection h with h; have := HLP.out; have := HB51.out; omega) (fun h => by injection h with h; exact HN5.out.1 h))
      go_roundw
      case rel =>
        refine ⟨_, _, HS5.out, HR5.out, ?_, HCA.out.put (fun k hk => ?_) _, HB3.out.trans (grown_belowM HG5.out HB3.out.size (fun j hj => by injection hj with hj; have := HB51.out; omega))⟩
        · refine (put_same _ _ _).trans ?_
          rw [openM_app]
          unfold shiftL
          rw [linL_app]
          refine HSM.out.app ?_
          show sameC [(key7 (incE e i), c)] [(key7 e + unitI i, w64 (c * 1))]
          rw [show key7 (incE e i) = key7 e + unitI i by unfold incE; rw [set_key HEX.out.1 HI.out]; omega]
          exact sameC.one (by have := w64_eqm (c * 1); rw [eqm_iff] at *; omega)
        · unfold incE
          rw [set_nth (by rw [HEX.out.1]; exact HI.out) _ (by rw [HEX.out.1]; exact hk)]
          have h1 := HCT.out k hk
          split
          · rename_i h; subst h; omega
          · omega
      case measure =>
        have h1 := HR5.out.left_eq
        have h2 := HRG.out.left_eq
        have h3 := HLT.out
        rw [List.length_append] at h1
        simp at h1
        omega
end Go.Proofs.Ytcoelbfcndeblaa

/-
  The program's polynomials under construction: the divided difference of one term added. Conditions: exponents from 0 to 127.
-/



namespace Go.Proofs.Ytcoelbfcndeblaa
open Go.RowKit

theorem putE_set0 (e : List Int) (i : Nat) (x y x' : Int) : (putE e i x y).set i x' = putE e i x' y := by
  unfold putE
  rw [List.set_comm _ _ (by omega : i + 1 ≠ i), List.set_set]
theorem putE_set1 (e : List Int) (i : Nat) (x y y' : Int) : (putE e i x y).set (i + 1) y' = putE e i x y' := by
  unfold putE
  rw [List.set_set]
theorem putE_self {e : List Int} {i : Nat} (h : i + 1 < e.length) : putE e i (nth e i) (nth e (i + 1)) = e := by
  unfold putE
  apply List.ext_getElem (by simp)
  intro j h1 h2
  rw [List.getElem_set]
  split
  · rename_i h3; subst h3; rw [nth_get h]
  · rw [List.getElem_set]
    split
    · rename_i h3; subst h3; rw [nth_get (by omega)]
    · rfl
theorem grown_setCell {w w' : World} {row : Option Nat} (h : w.grownBy w' row) {p : Addr} (hp : w.heap.size ≤ p.block) (u : Value) : w.grownBy (w'.setCell p u) row :=
  ⟨h.os, h.tape, h.output, by simpa using h.size, fun k hk hne => (Below.heap_setCell w' p u k (by omega)).trans (h.block k hk hne)⟩
theorem SumP.setCell {w : World} {g b : Nat} {M : List Tm} (h : SumP w g b M) {p : Addr} (h1 : g ≠ p.block) (h2 : b ≠ p.block) (u : Value) : SumP (w.setCell p u) g b M :=
  ⟨h.1.far h1 u, h.2.same (Below.heap_setCell w p u b h2)⟩
/-- What has come of one term after j rounds. -/
def dvJ (e : List Int) (i : Nat) (X Y C : Int) (j : Nat) : List Mn := (List.range j).map fun (m : Nat) => (key7 (putE e i (X - 1 - m) (Y + m)), C)
theorem dvJ_next (e : List Int) (i : Nat) (X Y C : Int) (j : Nat) : dvJ e i X Y C (j + 1) = dvJ e i X Y C j ++ [(key7 (putE e i (X - 1 - j) (Y + j)), C)] := by
  unfold dvJ; rw [List.range_succ, List.map_append]; rfl
theorem sameC_map {α : Type} (k f g : α → Int) : ∀ (l : List α), (∀ t ∈ l, eqm (f t) (g t)) → sameC (l.map fun t => (k t, f t)) (l.map fun t => (k t, g t))
  | [], _ => sameC.refl _
  | t :: l, h => (sameC.one (h t List.mem_cons_self)).app (sameC_map k f g l fun u hu => h u (List.mem_cons_of_mem _ hu))
theorem dvJ_all {e : List Int} (he : ex7 e) {i : Nat} (hi : i < 6) (c X Y C : Int) (hX : X = if nth e i < nth e (i + 1) then nth e (i + 1) else nth e i) (hY : Y = if nth e i < nth e (i + 1) then nth e i else nth e (i + 1))
    (hC : C = if nth e i < nth e (i + 1) then w64 (-c) else c) : sameC (dvJ e i X Y C (X - Y).toNat) (scaleM c (divF i (key7 e))) := by
  unfold divF
  rw [divK_key he hi, sgK_key he hi]
  unfold ddE scaleM dvJ
  rw [List.map_map, List.map_map, List.map_map]
  have hn : (X - Y).toNat = (nth e i - nth e (i + 1)).natAbs := by rw [hX, hY]; split <;> omega
  rw [hn]
  have hm : Y = min (nth e i) (nth e (i + 1)) := by rw [hY]; split <;> omega
  have hx : ∀ m : Nat, X - 1 - (m : Int) = min (nth e i) (nth e (i + 1)) + ((nth e i - nth e (i + 1)).natAbs : Int) - 1 - m := fun m => by rw [hX]; split <;> omega
  have e1 : ((List.range (nth e i - nth e (i + 1)).natAbs).map fun (m : Nat) => (key7 (putE e i (X - 1 - m) (Y + m)), C)) = (List.range (nth e i - nth e (i + 1)).natAbs).map fun (m : Nat) => (key7 (putE e i (min (nth e i) (nth e (i + 1)) + ((nth e i - nth e (i + 1)).natAbs : Int) - 1 - m) (min (nth e i) (nth e (i + 1)) + m)), C) := by
    apply List.map_congr_left
    intro m _
    rw [hx m, hm]
  rw [e1]
  refine sameC_map _ _ _ _ fun m _ => ?_
  show eqm C (w64 (c * ddS e i))
  unfold ddS
  rw [hC]
  split
  · rw [Int.mul_neg_one]; exact eqm.refl _
  · rw [Int.mul_one]; exact (w64_eqm c).symm

set_option maxRecDepth 100000 in
set_option maxHeartbeats 2000000 in
theorem addDiff_any (g b : Nat) (M : List Tm) (e : List Int) (c : Int) (i : Nat) (d : Int) (w : World) (h : SumP w g b M) (he : ex7 e) (hi : i < 6) (hcap : capE d M) (hce : ∀ k, k < 7 → nth e k ≤ d) :
    Calls Try.prog 155 #[.pointer (some ⟨g, 0, none⟩), arr e, .int .i64 c, .int .i64 i] w fun r w' => r = .returned (.tuple #[]) ∧
      ∃ M', SumP w' g b M' ∧ sameC (openM M') (openM M ++ scaleM c (divF i (key7 e))) ∧ capE d M' ∧ w.grownBy w' (some b) := by
  have hA : Blk (w.alloc (.cells (arrC e) 156)) w.heap.size 156 (arrC e) := Blk.new _ _ _
  have hS := h.alloc (.cells (arrC e) 156)
  have hG : w.grownBy (w.alloc (.cells (arrC e) 156)) (some b) := World.grownBy_alloc _ _ _
  obtain ⟨x, hx⟩ : ∃ x, x = nth e i := ⟨_, rfl⟩
  obtain ⟨y, hy⟩ : ∃ y, y = nth e (i + 1) := ⟨_, rfl⟩
  have xr : 0 ≤ x ∧ x ≤ 127 := by rw [hx]; exact he.2 i (by omega)
  have yr : 0 ≤ y ∧ y ≤ 127 := by rw [hy]; exact he.2 (i + 1) (by omega)
  have xd : x ≤ d := by rw [hx]; exact hce i (by omega)
  have yd : y ≤ d := by rw [hy]; exact hce (i + 1) (by omega)
  obtain ⟨X, hX⟩ : ∃ X, X = if x < y then y else x := ⟨_, rfl⟩
  obtain ⟨Y, hY⟩ : ∃ Y, Y = if x < y then x else y := ⟨_, rfl⟩
  obtain ⟨C, hC⟩ : ∃ C, C = if x < y then w64 (-c) else c := ⟨_, rfl⟩
  have HALL : Hid (sameC (dvJ e i X Y C (X - Y).toNat) (scaleM c (divF i (key7 e)))) := Lib.hid (dvJ_all he hi c X Y C (by rw [hX, hx, hy]) (by rw [hY, hx, hy]) (by rw [hC, hx, hy]))
  have hXY : 0 ≤ Y ∧ Y ≤ X ∧ X ≤ 127 ∧ X ≤ d := by
    rw [hX, hY]
    split <;> omega
  have hgl := h.1.lt
  have hbl := h.2.lt
  have hi0 : (0 : Int) ≤ (i : Int) := by omega
  have hi7 : (i : Int) < 7 := by omega
  have hi8 : (i : Int) + 1 < 7 := by omega
  have hin : ¬ (i : Int) + 1 < 0 := by omega
  have hip : (0 : Int) ≤ (i : Int) + 1 := by omega
  have hw1 : IntKind.i64.wrap ((i : Int) + 1) = (i : Int) + 1 := IntWalk.i64_in _ (by omega)
  have HE := Lib.hid he
  have HI := Lib.hid hi
  have HCAP := Lib.hid hcap
  have HCE := Lib.hid hce
  have HX := Lib.hid hX
  have HY := Lib.hid hY
  have HC := Lib.hid hC
  have HXV := Lib.hid hx
  have HYV := Lib.hid hy
  have HXY := Lib.hid hXY
  have HGL := Lib.hid hgl
  have HBL := Lib.hid hbl
  have HNE := Lib.hid h.ne
  clear he hcap hce hX hY hC hXY hgl hbl h
  go_enter Try.func155, Try.ntmps155
  go_upto_region 1 with fail
  generalize (w.alloc (.cells (arrC e) 156)) = w1 at *
  obtain ⟨nb, hnb⟩ : ∃ nb, nb = w.heap.size := ⟨_, rfl⟩
  rw [← hnb] at hA ⊢
  have HNB := Lib.hid hnb
  have q0 : w1.cell? ⟨nb, i, none⟩ = some (.int .i64 x) := by rw [hx, hA.cell i]; exact arrC_get e i (by omega)
  have q1 : w1.cell? ⟨nb, i + 1, none⟩ = some (.int .i64 y) := by rw [hy, hA.cell (i + 1)]; exact arrC_get e (i + 1) (by omega)
  have f0 := hA.frozen i
  have f1 := hA.frozen (i + 1)
  have HA := Lib.hid hA
  have HS := Lib.hid hS
  have HG := Lib.hid hG
  clear hA hS hG hx hy hnb
  go_region
  go_upto_if 15 with fail
  go_cut [2] from 8 (fun c2 wx => c2 = .int .i64 C ∧ Blk wx nb 156 (arrC (putE e i X Y)) ∧ SumP wx g b M ∧ w.grownBy wx (some b))
  case first =>
    have q0' : w1.drew.cell? ⟨nb, i, none⟩ = some (.int .i64 x) := q0
    have q1' : w1.drew.cell? ⟨nb, i + 1, none⟩ = some (.int .i64 y) := q1
    have f0' : w1.drew.frozen? ⟨nb, i, none⟩ = false := f0
    have f1' : w1.drew.frozen? ⟨nb, i + 1, none⟩ = false := f1
    have HA' : Hid (Blk w1.drew nb 156 (arrC e)) := Lib.hid HA.out
    have HS' : Hid (SumP w1.drew g b M) := Lib.hid HS.out
    have HG' : Hid (w.grownBy w1.drew (some b)) := Lib.hid ⟨HG.out.os, HG.out.tape, HG.out.output, HG.out.size, HG.out.block⟩
    clear q0 q1 f0 f1 HA HS HG
    generalize w1.drew = w2 at *
    by_cases hlt : x < y
    · have r2 : (w2.setCell ⟨nb, i, none⟩ (.int .i64 y)).cell? ⟨nb, i + 1, none⟩ = some (.int .i64 y) := (World.cell?_setCell_other w2 _ _ _ (by intro e; injection e with _ e; omega)).trans q1'
      have r3 : (w2.setCell ⟨nb, i, none⟩ (.int .i64 y)).frozen? ⟨nb, i + 1, none⟩ = false := by simpa using f1'
      have r4 : (w2.setCell ⟨nb, i + 1, none⟩ (.int .i64 x)).cell? ⟨nb, i, none⟩ = some (.int .i64 x) := (World.cell?_setCell_other w2 _ _ _ (by intro e; injection e with _ e; omega)).trans q0'
      have r5 : (w2.setCell ⟨nb, i + 1, none⟩ (.int .i64 x)).frozen? ⟨nb, i, none⟩ = false := by simpa using f0'
      go_upto_region 2 with fail
      go_region
      go_wp2
      go_meet
      case rel =>
        have hb2 := HGL.out
        have hb3 := HBL.out
        have hb4 := HNB.out
        have hA3 := (HA'.out.set_ i (.int .i64 y)).set_ (i + 1) (.int .i64 x)
        rw [arrC_set e i (by omega) y HE.out.1, arrC_set _ (i + 1) (by omega) x (by simp [HE.out.1])] at hA3
        have hS3 : SumP ((w2.setCell ⟨nb, i, none⟩ (.int .i64 y)).setCell ⟨nb, i + 1, none⟩ (.int .i64 x)) g b M := (HS'.out.setCell (by show g ≠ nb; omega) (by show b ≠ nb; omega) _).setCell (by show g ≠ nb; omega) (by show b ≠ nb; omega) _
        have hG3 := grown_setCell (grown_setCell HG'.out (p := ⟨nb, i, none⟩) (by show _ ≤ nb; omega) (.int .i64 y)) (p := ⟨nb, i + 1, none⟩) (by show _ ≤ nb; omega) (.int .i64 x)
        refine ⟨?_, ?_, hS3, ⟨hG3.os, hG3.tape, hG3.output, hG3.size, hG3.block⟩⟩
        · rw [HC.out, if_pos hlt, wrap64_w64]
        · rw [HX.out, HY.out, if_pos hlt, if_pos hlt]
          exact hA3
    · go_wp2
      go_meet
      case rel =>
        refine ⟨?_, ?_, HS'.out, HG'.out⟩
        · rw [HC.out, if_neg (Int.not_lt.2 hlt)]
        · rw [HX.out, HY.out, if_neg (Int.not_lt.2 hlt), if_neg (Int.not_lt.2 hlt), HXV.out, HYV.out, putE_self (by rw [HE.out.1]; omega)]
          exact HA'.out
  case rest =>
    obtain ⟨rfl, hA, hS, hG⟩ := hcut
    clear q0 q1 f0 f1 HA HS HG
    have q0 : wc.cell? ⟨nb, i, none⟩ = some (.int .i64 X) := by rw [hA.cell i, arrC_get _ i (by omega), putE_nth (by rw [HE.out.1]; omega) _ _ (by rw [HE.out.1]; omega), if_neg (by omega), if_pos rfl]
    have q1 : wc.cell? ⟨nb, i + 1, none⟩ = some (.int .i64 Y) := by rw [hA.cell (i + 1), arrC_get _ (i + 1) (by omega), putE_nth (by rw [HE.out.1]; omega) _ _ (by rw [HE.out.1]; omega), if_pos rfl]
    have hxy := HXY.out
    have hw2 : IntKind.i64.wrap (X - Y) = X - Y := IntWalk.i64_in _ (by omega)
    have HA := Lib.hid hA
    have HS := Lib.hid hS
    have HG := Lib.hid hG
    clear hA hS hG
    go_upto_region 4 with fail
    go_region
    go_wp2_with fail
    obtain ⟨n, hn⟩ : ∃ n : Nat, X - Y = n := ⟨(X - Y).toNat, by omega⟩
    have HN := Lib.hid hn
    rw [hn]
    have hn127 : n ≤ 127 := by omega
    clear q0 q1 hw2 hn
    have HAd : Hid (Blk wc.drew nb 156 (arrC (putE e i X Y))) := Lib.hid HA.out
    have HSd : Hid (SumP wc.drew g b M) := Lib.hid HS.out
    have HGd : Hid (w.grownBy wc.drew (some b)) := Lib.hid ⟨HG.out.os, HG.out.tape, HG.out.output, HG.out.size, HG.out.block⟩
    clear HA HS HG
    generalize wc.drew = w5 at *
    go_loopw [38] (fun jv wr => ∃ (j : Nat) (M' : List Tm), jv = .int .i64 j ∧ j ≤ n ∧ Blk wr nb 156 (arrC (putE e i (X - j) (Y + j))) ∧ SumP wr g b M' ∧ sameC (openM M') (openM M ++ dvJ e i X Y C j) ∧ capE d M' ∧ w.grownBy wr (some b))
      (fun jv _ => n - (intOf jv).toNat)
    case atStart => exact ⟨0, M, rfl, Nat.zero_le _, by simpa using HAd.out, HSd.out, by simpa [dvJ] using sameC.refl _, HCAP.out, HGd.out⟩
    case round =>
      obtain ⟨j, M', rfl, hj, hA, hS, hsame, hcap, hgw⟩ := hrel
      clear HAd HSd HGd
      have HSM := Lib.hid hsame
      have HCA := Lib.hid hcap
      have HGW := Lib.hid hgw
      have HS := Lib.hid hS
      have HA := Lib.hid hA
      clear hsame hcap hgw hS
      by_cases hlt : j < n
      · have hltI : (j : Int) < (n : Int) := by omega
        have hxy := HXY.out
        have hnn := HN.out
        have hnb : w.heap.size ≤ nb := Nat.le_of_eq HNB.out.symm
        have hgl := HGL.out
        have hbl := HBL.out
        obtain ⟨u, hu⟩ : ∃ u : Int, u = X - j := ⟨_, rfl⟩
        obtain ⟨v, hv⟩ : ∃ v : Int, v = Y + j := ⟨_, rfl⟩
        rw [← hu, ← hv] at hA
        have hur : 1 ≤ u ∧ u ≤ 127 ∧ u ≤ d := by omega
        have hvr : 0 ≤ v ∧ v ≤ 126 ∧ v ≤ d := by omega
        have q0 : wr.cell? ⟨nb, i, none⟩ = some (.int .i64 u) := by rw [hA.cell i, arrC_get _ i (by omega), putE_nth (by rw [HE.out.1]; omega) _ _ (by rw [HE.out.1]; omega), if_neg (by omega), if_pos rfl]
        have f0 := hA.frozen i
        have hwu : IntKind.i64.wrap (u - 1) = u - 1 := IntWalk.i64_in _ (by omega)
        have hwv : IntKind.i64.wrap (v + 1) = v + 1 := IntWalk.i64_in _ (by omega)
        have hA1 : Blk (wr.setCell ⟨nb, i, none⟩ (.int .i64 (u - 1))) nb 156 (arrC (putE e i (u - 1) v)) := by
          have := hA.set_ i (.int .i64 (u - 1))
          rwa [arrC_set _ i (by omega) _ (by rw [putE_len, HE.out.1]), putE_set0] at this
        have hS1 : SumP (wr.setCell ⟨nb, i, none⟩ (.int .i64 (u - 1))) g b M' := HS.out.setCell (by show g ≠ nb; omega) (by show b ≠ nb; omega) _
        have hex : ex7 (putE e i (u - 1) v) := putE_ex7 HE.out HI.out (by omega) (by omega)
        have HA1 := Lib.hid hA1
        have HS1 := Lib.hid hS1
        have HEX := Lib.hid hex
        have HG1 : Hid (w.grownBy (wr.setCell ⟨nb, i, none⟩ (.int .i64 (u - 1))) (some b)) := Lib.hid (grown_setCell HGW.out (by show _ ≤ nb; omega) _)
        have HU := Lib.hid hu
        have HV := Lib.hid hv
        clear hA hA1 hS1 hex hu hv HA HS hnn hxy
        go_upto_region 7 with fail
        generalize (wr.setCell ⟨nb, i, none⟩ (.int .i64 (u - 1))) = w6 at *
        clear q0 f0
        go_upto_region 8 with (first
          | (refine wpList_load_blk rfl 156 (.tmp 5) rfl nb rfl 156 (arrC (putE e i (u - 1) v)) 7 3 HA1.out Try.undExp Try.infoExp ?_)
          | (go_at_call 153; refine (add_any g b M' (putE e i (u - 1) v) C _ HS1.out HEX.out).mono ?_; rintro r w7 ⟨rfl, hs7, hg7⟩; have HS7 := Lib.hid hs7; have HG7 := Lib.hid hg7; clear hs7 hg7)
          | go_in)
        have hA7 : Blk w7 nb 156 (arrC (putE e i (u - 1) v)) := HA1.out.grown HG7.out (fun h => by injection h with h; omega)
        have q1 : w7.cell? ⟨nb, i + 1, none⟩ = some (.int .i64 v) := by rw [hA7.cell (i + 1), arrC_get _ (i + 1) (by omega), putE_nth (by rw [HE.out.1]; omega) _ _ (by rw [HE.out.1]; omega), if_pos rfl]
        have f1 := hA7.frozen (i + 1)
        have hA8 : Blk (w7.setCell ⟨nb, i + 1, none⟩ (.int .i64 (v + 1))) nb 156 (arrC (putE e i (u - 1) (v + 1))) := by
          have := hA7.set_ (i + 1) (.int .i64 (v + 1))
          rwa [arrC_set _ (i + 1) (by omega) _ (by rw [putE_len, HE.out.1]), putE_set1] at this
        have HA8 := Lib.hid hA8
        have HS8 : Hid (SumP (w7.setCell ⟨nb, i + 1, none⟩ (.int .i64 (v + 1))) g b (putT M' (putE e i (u - 1) v) (w64 (cfT M' (putE e i (u - 1) v) + C)))) := Lib.hid (HS7.out.setCell (by show g ≠ nb; omega) (by show b ≠ nb; omega) _)
        have HG8 : Hid (w.grownBy (w7.setCell ⟨nb, i + 1, none⟩ (.int .i64 (v + 1))) (some b)) := Lib.hid (grown_setCell (grown_then HG1.out HG7.out (fun j hj => .inr hj)) (by show _ ≤ nb; omega) _)
        clear hA7 hA8 hnb hgl hbl
        go_wp2_with fail
        go_roundw
        case rel =>
          have hu := HU.out
          have hv := HV.out
          refine ⟨j + 1, _, by go_num, by omega, ?_, HS8.out, ?_, HCA.out.put (fun k hk => ?_) _, HG8.out⟩
          · rw [show X - ((j + 1 : Nat) : Int) = u - 1 by omega, show Y + ((j + 1 : Nat) : Int) = v + 1 by omega]
            exact HA8.out
          · refine (put_same _ _ _).trans ?_
            rw [dvJ_next, ← List.append_assoc, show X - 1 - (j : Int) = u - 1 by omega, show Y + (j : Int) = v by omega]
            exact HSM.out.app (sameC.refl _)
          · rw [putE_nth (by rw [HE.out.1]; have := HI.out; omega) _ _ (by rw [HE.out.1]; exact hk)]
            have h1 := HCE.out k hk
            split
            · omega
            · split <;> omega
        case measure => simp [intOf]; omega
      · have hjn : j = n := by omega
        subst hjn
        have HD : Hid (dvJ e i X Y C j = dvJ e i X Y C (X - Y).toNat) := Lib.hid (by rw [HN.out]; rfl)
        clear hA
        go_wp2
        go_end0
        exact ⟨rfl, M', HS.out, HSM.out.trans ((sameC.refl _).app (by rw [HD.out]; exact HALL.out)), HCA.out, HGW.out⟩
end Go.Proofs.Ytcoelbfcndeblaa

/-
  The program's polynomials under construction: divided differences, sums of terms. Conditions: exponents from 0 to 127, lengths below 2^40.
-/


namespace Go.Proofs.Ytcoelbfcndeblaa
open Go.RowKit

set_option maxRecDepth 100000 in
set_option maxHeartbeats 1000000 in
theorem divDiff_any (gp bp : Nat) (Mp : List Tm) (i : Nat) (d : Int) (w : World) (hp : SumP w gp bp Mp) (hcp : capE d Mp) (hi : i < 6) :
    Calls Try.prog 83 #[.pointer (some ⟨gp, 0, none⟩), .int .i64 i] w fun r w' => ∃ g b M', r = .returned (.pointer (some ⟨g, 0, none⟩)) ∧
      SumP w' g b M' ∧ w.heap.size ≤ g ∧ w.heap.size ≤ b ∧ sameC (openM M') (divL i (openM Mp)) ∧ capE d M' ∧ Below w.heap.size w w' := by
  have HP := Lib.hid hp
  have HCP := Lib.hid hcp
  have HLP := Lib.hid hp.2.lt
  have HLG := Lib.hid hp.1.lt
  have HGD := Lib.hid hp.2.good
  clear hp hcp
  go_enter Try.func83, Try.ntmps83
  go_wp2_with (first
    | (go_at_call 120; refine (newSum_any _).mono ?_; rintro r w1 ⟨g5, b5, rfl, hs1, hg51, hb51, hbel1⟩; have HS1 := Lib.hid hs1; have HB1 := Lib.hid hbel1; have HG51 := Lib.hid hg51; have HB51 := Lib.hid hb51; clear hs1 hbel1 hg51 hb51; have hf := (HP.out.below HB1.out HLG.out HLP.out).field)
    | (at_range; refine wpList_rangeE _ rfl _ rfl rfl (HP.out.below HB1.out HLG.out HLP.out).2 ?_; intro w0 hrg0 hg0 hs0)
    | go_in)
  go_frame
  have HBW : Hid (Below w.heap.size w w0) := Lib.hid (HB1.out.trans (grown_belowM hg0 HB1.out.size (by simp)))
  have HS0 : Hid (SumP w0 g5 b5 []) := Lib.hid (HS1.out.kept hg0 (by simp) (by simp))
  have HR0 := Lib.hid hrg0
  have HR1W : Hid (w.heap.size ≤ w1.heap.size) := Lib.hid HB1.out.size
  have HRB : Hid (b5 < w1.heap.size ∧ g5 < w1.heap.size) := Lib.hid ⟨HS1.out.2.lt, HS1.out.1.lt⟩
  obtain ⟨R, hR⟩ : ∃ R, R = w1.heap.size := ⟨_, rfl⟩
  rw [← hR] at HR0 HR1W HRB ⊢
  clear hrg0 hg0 hs0 hf HS1 HB1 hR
  go_loopw [14] (fun _ wr => ∃ M' done, SumP wr g5 b5 M' ∧ RangeE wr bp R Mp done ∧ sameC (openM M') (divL i (openM done)) ∧ capE d M' ∧ Below w.heap.size w wr)
    (fun _ wr => wr.rangeLeft bp R)
  case atStart => exact ⟨[], [], HS0.out, HR0.out, sameC.refl _, capE.nil _, HBW.out⟩
  case round =>
    obtain ⟨M', done, hs, hrg, hsame, hcap, hbw⟩ := hrel
    clear HR0 HS0 HBW
    have HS := Lib.hid hs
    have HSM := Lib.hid hsame
    have HCA := Lib.hid hcap
    have HBW := Lib.hid hbw
    have HRG := Lib.hid hrg
    clear hs hsame hcap hbw hrg
    go_wp2_with (first
      | (at_next; refine wpList_nextE _ rfl _ rfl rfl HRG.out ?_ ?_)
      | go_in)
    · intro hdone
      have HD := Lib.hid hdone
      clear hdone
      go_wp2
      go_ret
      exact ⟨g5, b5, M', rfl, HS.out, HG51.out, HB51.out, HSM.out.trans ((sameC.open HD.out).lin _), HCA.out, HBW.out⟩
    · intro e c w2 htM hrg1 hlt hg1 hs1 hen
      have hex : ex7 e := (HGD.out _ htM).1
      have hct : ∀ k, k < 7 → nth e k ≤ d := HCP.out _ htM
      have hlr := HRB.out
      have hrw := HR1W.out
      have hbn : bp ≠ b5 := by have := HLP.out; have := HB51.out; omega
      have HEX := Lib.hid hex
      have HCT := Lib.hid hct
      have HLT := Lib.hid hlt
      have hws := HBW.out.size
      have hne5 : R ≠ b5 ∧ R ≠ g5 := by omega
      have HN5 := Lib.hid hne5
      have h2b : Below w.heap.size w (w2.alloc (.cells (arrC e) 156)) := (HBW.out.trans (grown_belowM hg1 hws (fun j hj => by injection hj with hj; omega))).alloc (by have := hg1.size; omega) _
      have hS2 : SumP (w2.alloc (.cells (arrC e) 156)) g5 b5 M' := (HS.out.kept hg1 (fun h => by injection h with h; omega) (fun h => by injection h with h; omega)).alloc _
      have hR2 : RangeE (w2.alloc (.cells (arrC e) 156)) bp R Mp (done ++ [(e, c)]) := hrg1.kept (World.grownBy_alloc _ (.cells (arrC e) 156) none) (by simp) (by simp)
      have HB3 := Lib.hid h2b
      have HS2 := Lib.hid hS2
      have HR2 := Lib.hid hR2
      clear h2b hS2 hR2 hrg1 hlt hg1 hs1 hex htM hct hne5 hbn hlr
      go_wp2_with (first
        | (go_at_call 155; refine (addDiff_any g5 b5 M' e c i d _ HS2.out HEX.out hi HCA.out HCT.out).mono ?_; rintro r w5 ⟨rfl, M5, hs5, hm5, hc5, hg5⟩; have HS5 := Lib.hid hs5; have HG5 := Lib.hid hg5; have HM5 := Lib.hid hm5; have HC5 := Lib.hid hc5; clear hs5 hg5 hm5 hc5)
        | go_in)
      have HR5 := Lib.hid (HR2.out.kept HG5.out (fun h => by injection h with h; have := HLP.out; have := HB51.out; omega) (fun h => by injection h with h; exact HN5.out.1 h))
      go_roundw
      case rel =>
        refine ⟨M5, _, HS5.out, HR5.out, HM5.out.trans ?_, HC5.out, HB3.out.trans (grown_belowM HG5.out HB3.out.size (fun j hj => by injection hj with hj; have := HB51.out; omega))⟩
        rw [openM_app]
        unfold divL
        rw [linL_app]
        refine HSM.out.app ?_
        rw [show linL (divF i) (openM [(e, c)]) = scaleM c (divF i (key7 e)) by simp [linL, openM]]
        exact sameC.refl _
      case measure =>
        have h1 := HR5.out.left_eq
        have h2 := HRG.out.left_eq
        have h3 := HLT.out
        rw [List.length_append] at h1
        simp at h1
        omega

set_option maxRecDepth 100000 in
set_option maxHeartbeats 2000000 in
theorem sumOf_any (A : Option Addr) (n c : Nat) (ts : List Tm) (d : Int) (w : World) (hs : TS w A n ts) (hn : n ≤ 1099511627776) (hex : ∀ k, k < n → ex7 (tm ts k).1 ∧ in64 (tm ts k).2) (hcp : ∀ k, k < n → ∀ j, j < 7 → nth (tm ts k).1 j ≤ d) :
    Calls Try.prog 79 #[.slice A n c] w fun r w' => ∃ g b M', r = .returned (.pointer (some ⟨g, 0, none⟩)) ∧
      SumP w' g b M' ∧ w.heap.size ≤ g ∧ w.heap.size ≤ b ∧ sameC (openM M') (openM ts) ∧ capE d M' ∧ Below w.heap.size w w' := by
  have HEX := Lib.hid hex
  have HCP := Lib.hid hcp
  have HL := Lib.hid hs.1
  clear hex hcp
  go_enter Try.func79, Try.ntmps79
  go_wp2_with (go_at_call 120; refine (newSum_any _).mono ?_; rintro r w1 ⟨g5, b5, rfl, hs1, hg51, hb51, hbel1⟩; have HS1 := Lib.hid hs1; have HB1 := Lib.hid hbel1; have HG51 := Lib.hid hg51; have HB51 := Lib.hid hb51; clear hs1 hbel1 hg51 hb51)
  go_loopw [9] (fun iv wr => ∃ (k : Nat) (M' : List Tm), iv = .int .i64 k ∧ k ≤ n ∧ SumP wr g5 b5 M' ∧ sameC (openM M') (openM (ts.take k)) ∧ capE d M' ∧ Below w.heap.size w wr)
    (fun iv _ => n - (intOf iv).toNat)
  case atStart => exact ⟨0, [], rfl, Nat.zero_le _, HS1.out, sameC.refl _, capE.nil _, HB1.out⟩
  case round =>
    obtain ⟨k, M', rfl, hk, hS, hsame, hcap, hb⟩ := hrel
    clear HS1 HB1
    have HS := Lib.hid hS
    have HSM := Lib.hid hsame
    have HCA := Lib.hid hcap
    have HB := Lib.hid hb
    clear hS hsame hcap
    by_cases hlt : k < n
    · have hltI : (k : Int) < (n : Int) := by omega
      have HNX := Lib.hid (openM_next (ts := ts) (k := k) (by rw [HL.out]; exact hlt))
      obtain ⟨b, o, A2, n2, c2, rfl, hbw, hc0', hc1', hsi', hnc, hnil⟩ := hs.at_ hlt
      have hex := (HEX.out k hlt).1
      have hin := (HEX.out k hlt).2
      obtain rfl : n2 = 7 := by rw [← hsi'.1]; exact hex.1
      obtain ⟨b2, o2, rfl, hb2w, hcx'⟩ := hsi'.at_ (by omega)
      have hc0 := (hb.cell (p := ⟨b, o + k * 2, none⟩) hbw).trans hc0'
      have hc1 := (hb.cell (p := ⟨b, o + k * 2 + 1, none⟩) hbw).trans hc1'
      have hcx : ∀ j, j < 7 → wr.cell? ⟨b2, o2 + j, none⟩ = some (.int .i64 (nth (tm ts k).1 j)) := fun j hj => (hb.cell (p := ⟨b2, o2 + j, none⟩) hb2w).trans (hcx' j hj)
      obtain ⟨z, hz⟩ : ∃ z, z = (tm ts k).2 := ⟨_, rfl⟩
      obtain ⟨e, he⟩ : ∃ e, e = (tm ts k).1 := ⟨_, rfl⟩
      rw [← hz] at hc1 hin
      rw [← he] at hcx hex
      have hce : ∀ j, j < 7 → nth e j ≤ d := by rw [he]; exact HCP.out k hlt
      have hwb := hb.size
      have hA : Blk (wr.alloc (.cells #[.slice (some ⟨b2, o2, none⟩) 7 c2, .int .i64 z] 94)) wr.heap.size 94 #[.slice (some ⟨b2, o2, none⟩) 7 c2, .int .i64 z] := Blk.new _ _ _
      have hS6 : SumP (wr.alloc (.cells #[.slice (some ⟨b2, o2, none⟩) 7 c2, .int .i64 z] 94)) g5 b5 M' := HS.out.alloc _
      have hB6 : Below w.heap.size w (wr.alloc (.cells #[.slice (some ⟨b2, o2, none⟩) 7 c2, .int .i64 z] 94)) := hb.alloc hwb _
      have hg6 : wr.grownBy (wr.alloc (.cells #[.slice (some ⟨b2, o2, none⟩) 7 c2, .int .i64 z] 94)) none := World.grownBy_alloc _ _ _
      have hcy : ∀ j, j < 7 → (wr.alloc (.cells #[.slice (some ⟨b2, o2, none⟩) 7 c2, .int .i64 z] 94)).cell? ⟨b2, o2 + j, none⟩ = some (.int .i64 (nth e j)) := fun j hj => hg6.cell (hcx j hj) (by simp)
      have HBN := Lib.hid (show b5 ≠ wr.heap.size by have := HS.out.2.lt; omega)
      have HB2N := Lib.hid (show b5 ≠ b2 by have := HB51.out; omega)
      have HPQ : Hid ((key7 (tm ts k).1, (tm ts k).2) = (key7 e, z)) := Lib.hid (by rw [hz, he])
      obtain ⟨nb, hnb⟩ : ∃ nb, nb = wr.heap.size := ⟨_, rfl⟩
      have HE := Lib.hid hex
      have HCE := Lib.hid hce
      have HSI := Lib.hid hs
      clear hb hs hc0' hc1' hcx' hsi' hnil hex hce hz he hg6 hcx hin hwb
      go_upto_region 5 with fail
      rw [← hnb] at hA HBN ⊢
      clear hnb hc0 hc1
      generalize (wr.alloc (.cells #[.slice (some ⟨b2, o2, none⟩) 7 c2, .int .i64 z] 94)) = w6 at *
      have K0 : w6.cell? ⟨nb, 0, none⟩ = some (.slice (some ⟨b2, o2, none⟩) 7 c2) ∧ w6.cell? ⟨nb, 1, none⟩ = some (.int .i64 z) ∧ w6.cell? ⟨b2, o2, none⟩ = some (.int .i64 (nth e 0)) ∧ w6.cell? ⟨b2, o2 + 1, none⟩ = some (.int .i64 (nth e 1)) ∧ w6.cell? ⟨b2, o2 + 2, none⟩ = some (.int .i64 (nth e 2)) ∧ w6.cell? ⟨b2, o2 + 3, none⟩ = some (.int .i64 (nth e 3)) ∧ w6.cell? ⟨b2, o2 + 4, none⟩ = some (.int .i64 (nth e 4)) ∧ w6.cell? ⟨b2, o2 + 5, none⟩ = some (.int .i64 (nth e 5)) ∧ w6.cell? ⟨b2, o2 + 6, none⟩ = some (.int .i64 (nth e 6)) := ⟨hA.cell 0, hA.cell 1, hcy 0 (by omega), hcy 1 (by omega), hcy 2 (by omega), hcy 3 (by omega), hcy 4 (by omega), hcy 5 (by omega), hcy 6 (by omega)⟩
      have K1 : w6.drew.cell? ⟨nb, 0, none⟩ = some (.slice (some ⟨b2, o2, none⟩) 7 c2) ∧ w6.drew.cell? ⟨nb, 1, none⟩ = some (.int .i64 z) ∧ w6.drew.cell? ⟨b2, o2, none⟩ = some (.int .i64 (nth e 0)) ∧ w6.drew.cell? ⟨b2, o2 + 1, none⟩ = some (.int .i64 (nth e 1)) ∧ w6.drew.cell? ⟨b2, o2 + 2, none⟩ = some (.int .i64 (nth e 2)) ∧ w6.drew.cell? ⟨b2, o2 + 3, none⟩ = some (.int .i64 (nth e 3)) ∧ w6.drew.cell? ⟨b2, o2 + 4, none⟩ = some (.int .i64 (nth e 4)) ∧ w6.drew.cell? ⟨b2, o2 + 5, none⟩ = some (.int .i64 (nth e 5)) ∧ w6.drew.cell? ⟨b2, o2 + 6, none⟩ = some (.int .i64 (nth e 6)) := K0
      have hat : ∀ w, (Instr.arrayAt 156 (.slice (some ⟨b2, o2, none⟩) 7 c2)).run Try.prog w = .ok (.pointer (some ⟨b2, o2, none⟩)) w := fun w => arrayAt7 _ _ _
      have HK0 := Lib.hid (And.intro K0 K1)
      have HS6 : Hid (SumP w6.drew g5 b5 M') := Lib.hid hS6
      have HB6 := Lib.hid hB6
      clear K0 K1 hA hcy hS6 hB6
      go_region_held3 (fun w' => w'.cell? ⟨nb, 0, none⟩ = some (.slice (some ⟨b2, o2, none⟩) 7 c2) ∧ w'.cell? ⟨nb, 1, none⟩ = some (.int .i64 z) ∧ w'.cell? ⟨b2, o2, none⟩ = some (.int .i64 (nth e 0)) ∧ w'.cell? ⟨b2, o2 + 1, none⟩ = some (.int .i64 (nth e 1)) ∧ w'.cell? ⟨b2, o2 + 2, none⟩ = some (.int .i64 (nth e 2)) ∧ w'.cell? ⟨b2, o2 + 3, none⟩ = some (.int .i64 (nth e 3)) ∧ w'.cell? ⟨b2, o2 + 4, none⟩ = some (.int .i64 (nth e 4)) ∧ w'.cell? ⟨b2, o2 + 5, none⟩ = some (.int .i64 (nth e 5)) ∧ w'.cell? ⟨b2, o2 + 6, none⟩ = some (.int .i64 (nth e 6)))
        (first | exact HK0.out.1 | exact HK0.out.2 | assumption | exact K5)
        (first
          | (go_at_call 153
             refine (add_any g5 b5 M' e z _ HS6.out HE.out).mono ?_
             rintro r w7 ⟨rfl, hs7, hg7⟩
             have gn : ∀ o, some (Addr.block ⟨nb, o, none⟩) ≠ some b5 := fun o h => HBN.out (Option.some.inj h).symm
             have g2 : ∀ o, some (Addr.block ⟨b2, o, none⟩) ≠ some b5 := fun o h => HB2N.out (Option.some.inj h).symm
             have K5 : w7.cell? ⟨nb, 0, none⟩ = some (.slice (some ⟨b2, o2, none⟩) 7 c2) ∧ w7.cell? ⟨nb, 1, none⟩ = some (.int .i64 z) ∧ w7.cell? ⟨b2, o2, none⟩ = some (.int .i64 (nth e 0)) ∧ w7.cell? ⟨b2, o2 + 1, none⟩ = some (.int .i64 (nth e 1)) ∧ w7.cell? ⟨b2, o2 + 2, none⟩ = some (.int .i64 (nth e 2)) ∧ w7.cell? ⟨b2, o2 + 3, none⟩ = some (.int .i64 (nth e 3)) ∧ w7.cell? ⟨b2, o2 + 4, none⟩ = some (.int .i64 (nth e 4)) ∧ w7.cell? ⟨b2, o2 + 5, none⟩ = some (.int .i64 (nth e 5)) ∧ w7.cell? ⟨b2, o2 + 6, none⟩ = some (.int .i64 (nth e 6)) := by
               obtain ⟨k0, k1, k2, k3, k4, k5, k6, k7, k8⟩ := HK0.out.2
               exact ⟨hg7.cell k0 (gn _), hg7.cell k1 (gn _), hg7.cell k2 (g2 _), hg7.cell k3 (g2 _), hg7.cell k4 (g2 _), hg7.cell k5 (g2 _), hg7.cell k6 (g2 _), hg7.cell k7 (g2 _), hg7.cell k8 (g2 _)⟩
             have HS7 := Lib.hid hs7
             have HG7 : Hid (w6.grownBy w7 (some b5)) := Lib.hid (grown_of_drew hg7)
             clear hs7 hg7 gn g2))
      go_wp2
      go_roundw
      case rel =>
        refine ⟨k + 1, _, by go_num, by omega, HS7.out, ?_, HCA.out.put HCE.out _, HB6.out.trans (grown_belowM HG7.out HB6.out.size (fun j hj => by injection hj with hj; have := HB51.out; omega))⟩
        refine (put_same _ _ _).trans ?_
        rw [HNX.out, HPQ.out]
        exact HSM.out.app (sameC.refl _)
      case measure => simp [intOf]; omega
    · have hkn : k = n := by omega
      subst hkn
      have HD : Hid (openM (ts.take k) = openM ts) := Lib.hid (by rw [List.take_of_length_le (by rw [HL.out]; omega)])
      go_wp2
      go_ret
      exact ⟨g5, b5, M', rfl, HS.out, HG51.out, HB51.out, by rw [← HD.out]; exact HSM.out, HCA.out, HB.out⟩
end Go.Proofs.Ytcoelbfcndeblaa

/-
  The program's polynomials under construction: products. Conditions: exponents of the product from 0 to 127.
-/

namespace Go.Proofs.Ytcoelbfcndeblaa
open Go.RowKit

/-- The first k places of ea added to eb. -/
def addP (eb ea : List Int) (k : Nat) : List Int := (List.range 7).map fun (j : Nat) => if j < k then nth eb j + nth ea j else nth eb j
theorem addP_len (eb ea : List Int) (k : Nat) : (addP eb ea k).length = 7 := by simp [addP]
theorem addP_nth (eb ea : List Int) (k : Nat) {j : Nat} (h : j < 7) : nth (addP eb ea k) j = if j < k then nth eb j + nth ea j else nth eb j := by
  rw [nth_get (by rw [addP_len]; exact h)]
  simp [addP]
theorem addP_zero {eb : List Int} (h : eb.length = 7) (ea : List Int) : addP eb ea 0 = eb := by
  apply List.ext_getElem (by rw [addP_len, h])
  intro j h1 h2
  rw [addP_len] at h1
  rw [← nth_get, ← nth_get, addP_nth _ _ _ h1, if_neg (by omega)]
theorem addP_set (eb ea : List Int) {k : Nat} (hk : k < 7) : (addP eb ea k).set k (nth eb k + nth ea k) = addP eb ea (k + 1) := by
  apply List.ext_getElem (by simp [addP_len])
  intro j h1 h2
  rw [addP_len] at h2
  rw [← nth_get, ← nth_get, set_nth (by rw [addP_len]; exact hk) _ (by rw [addP_len]; exact h2), addP_nth _ _ _ h2, addP_nth _ _ _ h2]
  by_cases h3 : j = k
  · subst h3
    rw [if_pos rfl, if_pos (by omega)]
  · rw [if_neg h3]
    by_cases h4 : j < k
    · rw [if_pos h4, if_pos (by omega)]
    · rw [if_neg h4, if_neg (by omega)]
theorem addP_key {eb ea : List Int} (h : eb.length = 7) (h' : ea.length = 7) : key7 (addP eb ea 7) = key7 ea + key7 eb := by
  match eb, h, ea, h' with
  | [a, b, c, d, f, g, j], _, [a', b', c', d', f', g', j'], _ =>
    simp [addP, List.range_succ, nth, key7]; omega
theorem grown_setOwn (w : World) (p : Addr) (u : Value) : w.grownBy (w.setCell p u) (some p.block) :=
  ⟨rfl, rfl, rfl, by simp, fun k _ hne => Below.heap_setCell w p u k (fun e => hne (by rw [e]))⟩
theorem index7 {ea : List Int} {k : Nat} (hk : k < 7) (w : World) : (Instr.index 156 (arr ea) (.int .i64 k)).run Try.prog w = .ok (.int .i64 (nth ea k)) w := by
  rcases lt7s hk with rfl | rfl | rfl | rfl | rfl | rfl | rfl <;> kernel_rfl
theorem wpList_index7 (w : World) {ops : Array Oper} {rest : List Oper} {o : Oper} {a : Act} {Q : Exit → Act → World → Prop} (hg : o.guard = none) (x i : Operand) (hop : o.op = Op.index 156 x i)
    {ea : List Int} {k : Nat} (hx : a.eval x = arr ea) (hi : a.eval i = .int .i64 (k : Nat)) (hk : k < 7) (h : wpList Try.prog ops Q rest (a.put o.dst (.int .i64 (nth ea k))) w) : wpList Try.prog ops Q (o :: rest) a w := by
  refine wpList_plain hg fun K hK => ?_
  unfold Oper.wp
  simp [execOp, hop, hx, hi, index7 hk, Result.andThen]
  exact hK _ _ h
set_option maxRecDepth 100000 in
set_option maxHeartbeats 4000000 in
theorem sumTimes_any (gp bp gq bq : Nat) (Mp Mq : List Tm) (dp dq : Int) (w : World) (hp : SumP w gp bp Mp) (hq : SumP w gq bq Mq) (hcp : capE dp Mp) (hcq : capE dq Mq) (hd : dp + dq ≤ 127) :
    Calls Try.prog 80 #[.pointer (some ⟨gp, 0, none⟩), .pointer (some ⟨gq, 0, none⟩)] w fun r w' => ∃ g b M', r = .returned (.pointer (some ⟨g, 0, none⟩)) ∧
      SumP w' g b M' ∧ w.heap.size ≤ g ∧ w.heap.size ≤ b ∧ sameC (openM M') (timesL (openM Mp) (openM Mq)) ∧ capE (dp + dq) M' ∧ Below w.heap.size w w' := by
  have HP := Lib.hid hp
  have HQ := Lib.hid hq
  have HCP := Lib.hid hcp
  have HCQ := Lib.hid hcq
  have HLP := Lib.hid hp.2.lt
  have HLG := Lib.hid hp.1.lt
  have HLQ := Lib.hid hq.2.lt
  have HLH := Lib.hid hq.1.lt
  have HGP := Lib.hid hp.2.good
  have HGQ := Lib.hid hq.2.good
  have HD := Lib.hid hd
  clear hp hq hcp hcq hd
  go_enter Try.func80, Try.ntmps80
  go_wp2_with (first
    | (go_at_call 120; refine (newSum_any _).mono ?_; rintro r w1 ⟨g5, b5, rfl, hs1, hg51, hb51, hbel1⟩; have HS1 := Lib.hid hs1; have HB1 := Lib.hid hbel1; have HG51 := Lib.hid hg51; have HB51 := Lib.hid hb51; clear hs1 hbel1 hg51 hb51; have hf := (HP.out.below HB1.out HLG.out HLP.out).field)
    | (at_range; refine wpList_rangeE _ rfl _ rfl rfl (HP.out.below HB1.out HLG.out HLP.out).2 ?_; intro w0 hrg0 hg0 hs0)
    | go_in)
  go_frame
  have HBW : Hid (Below w.heap.size w w0) := Lib.hid (HB1.out.trans (grown_belowM hg0 HB1.out.size (by simp)))
  have HS0 : Hid (SumP w0 g5 b5 []) := Lib.hid (HS1.out.kept hg0 (by simp) (by simp))
  have HR0 := Lib.hid hrg0
  have HR1W : Hid (w.heap.size ≤ w1.heap.size) := Lib.hid HB1.out.size
  have HRB : Hid (b5 < w1.heap.size ∧ g5 < w1.heap.size) := Lib.hid ⟨HS1.out.2.lt, HS1.out.1.lt⟩
  obtain ⟨R, hR⟩ : ∃ R, R = w1.heap.size := ⟨_, rfl⟩
  rw [← hR] at HR0 HR1W HRB ⊢
  clear hrg0 hg0 hs0 hf HS1 HB1 hR
  go_loopw [18] (fun _ wr => ∃ M' done, SumP wr g5 b5 M' ∧ RangeE wr bp R Mp done ∧ sameC (openM M') (timesL (openM done) (openM Mq)) ∧ capE (dp + dq) M' ∧ Below w.heap.size w wr)
    (fun _ wr => wr.rangeLeft bp R)
  case atStart => exact ⟨[], [], HS0.out, HR0.out, sameC.refl _, capE.nil _, HBW.out⟩
  case round =>
    obtain ⟨M', done, hs, hrg, hsame, hcap, hbw⟩ := hrel
    clear HR0 HS0 HBW
    have HS := Lib.hid hs
    have HSM := Lib.hid hsame
    have HCA := Lib.hid hcap
    have HBW := Lib.hid hbw
    have HRG := Lib.hid hrg
    clear hs hsame hcap hbw hrg
    go_wp2_with (first
      | (at_next; refine wpList_nextE _ rfl _ rfl rfl HRG.out ?_ ?_)
      | go_in)
    · intro hdone
      have HD := Lib.hid hdone
      clear hdone
      go_wp2
      go_ret
      exact ⟨g5, b5, M', rfl, HS.out, HG51.out, HB51.out, HSM.out.trans ((sameC.open HD.out).times (sameC.refl _)), HCA.out, HBW.out⟩
    · intro ea ca w2 htM hrg1 hlt hg1 hs1 hen
      have hex : ex7 ea := (HGP.out _ htM).1
      have hct : ∀ k, k < 7 → nth ea k ≤ dp := HCP.out _ htM
      have hlr := HRB.out
      have hrw := HR1W.out
      have HEA := Lib.hid hex
      have HCTA := Lib.hid hct
      have HLT := Lib.hid hlt
      have hws := HBW.out.size
      have hN5 : R ≠ b5 ∧ R ≠ g5 ∧ bp ≠ b5 := by have := HLP.out; have := HB51.out; omega
      have HN5 := Lib.hid hN5
      have h2b : Below w.heap.size w (w2.alloc (.cells (arrC ea) 156)) := (HBW.out.trans (grown_belowM hg1 hws (fun j hj => by injection hj with hj; omega))).alloc (by have := hg1.size; omega) _
      have hS2 : SumP (w2.alloc (.cells (arrC ea) 156)) g5 b5 M' := (HS.out.kept hg1 (fun h => by injection h with h; omega) (fun h => by injection h with h; omega)).alloc _
      have hR2 : RangeE (w2.alloc (.cells (arrC ea) 156)) bp R Mp (done ++ [(ea, ca)]) := hrg1.kept (World.grownBy_alloc _ (.cells (arrC ea) 156) none) (by simp) (by simp)
      have hA : Blk (w2.alloc (.cells (arrC ea) 156)) w2.heap.size 156 (arrC ea) := Blk.new _ _ _
      have hq3 := HQ.out.below h2b HLH.out HLQ.out
      obtain ⟨nA, hnA⟩ : ∃ nA, nA = w2.heap.size := ⟨_, rfl⟩
      have HnA : Hid (w.heap.size ≤ nA ∧ R < nA ∧ b5 < nA ∧ g5 < nA) := Lib.hid (by have := hg1.size; have := hrg1.lt; have := HS.out.1.lt; have := HS.out.2.lt; omega)
      have HB3 := Lib.hid h2b
      have HS2 := Lib.hid hS2
      have HR2 := Lib.hid hR2
      clear h2b hS2 hR2 hrg1 hlt hg1 hs1 hex htM hct hN5 hlr
      go_upto_region 5 with fail
      rw [← hnA] at hA ⊢
      have HA := Lib.hid hA
      clear hA hnA hen
      generalize (w2.alloc (.cells (arrC ea) 156)) = w3 at *
      have hf := hq3.field
      have HQ3 := Lib.hid hq3
      clear hq3
      go_wp2_with (first
        | (at_range; refine wpList_rangeE _ rfl _ rfl rfl HQ3.out.2 ?_; intro w4 hrg4 hg4 hs4)
        | go_in)
      go_frame
      have HB4 : Hid (Below w.heap.size w w4) := Lib.hid (HB3.out.trans (grown_belowM hg4 HB3.out.size (by simp)))
      have HS4 : Hid (SumP w4 g5 b5 M') := Lib.hid (HS2.out.kept hg4 (by simp) (by simp))
      have HR4 : Hid (RangeE w4 bp R Mp (done ++ [(ea, ca)])) := Lib.hid (HR2.out.kept hg4 (by simp) (by simp))
      have HA4 : Hid (Blk w4 nA 156 (arrC ea)) := Lib.hid (HA.out.grown hg4 (by simp))
      have HQR := Lib.hid hrg4
      obtain ⟨R2, hR2⟩ : ∃ R2, R2 = w3.heap.size := ⟨_, rfl⟩
      have HR2N : Hid (R2 ≠ b5 ∧ R2 ≠ g5 ∧ R2 ≠ R ∧ R2 ≠ nA ∧ w.heap.size ≤ R2) := Lib.hid (by
        have := HS2.out.1.lt; have := HS2.out.2.lt; have := HR2.out.lt; have := HA.out.lt; have := HB3.out.size; omega)
      rw [← hR2] at HQR ⊢
      clear hrg4 hg4 hs4 hf HS2 HB3 HR2 HA HQ3 hR2
      go_loopw [28] (fun _ wx => ∃ M2 done2, SumP wx g5 b5 M2 ∧ RangeE wx bq R2 Mq done2 ∧ RangeE wx bp R Mp (done ++ [(ea, ca)]) ∧ Blk wx nA 156 (arrC ea) ∧ sameC (openM M2) (timesL (openM done) (openM Mq) ++ mulT (key7 ea) ca (openM done2)) ∧ capE (dp + dq) M2 ∧ Below w.heap.size w wx)
        (fun _ wx => wx.rangeLeft bq R2)
      case atStart => exact ⟨M', [], HS4.out, HQR.out, HR4.out, HA4.out, by simpa [mulT, scaleM, openM] using HSM.out, HCA.out, HB4.out⟩
      case round =>
        obtain ⟨M2, done2, hs, hrq, hrp, hA, hsame, hcap, hbw⟩ := hrel
        clear HS4 HQR HR4 HA4 HB4 HS HSM HCA HBW
        have HS := Lib.hid hs
        have HSM := Lib.hid hsame
        have HCA := Lib.hid hcap
        have HBW := Lib.hid hbw
        have HRQ := Lib.hid hrq
        have HRP := Lib.hid hrp
        have HA := Lib.hid hA
        clear hs hsame hcap hbw hrq hrp hA
        go_wp2_with (first
          | (at_next; refine wpList_nextE _ rfl _ rfl rfl HRQ.out ?_ ?_)
          | go_in)
        · intro hdone
          have HDQ := Lib.hid hdone
          clear hdone
          go_wp2_with fail
          go_roundw
          case rel =>
            refine ⟨M2, _, HS.out, HRP.out, HSM.out.trans ?_, HCA.out, HBW.out⟩
            rw [openM_app, times_app]
            refine (sameC.refl _).app ?_
            rw [show openM [(ea, ca)] = [(key7 ea, ca)] from rfl, times_one]
            exact (sameC.open HDQ.out).mulT _ _
          case measure =>
            have h1 := HRP.out.left_eq
            have h2 := HRG.out.left_eq
            have h3 := HLT.out
            rw [List.length_append] at h1
            simp at h1
            omega
        · intro eb cb w5 htM hrg1 hlt hg1 hs1 hen
          have hex : ex7 eb := (HGQ.out _ htM).1
          have hct : ∀ k, k < 7 → nth eb k ≤ dq := HCQ.out _ htM
          have HEB := Lib.hid hex
          have HCTB := Lib.hid hct
          have HLT2 := Lib.hid hlt
          have hws := HBW.out.size
          have hn5 := HN5.out
          have hr2n := HR2N.out
          have hnA := HnA.out
          have hg6 : wr.grownBy (w5.alloc (.cells (arrC eb) 156)) (some R2) := hg1.trans (World.grownBy_alloc _ _ _)
          have h6b : Below w.heap.size w (w5.alloc (.cells (arrC eb) 156)) := HBW.out.trans (grown_belowM hg6 hws (fun j hj => by injection hj with hj; omega))
          have hS6 : SumP (w5.alloc (.cells (arrC eb) 156)) g5 b5 M2 := HS.out.kept hg6 (fun h => by injection h with h; omega) (fun h => by injection h with h; omega)
          have hQ6 : RangeE (w5.alloc (.cells (arrC eb) 156)) bq R2 Mq (done2 ++ [(eb, cb)]) := hrg1.kept (World.grownBy_alloc _ (.cells (arrC eb) 156) none) (by simp) (by simp)
          have hR6 : RangeE (w5.alloc (.cells (arrC eb) 156)) bp R Mp (done ++ [(ea, ca)]) := HRP.out.kept hg6 (fun h => by injection h with h; have := HLP.out; omega) (fun h => by injection h with h; omega)
          have hA6 : Blk (w5.alloc (.cells (arrC eb) 156)) nA 156 (arrC ea) := HA.out.grown hg6 (fun h => by injection h with h; omega)
          have hBB : Blk (w5.alloc (.cells (arrC eb) 156)) w5.heap.size 156 (arrC eb) := Blk.new _ _ _
          obtain ⟨nB, hnB⟩ : ∃ nB, nB = w5.heap.size := ⟨_, rfl⟩
          have HnB : Hid (nB ≠ b5 ∧ nB ≠ g5 ∧ nB ≠ R ∧ nB ≠ R2 ∧ nB ≠ nA ∧ w.heap.size ≤ nB ∧ nB ≠ bp ∧ nB ≠ bq) := Lib.hid (by
            have := hg1.size; have := HS.out.1.lt; have := HS.out.2.lt; have := HRP.out.lt; have := HRQ.out.lt; have := HA.out.lt; have := HLP.out; have := HLQ.out; omega)
          have H6B := Lib.hid h6b
          have HS6 := Lib.hid hS6
          have HQ6 := Lib.hid hQ6
          have HR6 := Lib.hid hR6
          have HA6 := Lib.hid hA6
          clear h6b hS6 hQ6 hR6 hA6 hg6 hrg1 hlt hg1 hs1 hex htM hct hn5 hr2n hnA
          go_upto_region 8 with fail
          rw [← hnB] at hBB ⊢
          have HBB := Lib.hid hBB
          clear hBB hnB hen
          generalize (w5.alloc (.cells (arrC eb) 156)) = w6 at *
          go_wp2_with (refine wpList_load_blk rfl 156 (.tmp 6) rfl nA rfl 156 (arrC ea) 7 3 HA6.out Try.undExp Try.infoExp ?_)
          (try go_frame)
          go_loopw [34] (fun kv wy => ∃ k : Nat, kv = .int .i64 k ∧ k ≤ 7 ∧ Blk wy nB 156 (arrC (addP eb ea k)) ∧ w6.grownBy wy (some nB))
            (fun kv _ => 7 - (intOf kv).toNat)
          case atStart => exact ⟨0, rfl, by omega, by rw [addP_zero HEB.out.1]; exact HBB.out, World.grownBy.refl _ _⟩
          case round =>
            obtain ⟨k, rfl, hk, hB, hgy⟩ := hrel
            by_cases hk7 : k < 7
            · have hkI : (k : Int) < 7 := by omega
              have q0 : wr.cell? ⟨nB, k, none⟩ = some (.int .i64 (nth eb k)) := by rw [hB.cell k, arrC_get _ k hk7, addP_nth _ _ _ hk7, if_neg (by omega)]
              have f0 := hB.frozen k
              have hwr : IntKind.i64.wrap (nth eb k + nth ea k) = nth eb k + nth ea k := IntWalk.i64_in _ (by have := HEA.out.2 k hk7; have := HEB.out.2 k hk7; omega)
              have hB2 := hB.set_ k (.int .i64 (nth eb k + nth ea k))
              rw [arrC_set _ k hk7 _ (addP_len _ _ _), addP_set _ _ hk7] at hB2
              have hg2 := hgy.trans (grown_setOwn wr ⟨nB, k, none⟩ (.int .i64 (nth eb k + nth ea k)))
              have HB2 := Lib.hid hB2
              have HG2 := Lib.hid hg2
              clear hB hB2 hgy hg2
              go_wp2_with (refine wpList_index7 _ rfl (.tmp 33) (.tmp 34) rfl (ea := ea) (k := k) rfl rfl hk7 ?_)
              go_roundw
              case rel => exact ⟨k + 1, by go_num, by omega, HB2.out, HG2.out⟩
              case measure => simp [intOf]; omega
            · have hk7' : k = 7 := by omega
              subst hk7'
              have hnb := HnB.out
              have hn5 := HN5.out
              have hr2n := HR2N.out
              have hna := HnA.out
              have HS7 : Hid (SumP wr g5 b5 M2) := Lib.hid (HS6.out.kept hgy (fun h => by injection h with h; omega) (fun h => by injection h with h; omega))
              have HQ7 : Hid (RangeE wr bq R2 Mq (done2 ++ [(eb, cb)])) := Lib.hid (HQ6.out.kept hgy (fun h => by injection h with h; omega) (fun h => by injection h with h; omega))
              have HR7 : Hid (RangeE wr bp R Mp (done ++ [(ea, ca)])) := Lib.hid (HR6.out.kept hgy (fun h => by injection h with h; omega) (fun h => by injection h with h; omega))
              have HA7 : Hid (Blk wr nA 156 (arrC ea)) := Lib.hid (HA6.out.grown hgy (fun h => by injection h with h; omega))
              have HB7 : Hid (Below w.heap.size w wr) := Lib.hid (H6B.out.trans (grown_belowM hgy H6B.out.size (fun j hj => by injection hj with hj; omega)))
              have HBB7 := Lib.hid hB
              have HEX : Hid (ex7 (addP eb ea 7)) := Lib.hid ⟨addP_len _ _ _, fun k hk => by
                rw [addP_nth _ _ _ hk, if_pos hk]
                have h1 := HEA.out.2 k hk; have h2 := HEB.out.2 k hk; have h3 := HCTA.out k hk; have h4 := HCTB.out k hk; have h5 := HD.out; omega⟩
              have HCE : Hid (∀ k, k < 7 → nth (addP eb ea 7) k ≤ dp + dq) := Lib.hid fun k hk => by
                rw [addP_nth _ _ _ hk, if_pos hk]
                have h3 := HCTA.out k hk; have h4 := HCTB.out k hk; omega
              clear hB hgy hnb hn5 hr2n hna HS6 HQ6 HR6 HA6 H6B HBB
              go_wp2_with (first
                | (refine wpList_load_blk rfl 156 (.tmp 8) rfl nB rfl 156 (arrC (addP eb ea 7)) 7 3 HBB7.out Try.undExp Try.infoExp ?_)
                | (go_at_call 153; refine (add_any g5 b5 M2 (addP eb ea 7) (wrap64 (ca * cb)) _ HS7.out HEX.out).mono ?_; rintro r w8 ⟨rfl, hs8, hg8⟩; have HS8 := Lib.hid hs8; have HG8 := Lib.hid hg8; clear hs8 hg8)
                | go_in)
              have HQ8 := Lib.hid (HQ7.out.kept HG8.out (fun h => by injection h with h; have := HLQ.out; have := HB51.out; omega) (fun h => by injection h with h; exact HR2N.out.1 h))
              have HR8 := Lib.hid (HR7.out.kept HG8.out (fun h => by injection h with h; exact HN5.out.2.2 h) (fun h => by injection h with h; exact HN5.out.1 h))
              go_roundw
              case rel =>
                refine ⟨_, _, HS8.out, HQ8.out, HR8.out, HA7.out.grown HG8.out (fun h => by injection h with h; have := HnA.out; omega), ?_, HCA.out.put HCE.out _, HB7.out.trans (grown_belowM HG8.out HB7.out.size (fun j hj => by injection hj with hj; have := HB51.out; omega))⟩
                refine (put_same _ _ _).trans ?_
                rw [openM_app, mulT_app, ← List.append_assoc, wrap64_w64, addP_key HEB.out.1 HEA.out.1]
                exact HSM.out.app (sameC.refl _)
              case measure =>
                have h1 := HQ8.out.left_eq
                have h2 := HRQ.out.left_eq
                have h3 := HLT2.out
                rw [List.length_append] at h1
                simp at h1
                omega
end Go.Proofs.Ytcoelbfcndeblaa
