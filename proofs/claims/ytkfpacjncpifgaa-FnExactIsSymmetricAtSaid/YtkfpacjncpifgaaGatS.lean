/-
  The document's gathering of terms: sorted by merging, what is alike added up, what is 0 left out. Conditions: lengths below 2^40.
-/
import Derived.Test.YtkfpacjncpifgaaMons
import Derived.Test.YtkfpacjncpifgaaGath
import Derived.Deep.CutRange
import Derived.StillTailTactics
namespace Go.Proofs.Ytkfpacjncpifgaa
open Go.RowKit

/-- 'make([]l2Mon, 0, n)'. -/
theorem wpList_makeM {ops : Array Oper} {rest : List Oper} {o : Oper} {a : Act} {w : World} {Q : Exit → Act → World → Prop} (hgd : o.guard = none) (l c : Operand) (ho : o.op = .makeSlice 65 l c)
    (n : Nat) (hl : a.eval l = .int .i64 0) (hc : a.eval c = .int .i64 n) (hn : n ≤ 1099511627776)
    (hK : ∀ w', OwnM w' w.heap.size w'.heap.size (some ⟨w.heap.size, 0, none⟩) 0 n [] → Below w.heap.size w w' → wpList Try.prog ops Q rest (a.put o.dst (.slice (some ⟨w.heap.size, 0, none⟩) 0 n)) w') :
    wpList Try.prog ops Q (o :: rest) a w := by
  obtain ⟨i0, hi, hz0, hz1, hz2⟩ := info_parts Try.infoMonZ
  refine wpList_make_own w hgd l c 65 ho w.heap.size 108 i0 (.agg #[.int .i64 0, .int .i64 0]) 2 Try.underlying65 hi hz0 hz1 .i64 .i64 n n hl hc rfl (by rw [hz2]; omega) (by unfold maxLen; omega) (Nat.le_refl _) ?_
  intro w1 ho1 hg1
  exact hK w1 ⟨rfl, ho1, fun k hk => (ho1.lt k hk).2⟩ (grow_below hg1 (Nat.le_refl _) (by intro k hk; cases hk))
theorem cells2_one {n : Nat} {cs : List Ce} : ∀ u ∈ cells2 n (cv cs), u.oneCell' = true := by
  intro u hu
  unfold cells2 at hu
  obtain ⟨j, _, rfl⟩ := List.mem_map.1 hu
  split <;> rfl
set_option maxRecDepth 100000 in
/-- 'append([]l2Mon{}, l...)'. -/
theorem wpList_cloneM {ops : Array Oper} {rest : List Oper} {o : Oper} {a : Act} {w : World} {Q : Exit → Act → World → Prop} (hgd : o.guard = none) (s x : Operand)
    (ho : o.op = .call { callee := .builtin .append, args := #[s, x], argTypes := #[65, 65] })
    (lo : Nat) (A : Option Addr) (c : Nat) (A2 : Option Addr) (m c2 : Nat) (ys : List Ce) (hs : a.eval s = .slice A 0 c) (hx : a.eval x = .slice A2 m c2)
    (hown : OwnM w lo w.heap.size A 0 c []) (hsi : MS w A2 m ys) (hlo : lo ≤ w.heap.size) (hm : m ≤ 1099511627776)
    (hK : ∀ A' c' w', OwnM w' lo w'.heap.size A' m c' ys → Below lo w w' → wpList Try.prog ops Q rest (a.put o.dst (.slice A' m c')) w') :
    wpList Try.prog ops Q (o :: rest) a w := by
  obtain ⟨i0, hi, hz0, hz1, hz2⟩ := info_parts Try.infoMonZ
  by_cases h0 : 0 < m
  · obtain ⟨b, off, rfl, hb, hc⟩ := hsi.2 h0
    refine Go.wpList_append_own_at _ hgd s x 65 ho lo 108 i0 (.agg #[.int .i64 0, .int .i64 0]) 2 16 Try.underlying65 hi hz0 hz1 hz2 rfl (by decide) _ 0 _ hs hown.2.1 ⟨b, off, none⟩ m c2 (cells2 m (cv ys)) hx (cells2_len _ _) ?_ cells2_one (by unfold maxLen; omega) (by omega) hlo ?_
    · intro j u hj
      have hjl : j < m * 2 := by
        rcases Nat.lt_or_ge j (m * 2) with h | h
        · exact h
        · rw [List.getElem?_eq_none (by rw [cells2_len]; exact h)] at hj; cases hj
      rw [cells2_get _ hjl] at hj
      rw [add_pt]
      have h1 := hc (j / 2) (by omega)
      rcases Nat.mod_two_eq_zero_or_one j with e | e
      · rw [if_pos e] at hj
        rw [show off + j = off + j / 2 * 2 by omega, h1.1]; exact hj
      · rw [if_neg (by omega)] at hj
        rw [show off + j = off + j / 2 * 2 + 1 by omega, h1.2]; exact hj
    · intro v' w1 ho1 hg1 _ hat
      rw [Nat.zero_add] at ho1
      obtain ⟨g, cap, rfl, _, _⟩ := ho1.form h0
      exact hK _ _ w1 ⟨hsi.1, rowm_eq ho1 (by rw [show cells2 0 (cv []) = [] from rfl, List.nil_append]), fun k hk => (ho1.lt k hk).2⟩ (grow_below hg1 hlo (fun k hk => (hown.2.1.lt k hk).1))
  · have hm0 : m = 0 := by omega
    subst hm0
    have hy : ys = [] := List.eq_nil_of_length_eq_zero hsi.1
    subst hy
    have hk0 := hK A c w hown (Below.refl _ _)
    refine wpList_plain hgd fun K hK' => ?_
    have hrun : (Builtin.append_ #[65, 65] o.type #[.slice A 0 c, .slice A2 0 c2]).run Try.prog w = .ok (.slice A 0 c) w := by
      have hg := hown.2.1
      have hl0 : ∀ v, (loadCells v 0).run Try.prog w = .ok #[] w := fun v => by simp [loadCells, loadCellsFrom]
      rcases hg.2 with ⟨e, h0⟩ | ⟨g, cap, cur, e, _, hgg, hnc, _⟩
      · injection e with e1 e2 e3
        subst e1; subst e3
        cases A2 <;> simp [Builtin.append_, run_underlying Try.underlying65, sizeOf, typeInfo, hi, hz1, Builtin.lenOf, Builtin.firstCells, hl0]
      · injection e with e1 e2 e3
        subst e1; subst e3
        cases A2 <;> simp [Builtin.append_, run_underlying Try.underlying65, sizeOf, typeInfo, hi, hz1, Builtin.lenOf, Builtin.firstCells, storeCells, hl0]
    unfold Oper.wp
    simp [execOp, ho, resolve, invoke, builtin, hs, hx, hrun, Result.andThen]
    exact hK' _ _ hk0

def leM (a b : Mn) : Bool := decide (b.1 ≤ a.1)
theorem leM_trans (a b c : Mn) (h : leM a b = true) (h' : leM b c = true) : leM a c = true := by simp [leM] at *; omega
theorem leM_total (a b : Mn) : (leM a b || leM b a) = true := by simp [leM]; omega

/-- Where a merge stands: what is done, and what is still to be merged. -/
def mrg (cur : List Mn) (a mid en : Nat) (nxt nx : List Mn) (ii jj : Nat) : Prop := ∃ done, nx = nxt ++ done ∧ done ++ List.merge (seg cur ii mid) (seg cur jj en) leM = List.merge (seg cur a mid) (seg cur mid en) leM
theorem mrg_start (cur : List Mn) (a mid en : Nat) (nxt : List Mn) : mrg cur a mid en nxt nxt a mid := ⟨[], by simp, rfl⟩
theorem seg_ce {cur : List Mn} {i j : Nat} (h : i < j) (hj : j ≤ cur.length) : seg cur i j = ce cur i :: seg cur (i + 1) j := by
  obtain ⟨x, h1, h2⟩ := seg_cons h hj
  rw [h2]
  unfold ce
  rw [List.getD_eq_getElem?_getD, h1]; rfl
theorem mrg_left {cur : List Mn} {a mid en : Nat} {nxt nx : List Mn} {ii jj : Nat} (h : mrg cur a mid en nxt nx ii jj) (h1 : ii < mid) (h2 : mid ≤ cur.length) (h3 : en ≤ cur.length) (hx : en ≤ jj ∨ leM (ce cur ii) (ce cur jj) = true) : mrg cur a mid en nxt (nx ++ [ce cur ii]) (ii + 1) jj := by
  obtain ⟨done, e1, e2⟩ := h
  refine ⟨done ++ [ce cur ii], by rw [e1, List.append_assoc], ?_⟩
  rw [← e2, List.append_assoc, seg_ce h1 h2]
  congr 1
  rcases Nat.lt_or_ge jj en with hj | hj
  · rw [seg_ce hj h3, List.cons_merge_cons]
    rw [if_pos (by rcases hx with h | h; · omega
                   · exact h)]
    rfl
  · rw [seg_nil hj, List.merge_right, List.merge_right]; rfl
theorem mrg_right {cur : List Mn} {a mid en : Nat} {nxt nx : List Mn} {ii jj : Nat} (h : mrg cur a mid en nxt nx ii jj) (h1 : jj < en) (h2 : mid ≤ cur.length) (h3 : en ≤ cur.length) (hx : mid ≤ ii ∨ leM (ce cur ii) (ce cur jj) = false) : mrg cur a mid en nxt (nx ++ [ce cur jj]) ii (jj + 1) := by
  obtain ⟨done, e1, e2⟩ := h
  refine ⟨done ++ [ce cur jj], by rw [e1, List.append_assoc], ?_⟩
  rw [← e2, List.append_assoc, seg_ce h1 h3]
  congr 1
  rcases Nat.lt_or_ge ii mid with hj | hj
  · rw [seg_ce hj h2, List.cons_merge_cons]
    rw [if_neg (by rcases hx with h | h; · omega
                   · rw [h]; simp)]
    rfl
  · rw [seg_nil hj, List.nil_merge, List.nil_merge]; rfl
theorem mrg_end {cur : List Mn} {a mid en : Nat} {nxt nx : List Mn} {ii jj : Nat} (h : mrg cur a mid en nxt nx ii jj) (h1 : mid ≤ ii) (h2 : en ≤ jj) : nx = nxt ++ List.merge (seg cur a mid) (seg cur mid en) leM := by
  obtain ⟨done, e1, e2⟩ := h
  rw [seg_nil h1, seg_nil h2, List.nil_merge, List.append_nil] at e2
  rw [e1, e2]

theorem last_ce {acc : List Mn} {m : Nat} (h : acc.length = m + 1) : acc.getLastD (0, 0) = ce acc m := by
  rcases List.eq_nil_or_concat acc with e | ⟨L, u, e⟩
  · subst e; simp at h
  · rw [List.concat_eq_append] at e
    subst e
    simp at h
    unfold ce
    simp [List.getD, h]
theorem sumStep_eq {acc : List Mn} {t : Mn} {m : Nat} (h : acc.length = m + 1) (hk : (ce acc m).1 = t.1) : sumStep acc t = acc.set m ((ce acc m).1, w64 ((ce acc m).2 + t.2)) := by
  unfold sumStep
  have hl := last_ce h
  rw [if_pos ⟨fun e => by rw [e] at h; simp at h, by rw [hl]; exact hk⟩, hl, ← hk]
  rcases List.eq_nil_or_concat acc with e | ⟨L, u, e⟩
  · subst e; simp at h
  · rw [List.concat_eq_append] at e
    subst e
    simp at h
    rw [List.set_append_right _ _ (by omega), h]
    simp
theorem sumStep_ne {acc : List Mn} {t : Mn} {m : Nat} (h : acc.length = m + 1) (hk : (ce acc m).1 ≠ t.1) : sumStep acc t = acc ++ [t] := by
  unfold sumStep
  rw [if_neg (fun e => hk (by rw [← last_ce h]; exact e.2))]
theorem sumStep_nil {t : Mn} : sumStep [] t = [t] := by
  unfold sumStep
  rw [if_neg (fun e => e.1 rfl)]; rfl
theorem sums_next {cur : List Mn} {k : Nat} (h : k < cur.length) : (cur.take (k + 1)).foldl sumStep [] = sumStep ((cur.take k).foldl sumStep []) (ce cur k) := by
  rw [List.take_succ_eq_append_getElem h, List.foldl_append, ce_get h]; rfl
theorem sumStep_len (acc : List Mn) (t : Mn) : (sumStep acc t).length ≤ acc.length + 1 := by
  unfold sumStep
  split
  · simp
  · simp
theorem sums_len : ∀ (l acc : List Mn), (l.foldl sumStep acc).length ≤ acc.length + l.length
  | [], acc => by simp
  | t :: l, acc => by
    rw [List.foldl_cons]
    have := sums_len l (sumStep acc t)
    have := sumStep_len acc t
    simp; omega
theorem wrap_w64 (x : Int) : IntKind.i64.wrap x = w64 x := by
  unfold w64
  rw [Int.bmod_def]
  simp [IntKind.wrap, IntKind.bits, IntKind.signed]
  split <;> split <;> omega
theorem left_next {acc : List Mn} {k : Nat} (h : k < acc.length) : leftL (acc.take (k + 1)) = if (ce acc k).2 = 0 then leftL (acc.take k) else leftL (acc.take k) ++ [ce acc k] := by
  rw [List.take_succ_eq_append_getElem h, ← ce_get h]
  unfold leftL
  rw [List.filter_append]
  split
  · rename_i h0
    simp [h0]
  · rename_i h0
    simp [h0]
theorem left_len (l : List Mn) : (leftL l).length ≤ l.length := List.length_filter_le _ _

theorem mrg_len {cur : List Mn} {a mid en : Nat} {nxt nx : List Mn} {ii jj : Nat} (h : mrg cur a mid en nxt nx ii jj) : nx.length ≤ nxt.length + 2 * cur.length := by
  obtain ⟨done, e1, e2⟩ := h
  have := congrArg List.length e2
  simp only [List.length_append, List.length_merge, seg_len] at this
  rw [e1, List.length_append]
  omega

set_option maxRecDepth 100000 in
set_option maxHeartbeats 4000000 in
theorem specGather_any (A : Option Addr) (n c : Nat) (l : List Mn) (w : World) (hs : MS w A n l) (hn : n ≤ 1000000000) (h64 : ∀ t ∈ l, in64 t.2) :
    Calls Try.prog 116 #[.slice A n c] w fun e w' => FreshM w w' e (gatherL l) := by
  have HL := Lib.hid hs.1
  have H64 := Lib.hid h64
  clear h64
  go_enter Try.func116, Try.ntmps116
  obtain ⟨B, hB⟩ : ∃ B, B = w.heap.size := ⟨_, rfl⟩
  have HB0 : Hid (B = w.heap.size) := Lib.hid hB
  go_wp2_with (refine wpList_cloneM rfl (.tmp 15) (.tmp 16) rfl w.heap.size (some ⟨w.heap.size, 0, none⟩) 0 A n c l rfl rfl (by simpa using OwnM.empty w) (hs.below ((Below.refl w.heap.size w).alloc (Nat.le_refl _) _) (Nat.le_refl _)) (by simp) (by omega) ?_; intro A1 c1 w1 ho1 hb1)
  rw [← hB] at ho1 hb1 ⊢
  have hb1' : Below B w w1 := ((Below.refl w.heap.size w).alloc (Nat.le_refl _) _ |>.mono (by rw [hB]; exact Nat.le_refl _)).trans hb1
  clear hb1 hs hB
  go_loopw [3, 4] (fun o s wr => ∃ A' c' cur sz, o = .slice A' n c' ∧ s = .int .i64 (sz : Nat) ∧ 1 ≤ sz ∧ sz ≤ 2 * n + 2 ∧ List.Perm cur l ∧ runs leM sz cur ∧ OwnM wr B wr.heap.size A' n c' cur ∧ Below B w wr)
    (fun _ s _ => 2 * n + 2 - (intOf s).toNat)
  case atStart => exact ⟨A1, c1, l, 1, rfl, rfl, by omega, by omega, List.Perm.refl _, runs_one _ _, ho1, hb1'⟩
  case round =>
    obtain ⟨A2, c2, cur, sz, rfl, rfl, h1, h2, hperm, hruns, hown, hbel⟩ := hrel
    clear ho1 hb1'
    have HP := Lib.hid hperm
    have HR := Lib.hid hruns
    have HO := Lib.hid hown
    have HB := Lib.hid hbel
    have HCL : Hid (cur.length = n) := Lib.hid (by rw [hperm.length_eq]; exact HL.out)
    clear hperm hruns hown hbel
    by_cases hlt : sz < n
    · have hltI : (sz : Int) < (n : Int) := by omega
      go_wp2_with (at_make; refine wpList_makeM rfl (.const (.int .i64 0)) (.tmp 25) rfl n rfl rfl (by omega) ?_; intro w2 ho2 hb2; have HO2 := Lib.hid ho2; have HB2 := Lib.hid hb2; clear ho2 hb2)
      obtain ⟨B2, hB2⟩ : ∃ B2, B2 = wr.heap.size := ⟨_, rfl⟩
      have HG0 : Hid (B2 = wr.heap.size) := Lib.hid hB2
      have hBB : B ≤ B2 := by rw [hB2, HB0.out]; exact HB0.out ▸ HB.out.size
      rw [← hB2] at HO2 HB2 HO ⊢
      have HOC := Lib.hid (HO.out.below HB2.out (Nat.le_refl _))
      have HBW := Lib.hid (HB.out.trans (HB2.out.mono hBB))
      have HZ2 : Hid (B2 ≤ w2.heap.size) := Lib.hid (by have := HB2.out.size; rw [← HG0.out] at this; exact this)
      clear hB2 HO HB HB2
      go_loopw [5, 6] (fun nx at_ wx => ∃ A3 c3 m nxt p a, nx = .slice A3 m c3 ∧ at_ = .int .i64 (a : Nat) ∧ a = p * (2 * sz) ∧ a ≤ n + 2 * sz ∧ passed leM sz p cur nxt ∧ OwnM wx B2 wx.heap.size A3 m c3 nxt ∧ OwnM wx B B2 A2 n c2 cur ∧ Below B w wx ∧ B2 ≤ wx.heap.size)
        (fun _ at_ _ => n - (intOf at_).toNat)
      case atStart => exact ⟨_, n, 0, [], 0, 0, rfl, rfl, by omega, by omega, passed_zero _ _ _, HO2.out, HOC.out, HBW.out, HZ2.out⟩
      case round =>
        obtain ⟨A3, c3, m, nxt, p, a, rfl, rfl, hap, han, hpas, hon, hoc, hbel, hsz3⟩ := hrel
        have HSZ3 := Lib.hid hsz3
        clear HO2 HOC HBW
        have HAP := Lib.hid hap
        have HPA := Lib.hid hpas
        have HON := Lib.hid hon
        have HOC := Lib.hid hoc
        have HBW := Lib.hid hbel
        have hml : m ≤ n := by
          have := hpas.1.length_eq
          rw [List.length_take, HCL.out] at this
          have := hon.len
          omega
        clear hap hpas hon hoc hbel hsz3 HZ2
        by_cases hal : a < n
        · have halI : (a : Int) < (n : Int) := by omega
          obtain ⟨mid, hmid⟩ : ∃ mid, mid = min (a + sz) n := ⟨_, rfl⟩
          obtain ⟨en, hen⟩ : ∃ en, en = min (a + 2 * sz) n := ⟨_, rfl⟩
          have HMID := Lib.hid hmid
          have HEN := Lib.hid hen
          clear hmid hen
          go_upto_region 10 with fail
          go_cut [8] from 27 to 96 (fun v wx => v = .int .i64 (mid : Int) ∧ wx = wr)
          case first =>
            go_wp2_with fail
            all_goals go_meet
            case rel => exact ⟨by have := HMID.out; congr 1; omega, rfl⟩
            case rel => exact ⟨by have := HMID.out; congr 1; omega, rfl⟩
          case rest =>
            obtain ⟨rfl, rfl⟩ := hcut
            go_upto_region 12 with fail
            go_cut [10] from 27 to 96 (fun v wx => v = .int .i64 (en : Int) ∧ wx = wc)
            case first =>
              go_wp2_with fail
              all_goals go_meet
              case rel => exact ⟨by have := HEN.out; congr 1; omega, rfl⟩
              case rel => exact ⟨by have := HEN.out; congr 1; omega, rfl⟩
            case rest =>
              obtain ⟨rfl, rfl⟩ := hcut
              have hmc : mid ≤ cur.length := by have := HMID.out; have := HCL.out; omega
              have hec : en ≤ cur.length := by have := HEN.out; have := HCL.out; omega
              have hme : mid ≤ en := by have := HEN.out; have := HMID.out; omega
              have ham : a ≤ mid := by have := HMID.out; omega
              have hnl : nxt.length ≤ n := by have := HON.out.len; omega
              go_wp2_with fail
              go_loopw [5, 7, 9] (fun nx i j wy => ∃ A4 c4 m' nx' ii jj, nx = .slice A4 m' c4 ∧ i = .int .i64 (ii : Nat) ∧ j = .int .i64 (jj : Nat) ∧ a ≤ ii ∧ ii ≤ mid ∧ mid ≤ jj ∧ jj ≤ en ∧ mrg cur a mid en nxt nx' ii jj ∧ OwnM wy B2 wy.heap.size A4 m' c4 nx' ∧ OwnM wy B B2 A2 n c2 cur ∧ Below B w wy ∧ B2 ≤ wy.heap.size)
                (fun _ i j _ => (mid - (intOf i).toNat) + (en - (intOf j).toNat))
              case atStart => exact ⟨A3, c3, m, nxt, a, mid, rfl, rfl, rfl, Nat.le_refl _, ham, Nat.le_refl _, hme, mrg_start _ _ _ _ _, HON.out, HOC.out, HBW.out, HSZ3.out⟩
              case round =>
                obtain ⟨A4, c4, m', nx', ii, jj, rfl, rfl, rfl, hi1, hi2, hj1, hj2, hmrg, hn4, hc4, hb4, hsz4⟩ := hrel
                clear HON HOC HBW HSZ3
                have HN4 := Lib.hid hn4
                have HC4 := Lib.hid hc4
                have HB4 := Lib.hid hb4
                have HMR := Lib.hid hmrg
                have hm4 : m' ≤ 1099511627776 := by have := mrg_len hmrg; have := hn4.len; have := HCL.out; omega
                clear hmrg hn4 hb4
                have HSZ := Lib.hid hsz4
                clear hsz4
                have hmn : mid ≤ n := by have := HMID.out; omega
                have hen' : en ≤ n := by have := HEN.out; omega
                by_cases hje : en ≤ jj
                · have hjI : ¬ (jj : Int) < (en : Int) := by omega
                  have hjG : (en : Int) ≤ (jj : Int) := by omega
                  by_cases hii : ii < mid
                  · have hiI : (ii : Int) < (mid : Int) := by omega
                    have hiN : (ii : Int) < (n : Int) := by omega
                    obtain ⟨b, o, rfl, hb, hi0, hi1'⟩ := hc4.si.at_ (k := ii) (by omega)
                    have HM := Lib.hid (mrg_left HMR.out hii hmc hec (.inl hje))
                    obtain ⟨p1, hp1⟩ : ∃ p1, p1 = (ce cur ii).1 := ⟨_, rfl⟩
                    obtain ⟨q1, hq1⟩ : ∃ q1, q1 = (ce cur ii).2 := ⟨_, rfl⟩
                    have HPQ : Hid (ce cur ii = (p1, q1)) := Lib.hid (by rw [hp1, hq1])
                    rw [← hp1] at hi0
                    rw [← hq1] at hi1'
                    have HRG : Hid (∀ q, (wr.drewN q).rangeAt b (o + ii * 2) [.int .i64 p1, .int .i64 q1]) := Lib.hid (fun q => MS.range hi0 hi1')
                    clear hp1 hq1 hb hc4
                    go_wp2_with fail
                    go_quiet (fail)
                    go_wp2_with (first
                      | (with_reducible refine wpList_load_mid rfl 108 (.tmp 82) rfl b (o + ii * 2) rfl [.int .i64 p1, .int .i64 q1] _ (HRG.out nq) Try.underlying108 rfl Try.infoMon ?_)
                      | (at_builtin; refine wpList_appendM rfl (.tmp 79) (.tmp 84) rfl B2 A4 m' c4 nx' p1 q1 rfl rfl (HN4.out.drawn ⟨nq, rfl⟩) HSZ.out hm4 ?_; intro A6 c6 w6 ho6 hb6 hg6 hn6; have HO6 := Lib.hid ho6; have HB6 := Lib.hid hb6; clear ho6 hb6 hg6 hn6))
                    go_roundw
                    case rel => exact ⟨A6, c6, m' + 1, nx' ++ [ce cur ii], ii + 1, jj, rfl, by go_num, by go_num, by omega, by omega, by omega, by omega, HM.out, by rw [HPQ.out]; exact HO6.out, (HC4.out.drawn ⟨nq, rfl⟩).below HB6.out (Nat.le_refl _), (HB4.out.drawnN nq).trans (HB6.out.mono hBB), Nat.le_trans HSZ.out HB6.out.size⟩
                    case measure => simp [intOf]; omega
                  · have hiI : ¬ (ii : Int) < (mid : Int) := by omega
                    have HM : Hid (nx' = nxt ++ List.merge (seg cur a mid) (seg cur mid en) leM) := Lib.hid (mrg_end HMR.out (by omega) hje)
                    have HNX : Hid (passed leM sz (p + 1) cur nx') := Lib.hid (by
                      have h := passed_next leM_trans leM_total HPA.out HR.out (by rw [← HAP.out, HCL.out]; exact hal)
                      rw [← HAP.out, HCL.out, ← HMID.out, ← HEN.out, ← HM.out] at h
                      exact h)
                    have HA2 : Hid (a + 2 * sz = (p + 1) * (2 * sz)) := Lib.hid (by rw [Nat.add_mul, Nat.one_mul, ← HAP.out])
                    clear hc4
                    go_wp2
                    go_roundw
                    case rel => exact ⟨A4, c4, m', nx', p + 1, a + 2 * sz, rfl, by go_num, HA2.out, by omega, HNX.out, HN4.out, HC4.out, HB4.out, HSZ.out⟩
                    case measure => simp [intOf]; omega
                · have hjI : (jj : Int) < (en : Int) := by omega
                  have hjG : ¬ (en : Int) ≤ (jj : Int) := by omega
                  have hjN : (jj : Int) < (n : Int) := by omega
                  by_cases hii : ii < mid
                  · have hiI : (ii : Int) < (mid : Int) := by omega
                    have hiN : (ii : Int) < (n : Int) := by omega
                    obtain ⟨b, o, rfl, hb, hi0, hi1'⟩ := hc4.si.at_ (k := ii) (by omega)
                    obtain ⟨b', o', e2, _, hj0, hj1'⟩ := hc4.si.at_ (k := jj) (by omega)
                    simp only [Option.some.injEq, Addr.mk.injEq, and_true] at e2
                    obtain ⟨rfl, rfl⟩ := e2
                    by_cases hk : (ce cur jj).1 ≤ (ce cur ii).1
                    · have HM := Lib.hid (mrg_left HMR.out hii hmc hec (.inr (by simp [leM]; exact hk)))
                      obtain ⟨p1, hp1⟩ : ∃ p1, p1 = (ce cur ii).1 := ⟨_, rfl⟩
                      obtain ⟨q1, hq1⟩ : ∃ q1, q1 = (ce cur ii).2 := ⟨_, rfl⟩
                      have HPQ : Hid (ce cur ii = (p1, q1)) := Lib.hid (by rw [hp1, hq1])
                      rw [← hp1] at hi0
                      rw [← hq1] at hi1'
                      have HRG : Hid (∀ q, (wr.drewN q).rangeAt b (o + ii * 2) [.int .i64 p1, .int .i64 q1]) := Lib.hid (fun q => MS.range hi0 hi1')
                      obtain ⟨p2, hp2⟩ : ∃ p2, p2 = (ce cur jj).1 := ⟨_, rfl⟩
                      rw [← hp2] at hj0
                      have hpp : p2 ≤ p1 := by rw [hp1, hp2]; exact hk
                      clear hp1 hq1 hb hc4 hp2 hk hj1'
                      go_wp2_with fail
                      go_quiet (fail)
                      go_wp2_with (first
                        | (with_reducible refine wpList_load_mid rfl 108 (.tmp 82) rfl b (o + ii * 2) rfl [.int .i64 p1, .int .i64 q1] _ (HRG.out nq) Try.underlying108 rfl Try.infoMon ?_)
                        | (at_builtin; refine wpList_appendM rfl (.tmp 79) (.tmp 84) rfl B2 A4 m' c4 nx' p1 q1 rfl rfl (HN4.out.drawn ⟨nq, rfl⟩) HSZ.out hm4 ?_; intro A6 c6 w6 ho6 hb6 hg6 hn6; have HO6 := Lib.hid ho6; have HB6 := Lib.hid hb6; clear ho6 hb6 hg6 hn6))
                      go_roundw
                      case rel => exact ⟨A6, c6, m' + 1, nx' ++ [ce cur ii], ii + 1, jj, rfl, by go_num, by go_num, by omega, by omega, by omega, by omega, HM.out, by rw [HPQ.out]; exact HO6.out, (HC4.out.drawn ⟨nq, rfl⟩).below HB6.out (Nat.le_refl _), (HB4.out.drawnN nq).trans (HB6.out.mono hBB), Nat.le_trans HSZ.out HB6.out.size⟩
                      case measure => simp [intOf]; omega
                    · have HM := Lib.hid (mrg_right HMR.out (by omega) hmc hec (.inr (by simp [leM]; omega)))
                      obtain ⟨p1, hp1⟩ : ∃ p1, p1 = (ce cur jj).1 := ⟨_, rfl⟩
                      obtain ⟨q1, hq1⟩ : ∃ q1, q1 = (ce cur jj).2 := ⟨_, rfl⟩
                      have HPQ : Hid (ce cur jj = (p1, q1)) := Lib.hid (by rw [hp1, hq1])
                      rw [← hp1] at hj0
                      rw [← hq1] at hj1'
                      have HRG : Hid (∀ q, (wr.drewN q).rangeAt b (o + jj * 2) [.int .i64 p1, .int .i64 q1]) := Lib.hid (fun q => MS.range hj0 hj1')
                      obtain ⟨p2, hp2⟩ : ∃ p2, p2 = (ce cur ii).1 := ⟨_, rfl⟩
                      rw [← hp2] at hi0
                      have hpp : ¬ p1 ≤ p2 := by rw [hp1, hp2]; exact hk
                      clear hp1 hq1 hb hc4 hp2 hk hi1'
                      go_wp2_with fail
                      go_quiet (fail)
                      go_wp2_with (first
                        | (with_reducible refine wpList_load_mid rfl 108 (.tmp 91) rfl b (o + jj * 2) rfl [.int .i64 p1, .int .i64 q1] _ (HRG.out nq) Try.underlying108 rfl Try.infoMon ?_)
                        | (at_builtin; refine wpList_appendM rfl (.tmp 88) (.tmp 93) rfl B2 A4 m' c4 nx' p1 q1 rfl rfl (HN4.out.drawn ⟨nq, rfl⟩) HSZ.out hm4 ?_; intro A6 c6 w6 ho6 hb6 hg6 hn6; have HO6 := Lib.hid ho6; have HB6 := Lib.hid hb6; clear ho6 hb6 hg6 hn6))
                      go_roundw
                      case rel => exact ⟨A6, c6, m' + 1, nx' ++ [ce cur jj], ii, jj + 1, rfl, by go_num, by go_num, by omega, by omega, by omega, by omega, HM.out, by rw [HPQ.out]; exact HO6.out, (HC4.out.drawn ⟨nq, rfl⟩).below HB6.out (Nat.le_refl _), (HB4.out.drawnN nq).trans (HB6.out.mono hBB), Nat.le_trans HSZ.out HB6.out.size⟩
                      case measure => simp [intOf]; omega
                  · have hiI : ¬ (ii : Int) < (mid : Int) := by omega
                    obtain ⟨b, o, rfl, hb, hj0, hj1'⟩ := hc4.si.at_ (k := jj) (by omega)
                    have HM := Lib.hid (mrg_right HMR.out (by omega) hmc hec (.inl (by omega)))
                    obtain ⟨p1, hp1⟩ : ∃ p1, p1 = (ce cur jj).1 := ⟨_, rfl⟩
                    obtain ⟨q1, hq1⟩ : ∃ q1, q1 = (ce cur jj).2 := ⟨_, rfl⟩
                    have HPQ : Hid (ce cur jj = (p1, q1)) := Lib.hid (by rw [hp1, hq1])
                    rw [← hp1] at hj0
                    rw [← hq1] at hj1'
                    have HRG : Hid (∀ q, (wr.drewN q).rangeAt b (o + jj * 2) [.int .i64 p1, .int .i64 q1]) := Lib.hid (fun q => MS.range hj0 hj1')
                    clear hp1 hq1 hb hc4
                    go_wp2_with fail
                    go_quiet (fail)
                    go_wp2_with (first
                      | (with_reducible refine wpList_load_mid rfl 108 (.tmp 91) rfl b (o + jj * 2) rfl [.int .i64 p1, .int .i64 q1] _ (HRG.out nq) Try.underlying108 rfl Try.infoMon ?_)
                      | (at_builtin; refine wpList_appendM rfl (.tmp 88) (.tmp 93) rfl B2 A4 m' c4 nx' p1 q1 rfl rfl (HN4.out.drawn ⟨nq, rfl⟩) HSZ.out hm4 ?_; intro A6 c6 w6 ho6 hb6 hg6 hn6; have HO6 := Lib.hid ho6; have HB6 := Lib.hid hb6; clear ho6 hb6 hg6 hn6))
                    go_roundw
                    case rel => exact ⟨A6, c6, m' + 1, nx' ++ [ce cur jj], ii, jj + 1, rfl, by go_num, by go_num, by omega, by omega, by omega, by omega, HM.out, by rw [HPQ.out]; exact HO6.out, (HC4.out.drawn ⟨nq, rfl⟩).below HB6.out (Nat.le_refl _), (HB4.out.drawnN nq).trans (HB6.out.mono hBB), Nat.le_trans HSZ.out HB6.out.size⟩
                    case measure => simp [intOf]; omega
        · have HE : Hid (List.Perm nxt cur ∧ runs leM (2 * sz) nxt) := Lib.hid (passed_end HPA.out (by rw [HCL.out, ← HAP.out]; omega))
          have hmn : m = n := by rw [← HON.out.len, HE.out.1.length_eq]; exact HCL.out
          rw [hmn] at HON ⊢
          go_wp2
          go_roundw
          case rel =>
           exact ⟨A3, c3, nxt, 2 * sz, rfl, by go_num, by omega, by omega, HE.out.1.trans HP.out, HE.out.2, HON.out.wide hBB (Nat.le_refl _), HBW.out⟩
          case measure => simp [intOf]; omega
    · have HSO : Hid (leftL (sumsL cur) = gatherL l) := Lib.hid (doc_gather HP.out ((runs_all HR.out (by rw [HCL.out]; omega)).imp (fun h => by simpa [leM] using h)) H64.out)
      have hltI : ¬ (sz : Int) < (n : Int) := by omega
      obtain ⟨B2, hB2⟩ : ∃ B2, B2 = wr.heap.size := ⟨_, rfl⟩
      have hBB : B ≤ B2 := by rw [hB2, HB0.out]; exact HB0.out ▸ HB.out.size
      have HO2 : Hid (OwnM (wr.alloc (.cells #[] 108)) B2 (wr.alloc (.cells #[] 108)).heap.size (some ⟨B2, 0, none⟩) 0 0 []) := Lib.hid (by rw [hB2]; simpa using OwnM.empty wr)
      have HBW : Hid (Below B w (wr.alloc (.cells #[] 108))) := Lib.hid (HB.out.alloc (by omega) _)
      have HZ2 : Hid (B2 ≤ (wr.alloc (.cells #[] 108)).heap.size) := Lib.hid (by rw [hB2]; simp)
      have HOC : Hid (OwnM (wr.alloc (.cells #[] 108)) B B2 A2 n c2 cur) := Lib.hid (by rw [hB2]; exact HO.out.below ((Below.refl _ _).alloc (Nat.le_refl _) _) (Nat.le_refl _))
      go_wp2_with fail
      rw [← hB2]
      clear hB2 HO HB HP HR
      go_loopw [11, 12] (fun sm k wx => ∃ A4 c4 m acc kk, sm = .slice A4 m c4 ∧ k = .int .i64 (kk : Nat) ∧ kk ≤ n ∧ acc = (cur.take kk).foldl sumStep [] ∧ OwnM wx B2 wx.heap.size A4 m c4 acc ∧ OwnM wx B B2 A2 n c2 cur ∧ Below B w wx ∧ B2 ≤ wx.heap.size)
        (fun _ k _ => n - (intOf k).toNat)
      case atStart => exact ⟨_, 0, 0, [], 0, rfl, rfl, Nat.zero_le _, rfl, HO2.out, HOC.out, HBW.out, HZ2.out⟩
      case round =>
        obtain ⟨A4, c4, m, acc, k, rfl, rfl, hk, hacc, hn4, hc4, hb4, hsz4⟩ := hrel
        clear HO2 HOC HBW HZ2
        have HACC := Lib.hid hacc
        have HN4 := Lib.hid hn4
        have HC4 := Lib.hid hc4
        have HB4 := Lib.hid hb4
        have HSZ := Lib.hid hsz4
        have hmk : m ≤ k := by
          have h1 := sums_len (cur.take k) []
          have h2 := hn4.len
          rw [hacc] at h2
          simp at h1
          omega
        clear hacc hb4 hsz4
        by_cases hlt : k < n
        · have hltK : (k : Int) < (n : Int) := by omega
          have HNX := Lib.hid (sums_next (cur := cur) (k := k) (by rw [HCL.out]; exact hlt))
          obtain ⟨b, o, rfl, hb, hi0, hi1⟩ := hc4.si.at_ (k := k) hlt
          obtain ⟨p1, hp1⟩ : ∃ p1, p1 = (ce cur k).1 := ⟨_, rfl⟩
          obtain ⟨q1, hq1⟩ : ∃ q1, q1 = (ce cur k).2 := ⟨_, rfl⟩
          have HPQ : Hid (ce cur k = (p1, q1)) := Lib.hid (by rw [hp1, hq1])
          rw [← hp1] at hi0
          rw [← hq1] at hi1
          have HRG : Hid (∀ q, (wr.drewN q).rangeAt b (o + k * 2) [.int .i64 p1, .int .i64 q1]) := Lib.hid (fun q => MS.range hi0 hi1)
          by_cases hm0 : m = 0
          · subst hm0
            have hae : acc = [] := List.eq_nil_of_length_eq_zero hn4.len
            subst hae
            clear hc4 hn4 hp1 hq1 hb
            go_wp2_with fail
            go_quiet (fail)
            go_wp2_with (first
              | (with_reducible refine wpList_load_mid rfl 108 (.tmp 145) rfl b (o + k * 2) rfl [.int .i64 p1, .int .i64 q1] _ (HRG.out nq) Try.underlying108 rfl Try.infoMon ?_)
              | (at_builtin; refine wpList_appendM rfl (.tmp 142) (.tmp 147) rfl B2 A4 0 c4 [] p1 q1 rfl rfl (HN4.out.drawn ⟨nq, rfl⟩) HSZ.out (by omega) ?_; intro A6 c6 w6 ho6 hb6 hg6 hn6; have HO6 := Lib.hid ho6; have HB6 := Lib.hid hb6; clear ho6 hb6 hg6 hn6))
            go_roundw
            case rel => exact ⟨A6, c6, 1, [(p1, q1)], k + 1, rfl, by go_num, by omega, by rw [HNX.out, ← HACC.out, sumStep_nil, HPQ.out], HO6.out, (HC4.out.drawn ⟨nq, rfl⟩).below HB6.out (Nat.le_refl _), (HB4.out.drawnN nq).trans (HB6.out.mono hBB), Nat.le_trans HSZ.out HB6.out.size⟩
            case measure => simp [intOf]; omega
          · obtain ⟨m, rfl⟩ : ∃ m', m = m' + 1 := ⟨m - 1, by omega⟩
            obtain ⟨g4, rfl, hg1, hg2⟩ := hn4.place (by omega)
            obtain ⟨hj0, hj1, hfz⟩ := hn4.cells (k := m) (by omega)
            have hfz1 := hfz (m * 2 + 1)
            obtain ⟨p2, hp2⟩ : ∃ p2, p2 = (ce acc m).1 := ⟨_, rfl⟩
            obtain ⟨q2, hq2⟩ : ∃ q2, q2 = (ce acc m).2 := ⟨_, rfl⟩
            have HP2 : Hid (ce acc m = (p2, q2)) := Lib.hid (by rw [hp2, hq2])
            have HAL : Hid (acc.length = m + 1) := Lib.hid hn4.len
            rw [← hp2] at hj0
            rw [← hq2] at hj1
            have hmw : IntKind.i64.wrap (((m + 1 : Nat) : Int) - 1) = (m : Int) := by rw [IntWalk.i64_in _ (by omega)]; omega
            have hm0' : (0 : Int) < ((m + 1 : Nat) : Int) := by omega
            have hm1 : (m : Int) < ((m + 1 : Nat) : Int) := by omega
            by_cases hpp : p2 = p1
            · have hst := hn4.set2 (k := m) (by omega) (w64 (q2 + q1))
              rw [HP2.out] at hst
              have HST := Lib.hid (fun q => ((hn4.drawn ⟨q, rfl⟩ : OwnM (wr.drewN q) B2 wr.heap.size (some ⟨g4, 0, none⟩) (m + 1) c4 acc)).set2 (k := m) (by omega) (w64 (q2 + q1)))
              have HEQ : Hid (sumStep acc (p1, q1) = acc.set m (p2, w64 (q2 + q1))) := Lib.hid (by have := sumStep_eq (t := (p1, q1)) HAL.out (by rw [HP2.out]; exact hpp); rw [HP2.out] at this; exact this)
              have hww : IntKind.i64.wrap (q2 + q1) = w64 (q2 + q1) := wrap_w64 _
              subst hpp
              obtain ⟨z, hz⟩ : ∃ z, z = w64 (q2 + q1) := ⟨_, rfl⟩
              rw [← hz] at HST HEQ hww
              clear hc4 hn4 hp1 hq1 hb hp2 hq2 hst hfz hz
              go_wp2_with fail
              go_quiet (fail)
              go_wp2_with fail
              obtain ⟨wz, hwz⟩ : ∃ wz, wz = wr.drewN nq := ⟨_, rfl⟩
              have hi1z : wz.cell? ⟨b, o + k * 2 + 1, none⟩ = some (.int .i64 q1) := by rw [hwz]; exact hi1
              have hj1z : wz.cell? ⟨g4, m * 2 + 1, none⟩ = some (.int .i64 q2) := by rw [hwz]; exact hj1
              have hfz : wz.frozen? ⟨g4, m * 2 + 1, none⟩ = false := by rw [hwz]; exact hfz1
              rw [← hwz]
              have HWZ := Lib.hid hwz
              have hmw2 : IntKind.i64.wrap (m : Int) = (m : Int) := IntWalk.i64_in _ (by omega)
              have hmw3 : (m : Int) < (m : Int) + 1 := by omega
              have hmw4 : (0 : Int) ≤ (m : Int) := by omega
              clear hwz hi0 hi1 hj0 hj1 hfz1
              refine wp_region_still_tail 19 (by kernel_rfl) (by kernel_rfl) ?_
              simp only [List.take_succ_cons, List.take_zero, List.drop_succ_cons, List.drop_zero]
              repeat still_step
              refine wpStill_nil ?_
              change wpList _ _ _ _ _ wz.drew
              go_wp2
              go_roundw
              case rel =>
                have e := HWZ.out
                subst e
                have h1 : OwnM ((wr.drewN nq).drew.setCell ⟨g4, m * 2 + 1, none⟩ (.int .i64 z)) B2 wr.heap.size (some ⟨g4, 0, none⟩) (m + 1) c4 (acc.set m ((ce acc m).1, z)) := (HST.out (nq + 1)).1
                rw [HP2.out] at h1
                refine ⟨some ⟨g4, 0, none⟩, c4, m + 1, acc.set m (p2, z), k + 1, rfl, by go_num, by omega, by rw [HNX.out, ← HACC.out, HPQ.out, HEQ.out], h1.wide (Nat.le_refl _) (by simp), ?_, ?_, ?_⟩
                · exact (HC4.out.drawn ⟨nq + 1, rfl⟩ : OwnM (wr.drewN nq).drew B B2 _ n c2 cur).below ((Below.refl B2 _).setCell (p := ⟨g4, m * 2 + 1, none⟩) hg1 _) (Nat.le_refl _)
                · exact ((HB4.out.drawnN (nq + 1)) : Below B w (wr.drewN nq).drew).setCell (p := ⟨g4, m * 2 + 1, none⟩) (Nat.le_trans hBB hg1) _
                · have := HSZ.out; simpa using this
              case measure => simp [intOf]; omega
            · have HEQ : Hid (sumStep acc (p1, q1) = acc ++ [(p1, q1)]) := Lib.hid (sumStep_ne HAL.out (by rw [HP2.out]; exact hpp))
              have hpb : (p2 == p1) = false := by simpa using hpp
              clear hc4 hn4 hp1 hq1 hb hp2 hq2 hfz hfz1 hpp
              go_wp2_with fail
              go_quiet (fail)
              go_wp2_with (first
                | (with_reducible refine wpList_load_mid rfl 108 (.tmp 145) rfl b (o + k * 2) rfl [.int .i64 p1, .int .i64 q1] _ (HRG.out nq) Try.underlying108 rfl Try.infoMon ?_)
                | (at_builtin; refine wpList_appendM rfl (.tmp 142) (.tmp 147) rfl B2 (some ⟨g4, 0, none⟩) (m + 1) c4 acc p1 q1 rfl rfl (HN4.out.drawn ⟨nq, rfl⟩) HSZ.out (by omega) ?_; intro A6 c6 w6 ho6 hb6 hg6 hn6; have HO6 := Lib.hid ho6; have HB6 := Lib.hid hb6; clear ho6 hb6 hg6 hn6))
              go_roundw
              case rel => exact ⟨A6, c6, m + 1 + 1, acc ++ [(p1, q1)], k + 1, rfl, by go_num, by omega, by rw [HNX.out, ← HACC.out, HPQ.out, HEQ.out], HO6.out, (HC4.out.drawn ⟨nq, rfl⟩).below HB6.out (Nat.le_refl _), (HB4.out.drawnN nq).trans (HB6.out.mono hBB), Nat.le_trans HSZ.out HB6.out.size⟩
              case measure => simp [intOf]; omega
        · have hkn : k = n := by omega
          have HSUM : Hid (acc = sumsL cur) := Lib.hid (by rw [HACC.out, List.take_of_length_le (by rw [HCL.out]; omega)]; rfl)
          have hltK : ¬ (k : Int) < (n : Int) := by omega
          have hmn : m ≤ n := by omega
          have HAL : Hid (acc.length = m) := Lib.hid hn4.len
          obtain ⟨B3, hB3⟩ : ∃ B3, B3 = wr.heap.size := ⟨_, rfl⟩
          have hB23 : B2 ≤ B3 := by rw [hB3]; exact HSZ.out
          have HO5 : Hid (OwnM (wr.alloc (.cells #[] 108)) B3 (wr.alloc (.cells #[] 108)).heap.size (some ⟨B3, 0, none⟩) 0 0 []) := Lib.hid (by rw [hB3]; simpa using OwnM.empty wr)
          have HB5 : Hid (Below B w (wr.alloc (.cells #[] 108))) := Lib.hid (HB4.out.alloc (by omega) _)
          have HZ5 : Hid (B3 ≤ (wr.alloc (.cells #[] 108)).heap.size) := Lib.hid (by rw [hB3]; simp)
          have HN5 : Hid (OwnM (wr.alloc (.cells #[] 108)) B2 B3 A4 m c4 acc) := Lib.hid (by rw [hB3]; exact HN4.out.below ((Below.refl _ _).alloc (Nat.le_refl _) _) (Nat.le_refl _))
          clear hc4 hn4
          go_wp2_with fail
          rw [← hB3]
          clear hB3 HN4 HB4 HC4 HACC
          go_loopw [13, 14] (fun lf k wx => ∃ A5 c5 q kk, lf = .slice A5 q c5 ∧ k = .int .i64 (kk : Nat) ∧ kk ≤ m ∧ OwnM wx B3 wx.heap.size A5 q c5 (leftL (acc.take kk)) ∧ OwnM wx B2 B3 A4 m c4 acc ∧ Below B w wx ∧ B3 ≤ wx.heap.size)
            (fun _ k _ => m - (intOf k).toNat)
          case atStart => exact ⟨_, 0, 0, 0, rfl, rfl, Nat.zero_le _, by simpa [leftL] using HO5.out, HN5.out, HB5.out, HZ5.out⟩
          case round =>
            obtain ⟨A5, c5, q, i, rfl, rfl, hi, hl5, hn5, hb5, hsz5⟩ := hrel
            clear HO5 HB5 HZ5 HN5
            have HL5 := Lib.hid hl5
            have HN5 := Lib.hid hn5
            have HB5 := Lib.hid hb5
            have HZ5 := Lib.hid hsz5
            have hqi : q ≤ i := by
              have h1 := left_len (acc.take i)
              have h2 := hl5.len
              rw [List.length_take] at h1
              omega
            clear hl5 hb5 hsz5
            by_cases him : i < m
            · have himI : (i : Int) < (m : Int) := by omega
              have HNX := Lib.hid (left_next (acc := acc) (k := i) (by rw [HAL.out]; exact him))
              obtain ⟨b, o, rfl, hb, hi0, hi1⟩ := hn5.si.at_ (k := i) him
              obtain ⟨p1, hp1⟩ : ∃ p1, p1 = (ce acc i).1 := ⟨_, rfl⟩
              obtain ⟨q1, hq1⟩ : ∃ q1, q1 = (ce acc i).2 := ⟨_, rfl⟩
              have HPQ : Hid (ce acc i = (p1, q1)) := Lib.hid (by rw [hp1, hq1])
              rw [← hp1] at hi0
              rw [← hq1] at hi1
              have HRG : Hid (wr.rangeAt b (o + i * 2) [.int .i64 p1, .int .i64 q1]) := Lib.hid (MS.range hi0 hi1)
              rw [HPQ.out] at HNX
              clear hn5 hp1 hq1 hb
              by_cases hq0 : q1 = 0
              · have HNX2 := Lib.hid (HNX.out.trans (if_pos hq0))
                have hqb : (q1 != 0) = false := by simpa using hq0
                clear hq0 HNX
                go_wp2
                go_roundw
                case rel => exact ⟨A5, c5, q, i + 1, rfl, by go_num, by omega, by rw [HNX2.out]; exact HL5.out, HN5.out, HB5.out, HZ5.out⟩
                case measure => simp [intOf]; omega
              · have HNX2 := Lib.hid (HNX.out.trans (if_neg hq0))
                have hqb : (q1 != 0) = true := by simpa using hq0
                clear hq0 HNX
                go_wp2_with (first
                  | (with_reducible refine wpList_load_mid rfl 108 (.tmp 165) rfl b (o + i * 2) rfl [.int .i64 p1, .int .i64 q1] _ HRG.out Try.underlying108 rfl Try.infoMon ?_)
                  | (at_builtin; refine wpList_appendM rfl (.tmp 162) (.tmp 167) rfl B3 A5 q c5 (leftL (acc.take i)) p1 q1 rfl rfl HL5.out HZ5.out (by omega) ?_; intro A6 c6 w6 ho6 hb6 hg6 hn6; have HO6 := Lib.hid ho6; have HB6 := Lib.hid hb6; clear ho6 hb6 hg6 hn6))
                go_roundw
                case rel => exact ⟨A6, c6, q + 1, i + 1, rfl, by go_num, by omega, by rw [HNX2.out]; exact HO6.out, HN5.out.below HB6.out (Nat.le_refl _), HB5.out.trans (HB6.out.mono (by omega)), Nat.le_trans HZ5.out HB6.out.size⟩
                case measure => simp [intOf]; omega
            · have him' : i = m := by omega
              subst him'
              have HLL : Hid (leftL (acc.take i) = gatherL l) := Lib.hid (by rw [List.take_of_length_le (by rw [HAL.out]; omega), HSUM.out]; exact HSO.out)
              go_wp2
              go_ret
              rw [← HLL.out]
              refine ⟨A5, q, c5, rfl, HL5.out.wide (by rw [← HB0.out]; omega) (Nat.le_refl _), by rw [← HB0.out]; exact HB5.out⟩
end Go.Proofs.Ytkfpacjncpifgaa
