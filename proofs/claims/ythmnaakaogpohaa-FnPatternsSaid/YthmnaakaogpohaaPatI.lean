/-
  Patterns, the program's side: flattened permutations of sets of places, a loop over all sets. Conditions: lengths below 2^40.
-/
import Derived.Test.YthmnaakaogpohaaPatM
import Derived.Test.YthmnaakaogpohaaImplC
import Derived.Test.YthmnaakaogpohaaArrEq
import Derived.Test.YthmnaakaogpohaaTermKey
namespace Go.Proofs.Ythmnaakaogpohaa
open Go.RowKit

set_option maxHeartbeats 1000000 in
theorem ones64_any (m : Nat) (hm : m < 128) (w : World) : Calls Try.prog 106 #[.int .u64 m] w fun e w' => e = .returned (.int .i64 ((posL m 7).length : Int)) ∧ w = w' := by
  go_enter Try.func106, Try.ntmps106
  go_wp2
  go_ret
  refine ⟨ret_int ?_, rfl⟩
  clear w
  revert m
  decide +kernel
theorem ones_any (m : Nat) (hm : m < 128) (w : World) : Calls Try.prog 60 #[.int .u64 m] w fun e w' => e = .returned (.int .i64 ((posL m 7).length : Int)) ∧ w = w' := by
  go_enter Try.func60, Try.ntmps60
  go_wp2_with (go_at_call 106; refine (ones64_any m hm _).mono ?_; rintro e w1 ⟨rfl, rfl⟩)
  go_ret
  exact ⟨rfl, rfl⟩

theorem bit_at : ∀ m : Nat, m < 128 → ∀ k : Nat, k < 7 → Go.bits BinOp.and IntKind.u64 ((m : Int) / 2 ^ k) 1 = if m.testBit k = true then 1 else 0 := by decide +kernel
theorem nth_set {xs : List Int} {k : Nat} (h : k < xs.length) (x : Int) : nth (xs.set k x) k = x := by
  rw [nth_get (by simpa using h), List.getElem_set_self]
theorem arrC_set_at {l : List Int} (hl : l.length = 7) {k : Nat} (hk : k < 7) (x y : Int) : (arrC (l.set k x)).setIfInBounds k (.int .i64 y) = arrC (l.set k y) := by
  rw [arrC_set _ k hk y (by simpa using hl), List.set_set]

set_option maxHeartbeats 2000000 in
theorem flattened_any (l : List Int) (m : Nat) (hm : m < 128) (w : World) (hl : l.length = 7) :
    Calls Try.prog 61 #[arr l, .int .u64 m] w fun e w' => e = .returned (arr (flatL l m 7)) ∧ Below w.heap.size w w' := by
  have HL := Lib.hid hl
  clear hl
  go_enter Try.func61, Try.ntmps61
  go_wp2_with (go_at_call 104; refine (identityArray_any _).mono ?_; rintro e w2 ⟨rfl, hb2⟩)
  have hbw : Below w.heap.size w (w2.alloc (.cells #[.int .i64 0, .int .i64 1, .int .i64 2, .int .i64 3, .int .i64 4, .int .i64 5, .int .i64 6] 66)) := by
    have h1 : Below w.heap.size w ((w.alloc (.cells (arrC l) 66)).alloc (.cells zeroC 66)) := by go_grown
    exact (h1.trans (hb2.mono (by simp; omega))).alloc (by have := hb2.size; simp at this; omega) _
  have hK0 : Blk w2 w.heap.size 66 (arrC l) := ((Blk.new w 66 (arrC l)).alloc _).below hb2 (by simp; omega)
  have hK1 : Blk w2 (w.heap.size + 1) 66 zeroC := by
    have h := Blk.new (w.alloc (.cells (arrC l) 66)) 66 zeroC
    have e : (w.alloc (.cells (arrC l) 66)).heap.size = w.heap.size + 1 := by simp
    rw [e] at h
    exact h.below hb2 (by simp)
  have HZ : Hid (w.heap.size + 2 ≤ w2.heap.size) := Lib.hid (by have := hb2.size; simpa using this)
  clear hb2
  go_loopw [6, 10] (fun nx i wr => ∃ k : Nat, k ≤ 7 ∧ i = .int .i64 k ∧ nx = .int .i64 (posL m k).length ∧ Blk wr w.heap.size 66 (arrC l) ∧ Blk wr (w.heap.size + 1) 66 zeroC ∧ Blk wr w2.heap.size 66 (arrC (flatL l m k)) ∧ Below w.heap.size w wr)
    (fun _ i _ => 7 - (intOf i).toNat)
  case atStart =>
    refine ⟨0, by omega, rfl, rfl, hK0.alloc _, hK1.alloc _, ?_, hbw⟩
    rw [flatL_zero]; exact Blk.new _ _ _
  case round =>
    obtain ⟨k, hk, rfl, rfl, K0, K1, K2, hB⟩ := hrel
    clear hK0 hK1 hbw
    have H0 := Lib.hid K0
    have H1 := Lib.hid K1
    have H2 := Lib.hid K2
    have HB := Lib.hid hB
    clear K0 K1 K2 hB
    by_cases hlt : k < 7
    · have hkI : (k : Int) < 7 := by omega
      obtain ⟨nx, hnx⟩ : ∃ nx, nx = (posL m k).length := ⟨_, rfl⟩
      have hle := posL_le m k
      rw [← hnx] at hle ⊢
      have HN := Lib.hid hnx
      clear hnx
      have hF : (flatL l m k).length = 7 := flatL_len l m k
      cases hbk : m.testBit k with
      | false =>
        have hbit := bit_at m hm k hlt
        rw [hbk, if_neg (by simp)] at hbit
        have HBK := Lib.hid hbk
        clear hbk hF
        go_wp2
        go_roundw
        case rel => exact ⟨k + 1, by omega, by go_num, by rw [posL_no HBK.out, HN.out], H0.out, H1.out, by rw [flatL_no HBK.out]; exact H2.out, HB.out⟩
        case measure => simp [intOf]; omega
      | true =>
        have hbit := bit_at m hm k hlt
        rw [hbk, if_pos rfl] at hbit
        have HBK := Lib.hid hbk
        have hn7 : nx < 7 := by omega
        have hnI : (nx : Int) < 7 := by omega
        have hc2 : wr.cell? ⟨w2.heap.size, nx, none⟩ = some (.int .i64 (nth (flatL l m k) nx)) := (H2.out.cell _).trans (arrC_get _ nx hn7)
        have hf2 := H2.out.frozen nx
        have hs2 := H2.out.set_ nx (.int .i64 0)
        rw [arrC_set _ nx hn7 0 hF] at hs2
        have HS2 := Lib.hid hs2
        have HS0 := Lib.hid (H0.out.far (p := ⟨w2.heap.size, nx, none⟩) (by have := HZ.out; show w.heap.size ≠ w2.heap.size; omega) (.int .i64 0))
        have HS1 := Lib.hid (H1.out.far (p := ⟨w2.heap.size, nx, none⟩) (by have := HZ.out; show w.heap.size + 1 ≠ w2.heap.size; omega) (.int .i64 0))
        have HSB := Lib.hid (HB.out.setCell (p := ⟨w2.heap.size, nx, none⟩) (by have := HZ.out; show w.heap.size ≤ w2.heap.size; omega) (.int .i64 0))
        have HF := Lib.hid hF
        obtain ⟨x, hx⟩ : ∃ x, x = nth l k := ⟨_, rfl⟩
        have HX := Lib.hid hx
        clear hbk hs2 hF hx
        go_wp2_with fail
        obtain ⟨wo, hwo⟩ : ∃ wo, wo = wr.setCell ⟨w2.heap.size, nx, none⟩ (.int .i64 0) := ⟨_, rfl⟩
        rw [← hwo] at HS0 HS1 HS2 HSB ⊢
        clear hwo hc2 hf2 hbit
        go_loopw [20] (fun jv wx => ∃ j : Nat, j ≤ 7 ∧ jv = .int .i64 j ∧ Blk wx w.heap.size 66 (arrC l) ∧ Blk wx (w.heap.size + 1) 66 zeroC ∧ Blk wx w2.heap.size 66 (arrC ((flatL l m k).set nx (cntAt l m x j : Int))) ∧ Below w.heap.size w wx)
          (fun jv _ => 7 - (intOf jv).toNat)
        case atStart => exact ⟨0, by omega, rfl, HS0.out, HS1.out, HS2.out, HSB.out⟩
        case round =>
          obtain ⟨j, hj, rfl, K0, K1, K2, hB⟩ := hrel
          clear H0 H1 H2 HB HS0 HS1 HS2 HSB
          have H0 := Lib.hid K0
          have H1 := Lib.hid K1
          have H2 := Lib.hid K2
          have HB := Lib.hid hB
          clear K0 K1 K2 hB
          by_cases hjl : j < 7
          · have hjI : (j : Int) < 7 := by omega
            have hcnt := cntAt_le l m x j
            obtain ⟨cj, hcj⟩ : ∃ cj, cj = cntAt l m x j := ⟨_, rfl⟩
            rw [← hcj] at hcnt H2
            have HCJ := Lib.hid hcj
            clear hcj
            cases hbj : m.testBit j with
            | false =>
              have hbit := bit_at m hm j hjl
              rw [hbj, if_neg (by simp)] at hbit
              have HC := Lib.hid (cntAt_no (l := l) (x := x) (m := m) (j := j) (fun h => by rw [hbj] at h; cases h.1))
              clear hbj
              go_wp2_with fail
              go_quiet (fail)
              go_wp2
              go_roundw
              case rel => exact ⟨j + 1, by omega, by go_num, H0.out.drewN _, H1.out.drewN _, by rw [HC.out, ← HCJ.out]; exact H2.out.drewN _, HB.out.drawnN _⟩
              case measure => simp [intOf]; omega
            | true =>
              have hbit := bit_at m hm j hjl
              rw [hbj, if_pos rfl] at hbit
              have e1 : wr.cell? ⟨w.heap.size, j, none⟩ = some (.int .i64 (nth l j)) := (H0.out.cell _).trans (arrC_get _ j hjl)
              have e2 : wr.cell? ⟨w.heap.size, k, none⟩ = some (.int .i64 x) := by rw [HX.out]; exact (H0.out.cell _).trans (arrC_get _ k hlt)
              by_cases hlx : nth l j < x
              · have HC := Lib.hid (cntAt_yes (l := l) (x := x) (m := m) (j := j) hbj hlx)
                obtain ⟨y, hy⟩ : ∃ y, y = nth l j := ⟨_, rfl⟩
                rw [← hy] at e1 hlx
                have f1 : ∀ q, (wr.drewN q).cell? ⟨w2.heap.size, nx, none⟩ = some (.int .i64 (cj : Int)) := fun q => by
                  have h := (H2.out.cell nx).trans (arrC_get _ nx hn7)
                  rw [nth_set (by rw [HF.out]; exact hn7)] at h
                  exact h
                have f2 : ∀ q, (wr.drewN q).frozen? ⟨w2.heap.size, nx, none⟩ = false := fun q => H2.out.frozen nx
                have hw1 : IntKind.i64.wrap ((cj : Int) + 1) = (cj : Int) + 1 := IntWalk.i64_in _ (by omega)
                have F1 := Lib.hid f1
                have F2 := Lib.hid f2
                clear hbj hy f1 f2
                go_wp2_with fail
                go_quiet (fail)
                have g1 := F1.out nq
                have g2 := F2.out nq
                go_wp2
                go_roundw
                case rel =>
                  refine ⟨j + 1, by omega, by go_num, (H0.out.drewN _).far (by have := HZ.out; show w.heap.size ≠ w2.heap.size; omega) _, (H1.out.drewN _).far (by have := HZ.out; show w.heap.size + 1 ≠ w2.heap.size; omega) _, ?_, (HB.out.drawnN _).setCell (by have := HZ.out; show w.heap.size ≤ w2.heap.size; omega) _⟩
                  have h := (H2.out.drewN nq).set_ nx (.int .i64 ((cj : Int) + 1))
                  rw [arrC_set_at HF.out hn7] at h
                  rw [HC.out, ← HCJ.out]
                  simpa using h
                case measure => simp [intOf]; omega
              · have HC := Lib.hid (cntAt_no (l := l) (x := x) (m := m) (j := j) (fun h => hlx h.2))
                obtain ⟨y, hy⟩ : ∃ y, y = nth l j := ⟨_, rfl⟩
                rw [← hy] at e1 hlx
                clear hbj hy
                go_wp2_with fail
                go_quiet (fail)
                go_wp2
                go_roundw
                case rel => exact ⟨j + 1, by omega, by go_num, H0.out.drewN _, H1.out.drewN _, by rw [HC.out, ← HCJ.out]; exact H2.out.drewN _, HB.out.drawnN _⟩
                case measure => simp [intOf]; omega
          · have hj7 : j = 7 := by omega
            subst hj7
            go_wp2
            go_roundw
            case rel => exact ⟨k + 1, by omega, by go_num, by rw [posL_yes HBK.out, HN.out]; simp, H0.out, H1.out, by rw [flatL_yes HBK.out hlt, ← HN.out, ← HX.out]; exact H2.out, HB.out⟩
            case measure => simp [intOf]; omega
    · have hk7 : k = 7 := by omega
      subst hk7
      go_wp2_with (first | (refine wpList_load_blk rfl 66 (.tmp 5) rfl w2.heap.size rfl 66 (arrC (flatL l m 7)) 7 3 H2.out Try.undArr Try.infoArr ?_) | (refine wpList_store_blk rfl 66 (.tmp 4) (.tmp 46) rfl (w.heap.size + 1) (arrC (flatL l m 7)) rfl rfl 66 zeroC H1.out Try.infoArr rfl (arrC_one _) ?_; intro w3 hR3 hg3))
      refine bodyPost_ret (results_blk Try.results61 _ _ _ _ _ 7 3 rfl hR3 Try.undArr Try.infoArr) rfl ?_
      exact ⟨rfl, HB.out.grown hg3 HB.out.size (by rintro _ ⟨⟩; omega)⟩

def foundB (ws ps : List Int) (m : Nat) : Bool := decide ((posL m 7).length = ps.length) && decide (flatL (fillA ws ws.length) m 7 = fillA ps ps.length)

set_option maxHeartbeats 2000000 in
theorem implHasPattern_any (A A' : Option Addr) (n c n' c' : Nat) (us vs : List Int) (w : World) (hs : SI w A n us) (hs' : SI w A' n' vs) (hn : n ≤ 1099511627776) (hn' : n' ≤ 1099511627776) :
    Calls Try.prog 15 #[.slice A n c, .slice A' n' c'] w fun e w' => e = .returned (.bool (hasPB us vs)) ∧ Below w.heap.size w w' := by
  have hl := hs.1
  have hl' := hs'.1
  have HLs := Lib.hid (And.intro hl hl')
  clear hl hl'
  cases hu : isPermB us with
  | false =>
    have HE := Lib.hid (hasPB_1 (ps := vs) hu)
    have HU := Lib.hid hu
    clear hu
    obtain ⟨b, hv⟩ : ∃ b, isPermB vs = b := ⟨_, rfl⟩
    have HV := Lib.hid hv
    clear hv
    go_enter Try.func15, Try.ntmps15
    go_wp2_with fail
    refine (arrayOf_x c HU.out hs hn).mono ?_
    rintro e w1 ⟨l, rfl, -, hb1⟩
    have hbx : Below w.heap.size w (w1.alloc (.cells (arrC l) 66)) := hb1.alloc hb1.size _
    go_wp2_with fail
    generalize w1.alloc (.cells (arrC l) 66) = w2 at *
    refine (arrayOf_x c' HV.out (hs'.below hbx (Nat.le_refl _)) hn').mono ?_
    rintro e w3 ⟨l', rfl, -, hb3⟩
    go_wp2
    go_ret
    exact ⟨ret_bool HE.out.symm, (hbx.trans (hb3.mono hbx.size)).alloc ((hbx.trans (hb3.mono hbx.size)).size) _⟩
  | true =>
    have HU := Lib.hid hu
    clear hu
    cases hv : isPermB vs with
    | false =>
      have HE := Lib.hid (hasPB_2 (ws := us) hv)
      have HV := Lib.hid hv
      clear hv
      go_enter Try.func15, Try.ntmps15
      go_wp2_with fail
      refine (arrayOf_x c HU.out hs hn).mono ?_
      rintro e w1 ⟨l, rfl, -, hb1⟩
      have hbx : Below w.heap.size w (w1.alloc (.cells (arrC l) 66)) := hb1.alloc hb1.size _
      go_wp2_with fail
      generalize w1.alloc (.cells (arrC l) 66) = w2 at *
      refine (arrayOf_x c' HV.out (hs'.below hbx (Nat.le_refl _)) hn').mono ?_
      rintro e w3 ⟨l', rfl, -, hb3⟩
      go_wp2
      go_ret
      exact ⟨ret_bool HE.out.symm, (hbx.trans (hb3.mono hbx.size)).alloc ((hbx.trans (hb3.mono hbx.size)).size) _⟩
    | true =>
      have HV := Lib.hid hv
      have HI := Lib.hid (hasPB_iff HU.out hv)
      clear hv
      have h7 : n ≤ 7 := by have := (isPermB_P HU.out).2.1; have := HLs.out; omega
      have h7' : n' ≤ 7 := by have := (isPermB_P HV.out).2.1; have := HLs.out; omega
      go_enter Try.func15, Try.ntmps15
      go_wp2_with fail
      refine (arrayOf_x c HU.out hs hn).mono ?_
      rintro e w1 ⟨l, rfl, hlf, hb1⟩
      have HF := Lib.hid (hlf rfl)
      clear hlf
      have hbx : Below w.heap.size w (w1.alloc (.cells (arrC l) 66)) := hb1.alloc hb1.size _
      have hK := Blk.new w1 66 (arrC l)
      have hG : w1.heap.size < (w1.alloc (.cells (arrC l) 66)).heap.size := by simp
      go_wp2_with fail
      obtain ⟨g, hg⟩ : ∃ g, g = w1.heap.size := ⟨_, rfl⟩
      rw [← hg] at hK hG ⊢
      clear hg hb1
      generalize w1.alloc (.cells (arrC l) 66) = w2 at *
      refine (arrayOf_x c' HV.out (hs'.below hbx (Nat.le_refl _)) hn').mono ?_
      rintro e w3 ⟨l', rfl, hlf', hb3⟩
      have HF' := Lib.hid (hlf' rfl)
      clear hlf'
      have hK3 := hK.below hb3 hG
      have hbz := hbx.trans (hb3.mono hbx.size)
      have hby : Below w.heap.size w (w3.alloc (.cells (arrC l') 66)) := hbz.alloc hbz.size _
      have hK4 := hK3.alloc (.cells (arrC l') 66)
      have hK4' := Blk.new w3 66 (arrC l')
      clear hbx hb3 hK3 hK hbz
      go_wp2_with fail
      obtain ⟨g', hg'⟩ : ∃ g', g' = w3.heap.size := ⟨_, rfl⟩
      rw [← hg'] at hK4' ⊢
      clear hg'
      generalize w3.alloc (.cells (arrC l') 66) = w4 at *
      have HK := Lib.hid hK4
      have HK' := Lib.hid hK4'
      have HB4 := Lib.hid hby
      clear hK4 hK4' hby hG
      obtain ⟨N, hN⟩ : ∃ N, N = 2 ^ n := ⟨_, rfl⟩
      have hNI : IntKind.u64.wrap (2 ^ n) = (N : Int) := by
        rw [hN]
        have h1 : (2 : Nat) ^ n ≤ 2 ^ 7 := Nat.pow_le_pow_right (by omega) h7
        have h2 : ((2 ^ n : Nat) : Int) = (2 : Int) ^ n := by simp
        rw [← h2]
        simp [IntKind.wrap, IntKind.bits, IntKind.signed]
        omega
      have hN7 : N ≤ 128 := by rw [hN]; exact Nat.pow_le_pow_right (n := 2) (by omega) h7
      rw [hNI]
      have HN := Lib.hid hN
      have HLv := Lib.hid hs'.1
      have HLu := Lib.hid hs.1
      clear hN hNI
      go_loopw [29] (fun i wr => ∃ m : Nat, m ≤ N ∧ i = .int .u64 m ∧ (∀ j, j < m → foundB us vs j = false) ∧ Blk wr g 66 (arrC l) ∧ Blk wr g' 66 (arrC l') ∧ Below w.heap.size w wr)
        (fun i _ => N - (intOf i).toNat)
      case atStart => exact ⟨0, Nat.zero_le _, rfl, fun j hj => absurd hj (by omega), HK.out, HK'.out, HB4.out⟩
      case round =>
        obtain ⟨m, hm, rfl, hall, hk1, hk2, hbel⟩ := hrel
        clear HK HK' HB4
        have HA := Lib.hid hall
        have HBW := Lib.hid hbel
        have HK1 := Lib.hid hk1
        have HK2 := Lib.hid hk2
        clear hall hbel hk1 hk2
        by_cases hlt : m < N
        · have hlI : (m : Int) < (N : Int) := by omega
          have hm7 : m < 128 := by omega
          obtain ⟨cnt, hcnt⟩ : ∃ cnt, cnt = (posL m 7).length := ⟨_, rfl⟩
          obtain ⟨fl, hfl⟩ : ∃ fl, fl = flatL l m 7 := ⟨_, rfl⟩
          have hfll : fl.length = 7 := by rw [hfl]; exact flatL_len _ _ _
          have hll : l'.length = 7 := by rw [HF'.out]; exact fillA_len _ _
          have hll1 : l.length = 7 := by rw [HF.out]; exact fillA_len _ _
          have hfound : foundB us vs m = (decide (cnt = n') && decide (fl = l')) := by
            unfold foundB
            rw [hcnt, hfl, HF.out, HF'.out, HLu.out, HLv.out]
          have CA1 : ∀ w', AfterT wr w' → Calls Try.prog 60 #[.int .u64 m] w' (fun r w'' => r = .returned (.int .i64 cnt) ∧ AfterT wr w'') := fun w' hw' =>
            (ones_any m hm7 w').mono fun r w'' ⟨hr, hb⟩ => ⟨by rw [hr, hcnt], hb ▸ hw'⟩
          have CA2 : ∀ w', AfterT wr w' → Calls Try.prog 61 #[arr l, .int .u64 m] w' (fun r w'' => r = .returned (arr fl) ∧ AfterT wr w'') := fun w' hw' =>
            (flattened_any l m hm7 w' hll1).mono fun r w'' ⟨hr, hb⟩ => ⟨by rw [hr, hfl], Below.trans hw' (hb.mono hw'.size)⟩
          have LD1 : ∀ w', AfterT wr w' → (loadVar 66 ⟨g, 0, none⟩).run Try.prog w' = .ok (arr l) w' := fun w' hw' => run_loadVar_row w' g 66 66 (arrC l) (0, 0) _ (HK1.out.below hw' HK1.out.lt) Try.undArr rfl Try.infoArr
          have LD2 : ∀ w', AfterT wr w' → (loadVar 66 ⟨g', 0, none⟩).run Try.prog w' = .ok (arr l') w' := fun w' hw' => run_loadVar_row w' g' 66 66 (arrC l') (0, 0) _ (HK2.out.below hw' HK2.out.lt) Try.undArr rfl Try.infoArr
          have EQ : ∀ w', (Op.equalIn 10000 66 (arr fl) (arr l')).run Try.prog w' = .ok (decide (fl = l')) w' := fun w' => run_equalIn_arr w' hfll hll
          obtain ⟨b, hb⟩ : ∃ b, b = decide (fl = l') := ⟨_, rfl⟩
          rw [← hb] at EQ hfound
          have HC1 := Lib.hid CA1
          have HC2 := Lib.hid CA2
          have HL1 := Lib.hid LD1
          have HL2 := Lib.hid LD2
          have HEQ := Lib.hid EQ
          have HFD := Lib.hid hfound
          have HM := Lib.hid hm
          clear CA1 CA2 LD1 LD2 EQ hfound hfl hfll hll hll1 hcnt hb hm
          go_wp2_with fail
          refine tq_class (AfterT wr) (by kernel_rfl) (by kernel_rfl) (Below.refl _ _).drew ?_
          go_big_quiet_want
          go_big_quiet_op
          first | go_big_quiet_on | (refine ⟨_, fun _ _ => rfl, ?_⟩; go_big_quiet_on)
          go_big_quiet_want
          go_big_quiet_op
          refine ⟨.int .i64 cnt, fun w' hw' => HC1.out w' hw', ?_⟩
          go_big_quiet_on
          go_big_quiet_want
          go_big_quiet_op
          first | go_big_quiet_on | (refine ⟨_, fun _ _ => rfl, ?_⟩; go_big_quiet_on)
          go_big_quiet_want
          go_big_quiet_op
          first | go_big_quiet_on | (refine ⟨_, fun _ _ => rfl, ?_⟩; go_big_quiet_on)
          by_cases hcn : cnt = n'
          · subst hcn
            simp only [decide_true, Bool.true_and] at HFD
            go_big_quiet_want
            go_big_quiet_op
            first | go_big_quiet_on | (refine ⟨_, fun _ _ => rfl, ?_⟩; go_big_quiet_on)
            go_big_quiet_want
            go_big_quiet_op
            first | go_big_quiet_on | (refine ⟨_, fun _ _ => rfl, ?_⟩; go_big_quiet_on)
            go_big_quiet_want
            refine quiet_loadrun 66 (.tmp 5) rfl g 0 rfl _ HL1.out ?_
            go_big_quiet_on
            go_simp
            go_big_quiet_want
            go_big_quiet_op
            first | go_big_quiet_on | (refine ⟨_, fun _ _ => rfl, ?_⟩; go_big_quiet_on)
            go_big_quiet_want
            go_big_quiet_op
            refine ⟨arr fl, fun w' hw' => HC2.out w' hw', ?_⟩
            go_big_quiet_on
            go_big_quiet_want
            refine quiet_loadrun 66 (.tmp 7) rfl g' 0 rfl _ HL2.out ?_
            go_big_quiet_on
            go_simp
            go_big_quiet_want
            go_big_quiet_op
            refine ⟨.bool b, fun w' _ => by rw [HEQ.out]; exact ⟨rfl, rfl⟩, ?_⟩
            go_big_quiet_on
            go_big_quiet_want
            go_big_quiet_op
            first | go_big_quiet_on | (refine ⟨_, fun _ _ => rfl, ?_⟩; go_big_quiet_on)
            refine wpQuiet_nil ?_
            intro w6 hw6
            have HB6 := Lib.hid (HBW.out.trans (Below.mono hw6 HBW.out.size))
            have HK6 := Lib.hid (HK1.out.below hw6 HK1.out.lt)
            have HK7 := Lib.hid (HK2.out.below hw6 HK2.out.lt)
            clear hw6 HC1 HC2 HL1 HL2 HEQ HK1 HK2 HBW
            cases b with
            | true =>
              go_wp2
              go_ret
              refine ⟨ret_bool (HI.out.2 ⟨m, by rw [HLu.out, ← HN.out]; exact hlt, ?_⟩).symm, HB6.out⟩
              have h := HFD.out
              unfold foundB at h
              simpa using h
            | false =>
              go_wp2
              go_roundw
              case rel => exact ⟨m + 1, by omega, by go_num, fun j hj => by
                rcases Nat.lt_or_ge j m with h | h
                · exact HA.out j h
                · obtain rfl : j = m := by omega
                  exact HFD.out, HK6.out, HK7.out, HB6.out⟩
              case measure => simp [intOf]; omega
          · have hcI : ((cnt : Int) == (n' : Int)) = false := by simpa using (fun h : (cnt : Int) = n' => hcn (by omega))
            have HF0 : Hid (foundB us vs m = false) := Lib.hid (by rw [HFD.out, decide_eq_false hcn, Bool.false_and])
            have hcI' : ¬ (cnt : Int) = (n' : Int) := fun h => hcn (by omega)
            go_big_quiet_want
            go_big_quiet_op
            first | go_big_quiet_on | (refine ⟨_, fun _ _ => rfl, ?_⟩; go_big_quiet_on)
            go_big_quiet_want
            go_big_quiet_op
            first | go_big_quiet_on | (refine ⟨_, fun _ _ => rfl, ?_⟩; go_big_quiet_on)
            repeat go_big_quiet_skip
            go_big_quiet_want
            go_big_quiet_op
            first | go_big_quiet_on | (refine ⟨_, fun _ _ => rfl, ?_⟩; go_big_quiet_on)
            refine wpQuiet_nil ?_
            intro w6 hw6
            have HB6 := Lib.hid (HBW.out.trans (Below.mono hw6 HBW.out.size))
            have HK6 := Lib.hid (HK1.out.below hw6 HK1.out.lt)
            have HK7 := Lib.hid (HK2.out.below hw6 HK2.out.lt)
            clear hw6 HC1 HC2 HL1 HL2 HEQ HK1 HK2 HBW
            go_wp2
            go_roundw
            case rel => exact ⟨m + 1, by omega, by go_num, fun j hj => by
              rcases Nat.lt_or_ge j m with h | h
              · exact HA.out j h
              · obtain rfl : j = m := by omega
                exact HF0.out, HK6.out, HK7.out, HB6.out⟩
            case measure => simp [intOf]; omega
        · have hmN : m = N := by omega
          subst hmN
          have HR : Hid (hasPB us vs = false) := Lib.hid (by
            cases h : hasPB us vs with
            | false => rfl
            | true =>
              obtain ⟨j, h1, h2, h3⟩ := HI.out.1 h
              rw [HLu.out, ← HN.out] at h1
              have := HA.out j h1
              unfold foundB at this
              rw [decide_eq_true h2, decide_eq_true h3] at this
              cases this)
          go_wp2
          go_ret
          exact ⟨ret_bool HR.out.symm, HBW.out⟩
end Go.Proofs.Ythmnaakaogpohaa
