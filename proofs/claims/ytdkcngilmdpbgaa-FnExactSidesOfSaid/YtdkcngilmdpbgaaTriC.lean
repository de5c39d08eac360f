/-
  The small triangles of a puzzle, gathered. Conditions: a puzzle with lists of the right lengths.
-/
import Derived.Test.YtdkcngilmdpbgaaTriB
namespace Go.Proofs.Ytdkcngilmdpbgaa
open Go.RowKit

theorem OwnR.named {w : World} {lo hi n c : Nat} {A : Option Addr} {ts : List Tr} (h : OwnR w lo hi A n c ts) : ∃ E, E = cellsR ts ∧ w.ownsRow lo 121 3 (.slice A n c) n E ∧ ts.length = n ∧ ∀ k, (Value.slice A n c).ownBlock = some k → lo ≤ k ∧ k < hi := ⟨_, rfl, h.2.1, h.1, fun k hk => ⟨(h.2.1.lt k hk).1, h.2.2 k hk⟩⟩
/-- What a call that makes a slice of small triangles hands back. -/
def FreshR (w w' : World) (e : Ending) (ts : List Tr) : Prop :=
  ∃ A n c, e = .returned (.slice A n c) ∧ OwnR w' w.heap.size w'.heap.size A n c ts ∧ Below w.heap.size w w'
set_option maxRecDepth 100000 in
set_option maxHeartbeats 4000000 in
theorem smallTriangles_any (m : Nat) (A1 A2 A3 : Option Addr) (n1 c1 n2 c2 n3 c3 : Nat) (x1 x2 x3 : List Int) (w : World) (h1 : SI w A1 n1 x1) (h2 : SI w A2 n2 x2) (h3 : SI w A3 n3 x3) (hm : 1 ≤ m ∧ m ≤ 7) (hl : n1 = tri m ∧ n2 = tri m ∧ n3 = tri m) :
    Calls Try.prog 137 #[.agg #[.int .i64 m, .slice A1 n1 c1, .slice A2 n2 c2, .slice A3 n3 c3]] w fun e w' => FreshR w w' e (smR x1 x2 x3 m) := by
  obtain ⟨i0, hii, hz0, hz1, hz2⟩ := info_parts Try.infoTriZ
  have HI := Lib.hid (And.intro hii (And.intro hz0 (And.intro hz1 hz2)))
  clear hii hz0 hz1 hz2
  obtain ⟨w1, hw1⟩ : ∃ w1, w1 = w.alloc (.cells #[.int .i64 m, .slice A1 n1 c1, .slice A2 n2 c2, .slice A3 n3 c3] 47) := ⟨_, rfl⟩
  obtain ⟨g, hg⟩ : ∃ g, g = w.heap.size := ⟨_, rfl⟩
  have hbk : Blk w1 g 47 #[.int .i64 m, .slice A1 n1 c1, .slice A2 n2 c2, .slice A3 n3 c3] := by rw [hw1, hg]; exact Blk.new _ _ _
  have hb : Below w.heap.size w w1 := by rw [hw1]; go_grown
  have hsz : w1.heap.size = g + 1 := by rw [hw1, hg]; simp
  have HB1 := Lib.hid hb
  have HW := Lib.hid hw1
  have HG := Lib.hid hg
  have HSZ := Lib.hid hsz
  have HK1 := Lib.hid hbk
  have HS := Lib.hid (And.intro (h1.below hb (Nat.le_refl _)) (And.intro (h2.below hb (Nat.le_refl _)) (h3.below hb (Nat.le_refl _))))
  have HM := Lib.hid hm
  have HLL := Lib.hid hl
  have hm7 : m ≤ 7 := hm.2
  obtain ⟨q0, _, _, _⟩ := cells4 hbk
  clear hw1 hg hbk hb hsz h1 h2 h3 hm hl
  go_enter Try.func137, Try.ntmps137
  go_upto_region 1 with fail
  rw [← HW.out, ← HG.out]
  go_wp2_with fail
  clear q0
  go_loopw [3, 8] (fun ov rv wr => ∃ (r n : Nat) (A : Option Addr) (c : Nat), r ≤ m ∧ rv = .int .i64 r ∧ ov = .slice A n c ∧ OwnR wr (g + 1) wr.heap.size A n c (smR x1 x2 x3 r) ∧ Below (g + 1) w1 wr)
    (fun _ rv _ => m - (intOf rv).toNat)
  case atStart => exact ⟨0, 0, none, 0, Nat.zero_le _, rfl, rfl, OwnR.nil _ _ _, Below.refl _ _⟩
  case round =>
    obtain ⟨r, n, A, c, hr, rfl, rfl, hown, hbw⟩ := hrel
    have HO := Lib.hid hown
    have HB := Lib.hid hbw
    clear hown hbw
    by_cases hlt : r < m
    case neg =>
      have hrm : r = m := by omega
      subst hrm
      go_wp2
      go_ret
      exact ⟨A, n, c, rfl, HO.out.wide (by have := HG.out; omega) (Nat.le_refl _), HB1.out.trans (HB.out.mono (by have := HG.out; omega))⟩
    case pos =>
      have hltI : (r : Int) < (m : Int) := by omega
      have wr1 : IntKind.i64.wrap ((r : Int) + 1) = (r : Int) + 1 := IntWalk.i64_in _ (by omega)
      go_wp2_with fail
      obtain ⟨wo, rfl⟩ : ∃ wo, wo = wr := ⟨wr, rfl⟩
      go_loopw [3, 13] (fun ov kv wr => ∃ (k n : Nat) (A : Option Addr) (c : Nat), k ≤ r + 1 ∧ kv = .int .i64 k ∧ ov = .slice A n c ∧ OwnR wr (g + 1) wr.heap.size A n c (smR x1 x2 x3 r ++ smK x1 x2 x3 r k) ∧ Below (g + 1) w1 wr)
        (fun _ kv _ => r + 1 - (intOf kv).toNat)
      case atStart => exact ⟨0, n, A, c, Nat.zero_le _, rfl, rfl, by simpa [smK] using HO.out, HB.out⟩
      case round =>
        obtain ⟨k, n, A, c, hk, rfl, rfl, hown, hbw⟩ := hrel
        clear HO HB
        have HO := Lib.hid hown
        have HB := Lib.hid hbw
        have hn98 : n ≤ 98 := by
          have h5 := hown.1
          have h6 := smR_len x1 x2 x3 r
          have h7 := smK_len x1 x2 x3 r k
          have h8 := tri_small (r := r) (by omega)
          rw [List.length_append] at h5
          omega
        clear hown hbw
        by_cases hkr : k < r + 1
        case neg =>
          have hkI : ¬ (k : Int) < (r : Int) + 1 := by omega
          have HKE : Hid (k = r + 1) := Lib.hid (by omega)
          go_wp2
          go_roundw
          case rel => exact ⟨r + 1, n, A, c, by omega, by go_num, rfl, by have := HO.out; rw [HKE.out] at this; exact this, HB.out⟩
          case measure => simp [intOf]; omega
        case pos =>
          have hkI : (k : Int) < (r : Int) + 1 := by omega
          obtain ⟨a, ha⟩ : ∃ a, a = tri r + k := ⟨_, rfl⟩
          have hat : a < tri m := by rw [ha]; exact tri_lt hlt (by omega)
          have HAT : Hid (a < n1 ∧ a < n2 ∧ a < n3 ∧ a = tri r + k) := Lib.hid (by have := HLL.out; omega)
          have HPL := Lib.hid (fun w => smallPlace_at (i := (r : Int)) (j := (k : Int)) r k a rfl rfl ha w (by omega) (by omega))
          have hsi := And.intro (HS.out.1.below HB.out (by have := HSZ.out; omega)) (And.intro (HS.out.2.1.below HB.out (by have := HSZ.out; omega)) (HS.out.2.2.below HB.out (by have := HSZ.out; omega)))
          have HSI := Lib.hid hsi
          have HK := Lib.hid (HK1.out.below HB.out (by omega))
          have hq := cells4 HK.out
          have HQ := Lib.hid hq
          have hqd : wr.drew.cell? ⟨g, 0, none⟩ = some (.int .i64 m) ∧ wr.drew.cell? ⟨g, 1, none⟩ = some (.slice A1 n1 c1) ∧ wr.drew.cell? ⟨g, 2, none⟩ = some (.slice A2 n2 c2) ∧ wr.drew.cell? ⟨g, 3, none⟩ = some (.slice A3 n3 c3) := hq
          have HQD := Lib.hid hqd
          have HLT : Hid (g < wr.heap.size ∧ g + 1 ≤ wr.heap.size) := Lib.hid (by have := HB.out.size; have := HSZ.out; omega)
          have HT : Hid (triA x1 x2 x3 r k = (nth x1 a, nth x2 a, nth x3 a)) := Lib.hid (by unfold triA; rw [ha])
          obtain ⟨t1, ht1⟩ : ∃ t1, t1 = nth x1 a := ⟨_, rfl⟩
          obtain ⟨t2, ht2⟩ : ∃ t2, t2 = nth x2 a := ⟨_, rfl⟩
          obtain ⟨t3, ht3⟩ : ∃ t3, t3 = nth x3 a := ⟨_, rfl⟩
          have HATC := Lib.hid (fun w' (hb' : Below wr.heap.size wr w') => pzAt_any (m : Int) A1 A2 A3 n1 c1 n2 c2 n3 c3 x1 x2 x3 a w' (hsi.1.below hb' (Nat.le_refl _)) (hsi.2.1.below hb' (Nat.le_refl _)) (hsi.2.2.below hb' (Nat.le_refl _)) ⟨HAT.out.1, HAT.out.2.1, HAT.out.2.2.1⟩)
          rw [← ht1, ← ht2, ← ht3] at HATC HT
          clear hsi hq ht1 ht2 ht3 ha hat
          go_wp2_with fail
          go_region_held3 (fun w' => w'.cell? ⟨g, 0, none⟩ = some (.int .i64 m) ∧ w'.cell? ⟨g, 1, none⟩ = some (.slice A1 n1 c1) ∧ w'.cell? ⟨g, 2, none⟩ = some (.slice A2 n2 c2) ∧ w'.cell? ⟨g, 3, none⟩ = some (.slice A3 n3 c3))
            (first | exact HQD.out | exact HQ.out | exact K4 | exact cells4 (HK4.out.alloc _) | exact K5)
            (first
              | (refine step_append_lies _ (by rfl) (.tmp 16) (.tmp 22) 106 (by rfl) (g + 1) 121 i0 _ 3 24 Try.underlying106 HI.out.1 HI.out.2.1 HI.out.2.2.1 HI.out.2.2.2 rfl (by omega) (.slice A n c) n _ (by rfl) (HE4.out.2.1.alloc _)
                   ⟨w4.heap.size, 0, none⟩ 1 1 [.int .i64 t1, .int .i64 t2, .int .i64 t3] (by rfl) (by rfl) (World.news_of_block (cs := #[.int .i64 t1, .int .i64 t2, .int .i64 t3]) (t := 121) (fr := (0, 0)) (heap_alloc_new w4 _)) (by simp [Value.oneCell'])
                   (by omega) (by unfold maxLen; omega) (by omega) (by have := HW4.out.size; have := HLT.out; simp; omega) (w4.heap.size + 1) (by simp) ?_
                 intro ga cap w5 hrow5 hgrow hat5 hlt5
                 have HR5 := Lib.hid hrow5
                 have HG5 := Lib.hid hgrow
                 have HA5 := Lib.hid hat5
                 have K5 : w5.cell? ⟨g, 0, none⟩ = some (.int .i64 m) ∧ w5.cell? ⟨g, 1, none⟩ = some (.slice A1 n1 c1) ∧ w5.cell? ⟨g, 2, none⟩ = some (.slice A2 n2 c2) ∧ w5.cell? ⟨g, 3, none⟩ = some (.slice A3 n3 c3) := cells4 ((HK4.out.alloc _).grown hgrow (fun e => by have := HE4.out.2.2.2 g e.symm; omega))
                 clear hrow5 hgrow hat5)
              | (go_at_call 121; with_reducible refine (HPL.out _).mono ?_; rintro e w3 ⟨rfl, rfl⟩)
              | (go_at_call 139
                 with_reducible refine (HATC.out _ ((Below.refl _ _).drew)).mono ?_
                 rintro e w4 ⟨rfl, hb4⟩
                 have HW4 : Hid (Below wr.heap.size wr w4) := Lib.hid (((Below.refl _ _).drew).trans hb4)
                 have HK4 := Lib.hid (HK.out.below HW4.out HLT.out.1)
                 have K4 : w4.cell? ⟨g, 0, none⟩ = some (.int .i64 m) ∧ w4.cell? ⟨g, 1, none⟩ = some (.slice A1 n1 c1) ∧ w4.cell? ⟨g, 2, none⟩ = some (.slice A2 n2 c2) ∧ w4.cell? ⟨g, 3, none⟩ = some (.slice A3 n3 c3) := cells4 HK4.out
                 obtain ⟨E4, hE4⟩ := (HO.out.below HW4.out (Nat.le_refl _)).named
                 have HE4 := Lib.hid hE4
                 clear hb4 hE4))
          have HO5 : Hid (OwnR w5 (g + 1) w5.heap.size (some ⟨ga, 0, none⟩) (n + 1) cap (smR x1 x2 x3 r ++ smK x1 x2 x3 r k ++ [triA x1 x2 x3 r k])) := Lib.hid ⟨by rw [List.length_append, HE4.out.2.2.1]; rfl, by
            rw [cellsR_app, ← HE4.out.1, HT.out]; exact HR5.out, fun q hq => by injection hq with hq; rw [← hq]; exact hlt5⟩
          have HB5 : Hid (Below (g + 1) w1 w5) := Lib.hid (by
            have g1 : Below (g + 1) w1 w4 := HB.out.trans (HW4.out.mono HLT.out.2)
            have g2 : Below (g + 1) w4 (w4.alloc (.cells #[.int .i64 t1, .int .i64 t2, .int .i64 t3] 121)) := (Below.refl _ _).alloc (by have := HW4.out.size; have := HLT.out; omega) _
            exact (g1.trans g2).grown HG5.out (by have := HW4.out.size; have := HLT.out; simp; omega) (fun q hq => (HE4.out.2.2.2 q hq).1))
          have HK5 : Hid (Blk w5 g 47 #[.int .i64 m, .slice A1 n1 c1, .slice A2 n2 c2, .slice A3 n3 c3]) := Lib.hid (HK1.out.below HB5.out (by omega))
          clear HI HQ HQD HE4 HR5 HG5 HA5 HK4 HW4 K4 K5 HATC HK HSI
          by_cases hk0 : 0 < k
          case neg =>
            have hk0I : ¬ (0 : Int) < (k : Int) := by omega
            have HSU := Lib.hid (smK_none (x1 := x1) (x2 := x2) (x3 := x3) (r := r) hk0)
            clear hk0
            go_wp2
            go_roundw
            case rel => exact ⟨k + 1, n + 1, _, cap, by omega, by go_num, rfl, by rw [HSU.out, ← List.append_assoc]; exact HO5.out, HB5.out⟩
            case measure => simp [intOf]; omega
          case pos =>
            have hk0I : (0 : Int) < (k : Int) := by omega
            have HSU := Lib.hid (smK_pos (x1 := x1) (x2 := x2) (x3 := x3) (r := r) hk0)
            have hsi := And.intro (HS.out.1.below HB5.out (by have := HSZ.out; omega)) (And.intro (HS.out.2.1.below HB5.out (by have := HSZ.out; omega)) (HS.out.2.2.below HB5.out (by have := HSZ.out; omega)))
            have HTC := Lib.hid (pzTip_any (m : Int) A1 A2 A3 n1 c1 n2 c2 n3 c3 x1 x2 x3 r k w5 hsi.1 hsi.2.1 hsi.2.2 (by omega) hk0 (by omega) (by have := HAT.out; have e := HAT.out.2.2.2; rw [← e]; omega))
            obtain ⟨q0, q1, q2, q3⟩ := cells4 HK5.out
            have HGS : Hid (g + 1 ≤ w5.heap.size) := Lib.hid HK5.out.lt
            clear hk0 hsi
            go_wp2_with (first
              | (go_at_call 140; with_reducible refine HTC.out.mono ?_; rintro e w6 ⟨rfl, hb6⟩
                 have HO6 := Lib.hid ((HO5.out.below hb6 (Nat.le_refl _)).wide (Nat.le_refl _) hb6.size)
                 have HB6 : Hid (Below (g + 1) w1 w6) := Lib.hid (HB5.out.trans (hb6.mono HGS.out))
                 have HG6 : Hid (g + 1 ≤ w6.heap.size) := Lib.hid (Nat.le_trans HGS.out hb6.size)
                 clear hb6)
              | (at_builtin; refine wpList_appendR rfl (.tmp 26) (.tmp 31) rfl (g + 1) (some ⟨ga, 0, none⟩) (n + 1) cap _ (tipA x1 x2 x3 r k) rfl rfl HO6.out HG6.out (by omega) ?_; intro A7 c7 w7 ho7 hb7 _; have HO7 := Lib.hid ho7; have HB7 : Hid (Below (g + 1) w1 w7) := Lib.hid (HB6.out.trans hb7); clear ho7 hb7))
            go_roundw
            case rel => exact ⟨k + 1, n + 1 + 1, _, c7, by omega, by go_num, rfl, by rw [HSU.out, ← List.append_assoc, ← List.append_assoc]; exact HO7.out, HB7.out⟩
            case measure => simp [intOf]; omega
end Go.Proofs.Ytdkcngilmdpbgaa
