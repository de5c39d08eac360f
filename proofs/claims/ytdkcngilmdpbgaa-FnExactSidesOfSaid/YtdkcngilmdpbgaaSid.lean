/-
  The sides of a puzzle, on both sides. Conditions: lists below 2^40.
-/
import Derived.Test.YtdkcngilmdpbgaaPuzL
import Derived.Test.YtdkcngilmdpbgaaRotI
import Derived.Test.YtdkcngilmdpbgaaApp
namespace Go.Proofs.Ytdkcngilmdpbgaa
open Go.RowKit

theorem Own.exact {w : World} {lo hi g n c : Nat} {xs : List Int} (h : Own w lo hi (some ⟨g, 0, none⟩) n c xs) : Own w g (g + 1) (some ⟨g, 0, none⟩) n c xs := by
  refine ⟨⟨h.1.1, ?_⟩, fun k hk => by simp [Value.ownBlock] at hk; omega⟩
  rcases h.1.2 with ⟨e, _⟩ | ⟨g', cap, cur, e, hb, rest⟩
  · cases e
  · refine .inr ⟨g', cap, cur, e, ?_, rest⟩
    injection e with e1; injection e1 with e1; injection e1 with e1; omega
theorem Own.litOne {w : World} {x : Int} {lo : Nat} (h : lo ≤ w.heap.size) : Own (w.alloc (.cells #[.int .i64 x] 3)) lo (w.alloc (.cells #[.int .i64 x] 3)).heap.size (some ⟨w.heap.size, 0, none⟩) 1 1 [x] :=
  ⟨World.ownsRow_lit w #[.int .i64 x] 1 h (by unfold maxLen; omega) rfl, fun k hk => by simp [Value.ownBlock] at hk; simp; omega⟩
theorem drew_size (w : World) (o : Obj) : (w.drew.alloc o).heap.size = w.heap.size + 1 := by
  have h : (w.drew.alloc o).heap.size = w.drew.heap.size + 1 := by simp
  exact h
theorem wp_append_one (w : World) {o : Oper} {a : Act} {K : Act → World → Prop} {Q : Exit → Act → World → Prop} (s x : Operand)
    (ho : o.op = .call { callee := .builtin .append, args := #[s, x], argTypes := #[22, 22] })
    (lo hi g n c q : Nat) (xs : List Int) (v : Int) (A : Option Addr) (hA : A = some ⟨g, 0, none⟩) (hs : a.eval s = .slice A n c) (hx : a.eval x = .slice (some ⟨q, 0, none⟩) 1 1)
    (hq : w.cell? ⟨q, 0, none⟩ = some (.int .i64 v)) (hown : Own w lo hi (some ⟨g, 0, none⟩) n c xs) (hlo : lo ≤ w.heap.size) (hn : n ≤ 1099511627776)
    (h : ∀ g' c' w', Own w' lo w'.heap.size (some ⟨g', 0, none⟩) (n + 1) c' (xs ++ [v]) → w.grownBy w' (some g) → (g' = g ∨ g' = w.heap.size) → K (a.put o.dst (.slice (some ⟨g', 0, none⟩) (n + 1) c')) w') :
    o.wp Try.prog a w K Q := by
  subst hA
  obtain ⟨i0, hi0, hz0, hz1, hz2⟩ := info_parts Try.infoInt
  refine wp_append_lies w s x 22 ho lo 3 i0 (.int .i64 0) 1 8 Try.underlying22 hi0 hz0 hz1 hz2 rfl (by decide) _ n _ hs hown.1 ⟨q, 0, none⟩ 1 1 [.int .i64 v] hx rfl ?_ ?_ (by omega) (by unfold maxLen; omega) (by omega) hlo w.heap.size rfl ?_
  · intro j u hj
    match j, hj with
    | 0, hj =>
      simp at hj
      subst hj
      rw [add_pt]
      exact hq
  · intro u hu
    simp at hu
    subst hu
    rfl
  · intro g' c' w' hr hg hat _
    have e1 : List.map (Value.int .i64) xs ++ [Value.int .i64 v] = (xs ++ [v]).map (Value.int .i64) := by simp
    rw [e1] at hr
    refine h g' c' w' (Own.of hr) hg ?_
    rcases hat with e | e
    · left; simp [Value.ownBlock] at e; omega
    · exact .inr e
theorem step_append_one (w : World) {ops : Array Oper} {o : Oper} {a : Act} {K : Act → World → Prop} {Q : Exit → Act → World → Prop} {E0 : Prop} (hw : Region.wanted o (yielded ops a.tmps) = true) (s x : Operand)
    (ho : o.op = .call { callee := .builtin .append, args := #[s, x], argTypes := #[22, 22] })
    (lo hi g n c q : Nat) (xs : List Int) (v : Int) (A : Option Addr) (hA : A = some ⟨g, 0, none⟩) (hs : a.eval s = .slice A n c) (hx : a.eval x = .slice (some ⟨q, 0, none⟩) 1 1)
    (hq : w.cell? ⟨q, 0, none⟩ = some (.int .i64 v)) (hown : Own w lo hi (some ⟨g, 0, none⟩) n c xs) (hlo : lo ≤ w.heap.size) (hn : n ≤ 1099511627776)
    (h : ∀ g' c' w', Own w' lo w'.heap.size (some ⟨g', 0, none⟩) (n + 1) c' (xs ++ [v]) → w.grownBy w' (some g) → (g' = g ∨ g' = w.heap.size) → K (a.put o.dst (.slice (some ⟨g', 0, none⟩) (n + 1) c')) w') :
    if Region.wanted o (yielded ops a.tmps) = true then Oper.wp Try.prog o a w K Q else E0 := by
  rw [if_pos hw]
  exact wp_append_one w s x ho lo hi g n c q xs v A hA hs hx hq hown hlo hn h
theorem sdA_succ (k : Nat) (x : List Int) : sdA (k + 1) x = nth x (tri k) :: sdA k x := by
  refine list_ext_nth (by simp [sdA_len]) fun j hj => ?_
  rw [sdA_len] at hj
  rw [sdA_nth hj]
  cases j with
  | zero => rw [nth_cons0, show k + 1 - 1 - 0 = k by omega]
  | succ j => rw [nth_consS, sdA_nth (by omega), show k + 1 - 1 - (j + 1) = k - 1 - j by omega]
theorem sdB_succ (k : Nat) (x : List Int) : sdB (k + 1) x = sdB k x ++ [nth x (tri k + k)] := by simp [sdB, List.range_succ]
def scN (T : Nat) (x : List Int) (k : Nat) : List Int := (List.range k).map fun j => nth x (T + j)
theorem scN_succ (T : Nat) (x : List Int) (k : Nat) : scN T x (k + 1) = scN T x k ++ [nth x (T + k)] := by simp [scN, List.range_succ]
theorem scN_all (m : Nat) (x : List Int) : scN (tri (m - 1)) x m = sdC m x := rfl
set_option maxRecDepth 100000 in
set_option maxHeartbeats 4000000 in
theorem l5Sides_any (m : Nat) (A1 A2 A3 : Option Addr) (n1 c1 n2 c2 n3 c3 : Nat) (x1 x2 x3 : List Int) (w : World) (h : PS w A1 A2 A3 n1 n2 n3 x1 x2 x3) (hm : 1 ≤ m ∧ m ≤ 7) (hl : n1 = tri m ∧ n2 = tri m ∧ n3 = tri m) :
    Calls Try.prog 87 #[.agg #[.int .i64 m, .slice A1 n1 c1, .slice A2 n2 c2, .slice A3 n3 c3]] w fun e w' =>
      ∃ ga ca gb cb gc cc, e = .returned (.tuple #[.slice (some ⟨ga, 0, none⟩) m ca, .slice (some ⟨gb, 0, none⟩) m cb, .slice (some ⟨gc, 0, none⟩) m cc]) ∧ (w.heap.size ≤ ga ∧ w.heap.size ≤ gb ∧ w.heap.size ≤ gc ∧ ga ≠ gb ∧ ga ≠ gc ∧ gb ≠ gc) ∧
        Own w' ga (ga + 1) (some ⟨ga, 0, none⟩) m ca (sdA m x1) ∧ Own w' gb (gb + 1) (some ⟨gb, 0, none⟩) m cb (sdB m x2) ∧ Own w' gc (gc + 1) (some ⟨gc, 0, none⟩) m cc (sdC m x3) ∧ Below w.heap.size w w' := by
  obtain ⟨w1, hw1⟩ : ∃ w1, w1 = w.alloc (.cells #[.int .i64 m, .slice A1 n1 c1, .slice A2 n2 c2, .slice A3 n3 c3] 47) := ⟨_, rfl⟩
  obtain ⟨g, hg⟩ : ∃ g, g = w.heap.size := ⟨_, rfl⟩
  have hk : Blk w1 g 47 #[.int .i64 m, .slice A1 n1 c1, .slice A2 n2 c2, .slice A3 n3 c3] := by rw [hw1, hg]; exact Blk.new _ _ _
  have hb : Below w.heap.size w w1 := by rw [hw1]; exact Below.alloc_self _ _
  have HB1 := Lib.hid hb
  have HW := Lib.hid hw1
  have HG := Lib.hid hg
  have HGL : Hid (g < w1.heap.size) := Lib.hid hk.lt
  have HK := Lib.hid hk
  have HS := Lib.hid (h.below hb (Nat.le_refl _))
  have HL := Lib.hid hl
  obtain ⟨hm1, hm7⟩ := hm
  clear hk hb hw1 hg h hl
  have e1 := Own.empty w1
  have e2 := Own.empty (w1.alloc (.cells #[] 3))
  have e3 := Own.empty ((w1.alloc (.cells #[] 3)).alloc (.cells #[] 3))
  have s1 : (w1.alloc (.cells #[] 3)).heap.size = w1.heap.size + 1 := by simp
  have s2 : ((w1.alloc (.cells #[] 3)).alloc (.cells #[] 3)).heap.size = w1.heap.size + 2 := by simp
  rw [s1] at e2
  rw [s2] at e3
  obtain ⟨w4, hw4⟩ : ∃ w4, w4 = ((w1.alloc (.cells #[] 3)).alloc (.cells #[] 3)).alloc (.cells #[] 3) := ⟨_, rfl⟩
  have E1 : Hid (Own w4 w1.heap.size (w1.heap.size + 1) (some ⟨w1.heap.size, 0, none⟩) 0 0 []) := Lib.hid (by
    rw [hw4]; exact (e1.below (Below.alloc_self _ _) (by omega)).below (Below.alloc_self _ _) (by omega))
  have E2 : Hid (Own w4 (w1.heap.size + 1) (w1.heap.size + 1 + 1) (some ⟨w1.heap.size + 1, 0, none⟩) 0 0 []) := Lib.hid (by
    rw [hw4]; exact e2.below (Below.alloc_self _ _) (by omega))
  have E3 : Hid (Own w4 (w1.heap.size + 2) (w1.heap.size + 2 + 1) (some ⟨w1.heap.size + 2, 0, none⟩) 0 0 []) := Lib.hid (by rw [hw4]; exact e3)
  have HB4 : Hid (Below w1.heap.size w1 w4) := Lib.hid (by rw [hw4]; exact ((Below.alloc_self _ _).alloc (by omega) _).alloc (by omega) _)
  have HW4 := Lib.hid hw4
  clear e1 e2 e3 s1 s2 hw4
  obtain ⟨q0, q1, q2, q3⟩ := cells4 (HK.out.below HB4.out HGL.out)
  go_enter Try.func87, Try.ntmps87
  go_upto_region 1 with fail
  rw [← HW.out, ← HG.out]
  go_upto_region 4 with fail
  simp only [World.size_alloc, Nat.add_assoc, Nat.reduceAdd]
  rw [← HW4.out]
  go_wp2_with fail
  clear q0 q1 q2 q3
  go_loopw [5, 6, 7, 8] (fun av bv cv iv wr => ∃ (k ga ca gb cb gc cc : Nat) (Aa Ab Ac : Option Addr), k ≤ m ∧ iv = .int .i64 k ∧ av = .slice Aa k ca ∧ bv = .slice Ab k cb ∧ cv = .slice Ac k cc ∧ (Aa = some ⟨ga, 0, none⟩ ∧ Ab = some ⟨gb, 0, none⟩ ∧ Ac = some ⟨gc, 0, none⟩) ∧
      (w1.heap.size ≤ ga ∧ w1.heap.size ≤ gb ∧ w1.heap.size ≤ gc ∧ ga ≠ gb ∧ ga ≠ gc ∧ gb ≠ gc) ∧ Own wr ga (ga + 1) (some ⟨ga, 0, none⟩) k ca (sdA k x1) ∧ Own wr gb (gb + 1) (some ⟨gb, 0, none⟩) k cb (sdB k x2) ∧ Own wr gc (gc + 1) (some ⟨gc, 0, none⟩) k cc (scN (tri (m - 1)) x3 k) ∧ Below w1.heap.size w1 wr)
    (fun _ _ _ iv _ => m - (intOf iv).toNat)
  case atStart => exact ⟨0, _, _, _, _, _, _, _, _, _, Nat.zero_le _, rfl, rfl, rfl, rfl, ⟨rfl, rfl, rfl⟩, by omega, E1.out, E2.out, E3.out, HB4.out⟩
  case round =>
    obtain ⟨k, ga, ca, gb, cb, gc, cc, Aa, Ab, Ac, hkm, rfl, rfl, rfl, rfl, haa, hgs, hoa, hob, hoc, hbw⟩ := hrel
    clear E1 E2 E3 HB4
    have HAA := Lib.hid haa
    have HGS := Lib.hid hgs
    have HOA := Lib.hid hoa
    have HOB := Lib.hid hob
    have HOC := Lib.hid hoc
    have HBW := Lib.hid hbw
    have HKR := Lib.hid (HK.out.below hbw HGL.out)
    have HSR := Lib.hid (HS.out.below hbw (Nat.le_refl _))
    clear haa hgs hoa hob hoc hbw
    obtain ⟨q0, q1, q2, q3⟩ := cells4 HKR.out
    by_cases hlt : k < m
    case neg =>
      obtain rfl : k = m := by omega
      obtain ⟨rfl, rfl, rfl⟩ := HAA.out
      clear q1 q2 q3
      go_wp2
      go_returns
      have h1 := HGS.out
      have h2 := HB1.out.size
      refine ⟨ga, ca, gb, cb, gc, cc, rfl, by omega, HOA.out, HOB.out, ?_, HB1.out.trans (HBW.out.mono h2)⟩
      rw [← scN_all]; exact HOC.out
    case pos =>
      have hkI : (k : Int) < (m : Int) := by omega
      have hmI : IntKind.i64.wrap ((m : Int) - 1) = (m : Int) - 1 := IntWalk.i64_in _ (by omega)
      have hpos : tri k + k < tri m := tri_lt hlt (Nat.le_refl _)
      have hpos2 : tri (m - 1) + k < tri m := by have := tri_lt (a := m - 1) (b := m) (k := k) (by omega) (by omega); exact this
      obtain ⟨b1, o1, rfl, hb1, hcx⟩ := HS.out.1.at_ (by have := HL.out.1; omega)
      obtain ⟨b2, o2, rfl, hb2, hcy⟩ := HS.out.2.1.at_ (by have := HL.out.2.1; omega)
      obtain ⟨b3, o3, rfl, hb3, hcz⟩ := HS.out.2.2.at_ (by have := HL.out.2.2; omega)
      obtain ⟨ta, hta⟩ : ∃ ta, ta = tri k := ⟨_, rfl⟩
      obtain ⟨tb, htb⟩ : ∃ tb, tb = tri k + k := ⟨_, rfl⟩
      obtain ⟨tc, htc⟩ : ∃ tc, tc = tri (m - 1) + k := ⟨_, rfl⟩
      have hla : ta < n1 := by have := HL.out.1; omega
      have hlb : tb < n2 := by have := HL.out.2.1; omega
      have hlc : tc < n3 := by have := HL.out.2.2; omega
      have hcx1 := hcx ta hla
      have hcy1 := hcy tb hlb
      have hcz1 := hcz tc hlc
      have HP1 := Lib.hid (fun w' => l5Place_at (i := (k : Int)) (j := 0) k 0 ta rfl rfl (by omega) w' (by omega) (by omega))
      have HP2 := Lib.hid (fun w' => l5Place_at (i := (k : Int)) (j := (k : Int)) k k tb rfl rfl htb w' (by omega) (by omega))
      have HP3 := Lib.hid (fun w' => l5Place_at (i := (m : Int) - 1) (j := (k : Int)) (m - 1) k tc (by omega) rfl htc w' (by omega) (by omega))
      have HSA : Hid (sdA (k + 1) x1 = nth x1 ta :: sdA k x1) := Lib.hid (by rw [sdA_succ, hta])
      have HSB : Hid (sdB (k + 1) x2 = sdB k x2 ++ [nth x2 tb]) := Lib.hid (by rw [sdB_succ, htb])
      have HSC : Hid (scN (tri (m - 1)) x3 (k + 1) = scN (tri (m - 1)) x3 k ++ [nth x3 tc]) := Lib.hid (by rw [scN_succ, htc])
      obtain ⟨x, hx⟩ : ∃ x, x = nth x1 ta := ⟨_, rfl⟩
      obtain ⟨y, hy⟩ : ∃ y, y = nth x2 tb := ⟨_, rfl⟩
      obtain ⟨z, hz⟩ : ∃ z, z = nth x3 tc := ⟨_, rfl⟩
      rw [← hx] at HSA hcx1
      rw [← hy] at HSB hcy1
      rw [← hz] at HSC hcz1
      have HF : Hid (∀ v : World, Below w1.heap.size w1 v → (v.cell? ⟨g, 0, none⟩ = some (.int .i64 m) ∧ v.cell? ⟨g, 1, none⟩ = some (.slice (some ⟨b1, o1, none⟩) n1 c1) ∧ v.cell? ⟨g, 2, none⟩ = some (.slice (some ⟨b2, o2, none⟩) n2 c2) ∧ v.cell? ⟨g, 3, none⟩ = some (.slice (some ⟨b3, o3, none⟩) n3 c3)) ∧
          v.cell? ⟨b1, o1 + ta, none⟩ = some (.int .i64 x) ∧ v.cell? ⟨b2, o2 + tb, none⟩ = some (.int .i64 y) ∧ v.cell? ⟨b3, o3 + tc, none⟩ = some (.int .i64 z)) := Lib.hid (fun v hv =>
        ⟨cells4 (HK.out.below hv HGL.out), (hv.cell (p := ⟨b1, o1 + ta, none⟩) hb1).trans hcx1, (hv.cell (p := ⟨b2, o2 + tb, none⟩) hb2).trans hcy1, (hv.cell (p := ⟨b3, o3 + tc, none⟩) hb3).trans hcz1⟩)
      have htaI : (ta : Int) < (n1 : Int) := by omega
      have htbI : (tb : Int) < (n2 : Int) := by omega
      have htcI : (tc : Int) < (n3 : Int) := by omega
      have HGB : Hid (ga < wr.heap.size ∧ gb < wr.heap.size ∧ gc < wr.heap.size) := Lib.hid ⟨(HOA.out.1.lt ga rfl).2, (HOB.out.1.lt gb rfl).2, (HOC.out.1.lt gc rfl).2⟩
      clear hcx hcy hcz hcx1 hcy1 hcz1 hx hy hz hpos hpos2 hta htb htc hla hlb hlc hb1 hb2 hb3 q2 q3
      have r1 := (HF.out wr HBW.out).2.1
      have bl : Below wr.heap.size wr (wr.drew.alloc (.cells #[.int .i64 x] 3)) := ((Below.refl _ _).drew).alloc (Nat.le_refl _) _
      have HBL := Lib.hid bl
      have HO1 : Hid (Own (wr.drew.alloc (.cells #[.int .i64 x] 3)) wr.heap.size (wr.drew.alloc (.cells #[.int .i64 x] 3)).heap.size (some ⟨wr.heap.size, 0, none⟩) 1 1 [x]) := Lib.hid (Own.litOne (w := wr.drew) (Nat.le_refl _))
      have HS1 : Hid (SI (wr.drew.alloc (.cells #[.int .i64 x] 3)) Aa k (sdA k x1)) := Lib.hid (by rw [HAA.out.1]; exact HOA.out.si.below bl (Nat.le_refl _))
      have HMO : Hid (w1.heap.size ≤ wr.heap.size) := Lib.hid HBW.out.size
      clear bl
      go_wp2_with fail
      go_region_held3 (fun w' => w'.cell? ⟨g, 1, none⟩ = some (.slice (some ⟨b1, o1, none⟩) n1 c1) ∧ w'.cell? ⟨b1, o1 + ta, none⟩ = some (.int .i64 x))
        (first | go_keep | exact ⟨q1, r1⟩ | exact K5)
        (first
          | (go_at_call 118; with_reducible refine (HP1.out _).mono ?_; rintro e w3 ⟨rfl, rfl⟩)
          | (refine step_append_any _ (by first | rfl | kernel_rfl | simp [Region.wanted, yielded]) (.tmp 24) (.tmp 25) (by rfl) wr.heap.size (some ⟨wr.heap.size, 0, none⟩) 1 1 [x] Aa k ca (sdA k x1) (by rfl) (by rfl) HO1.out HS1.out HBL.out.size (by omega) (by omega) ?_
             intro A5 c5 w5 ho5 hg5 hb5
             have HO5 := Lib.hid ho5
             have HB5 := Lib.hid (HBL.out.trans hb5)
             have HW5 : Hid (Below w1.heap.size w1 w5) := Lib.hid (HBW.out.trans ((HBL.out.trans hb5).mono HMO.out))
             have K5 : w5.cell? ⟨g, 1, none⟩ = some (.slice (some ⟨b1, o1, none⟩) n1 c1) ∧ w5.cell? ⟨b1, o1 + ta, none⟩ = some (.int .i64 x) := ⟨(HF.out w5 HW5.out).1.2.1, (HF.out w5 HW5.out).2.1⟩
             clear ho5 hg5 hb5))
      obtain ⟨ga2, rfl, hga1, hga2⟩ := HO5.out.place (by omega)
      have HOA2 : Hid (Own w5 ga2 (ga2 + 1) (some ⟨ga2, 0, none⟩) (k + 1) c5 (sdA (k + 1) x1)) := Lib.hid (by
        have := HO5.out.exact
        rw [Nat.add_comm 1 k] at this
        rw [HSA.out]; exact this)
      have HOB2 := Lib.hid (HOB.out.below HB5.out (by have := HGB.out; omega))
      have HOC2 := Lib.hid (HOC.out.below HB5.out (by have := HGB.out; omega))
      have HG2 := Lib.hid (And.intro hga1 hga2)
      rw [Nat.add_comm 1 k]
      clear K5 q0 q1 r1 hga1 hga2 HO5
      obtain ⟨⟨p0, p1, p2, p3⟩, px, py, pz⟩ := HF.out w5 HW5.out
      have bl5 : Below w5.heap.size w5 (w5.drew.alloc (.cells #[.int .i64 y] 3)) := ((Below.refl _ _).drew).alloc (Nat.le_refl _) _
      have HS5 : Hid (wr.heap.size ≤ w5.heap.size) := Lib.hid HB5.out.size
      have HO8 : Hid (Own (w5.drew.alloc (.cells #[.int .i64 y] 3)) gb (gb + 1) (some ⟨gb, 0, none⟩) k cb (sdB k x2)) := Lib.hid (HOB2.out.below bl5 (by have := HGB.out; have := HS5.out; omega))
      have HOA8 : Hid (Own (w5.drew.alloc (.cells #[.int .i64 y] 3)) ga2 (ga2 + 1) (some ⟨ga2, 0, none⟩) (k + 1) c5 (sdA (k + 1) x1)) := Lib.hid (HOA2.out.below bl5 (by have := HG2.out; omega))
      have HOC8 : Hid (Own (w5.drew.alloc (.cells #[.int .i64 y] 3)) gc (gc + 1) (some ⟨gc, 0, none⟩) k cc (scN (tri (m - 1)) x3 k)) := Lib.hid (HOC2.out.below bl5 (by have := HGB.out; have := HS5.out; omega))
      have HQ8 : Hid ((w5.drew.alloc (.cells #[.int .i64 y] 3)).cell? ⟨w5.heap.size, 0, none⟩ = some (.int .i64 y)) := Lib.hid ((Blk.new w5.drew 3 #[.int .i64 y]).cell 0)
      have HW8 : Hid (Below w1.heap.size w1 (w5.drew.alloc (.cells #[.int .i64 y] 3))) := Lib.hid (HW5.out.trans (bl5.mono HW5.out.size))
      have HZ8 : Hid ((w5.drew.alloc (.cells #[.int .i64 y] 3)).heap.size = w5.heap.size + 1) := Lib.hid (drew_size _ _)
      have HLO8 : Hid (gb ≤ (w5.drew.alloc (.cells #[.int .i64 y] 3)).heap.size) := Lib.hid (by have := HZ8.out; have := HGB.out; have := HS5.out; omega)
      clear p0 p1 p3 px pz bl5
      go_wp2_with fail
      go_region_held3 (fun w' => w'.cell? ⟨g, 2, none⟩ = some (.slice (some ⟨b2, o2, none⟩) n2 c2) ∧ w'.cell? ⟨b2, o2 + tb, none⟩ = some (.int .i64 y))
        (first | go_keep | exact ⟨p2, py⟩ | exact K7)
        (first
          | (go_at_call 118; with_reducible refine (HP2.out _).mono ?_; rintro e w3 ⟨rfl, rfl⟩)
          | (show (if Region.wanted { dst := some 36, op := _, type := _, pos := _, after := _, guard := _ } _ = true then _ else _)
             refine step_append_one _ (by first | rfl | kernel_rfl | simp [Region.wanted, yielded]) (.tmp 27) (.tmp 35) (by rfl) gb (gb + 1) gb k cb w5.heap.size (sdB k x2) y Ab HAA.out.2.1 (by rfl) (by rfl) HQ8.out HO8.out HLO8.out (by omega) ?_
             intro gb2 c7 w7 ho7 hg7 hat7
             have HO7 := Lib.hid ho7
             have HG7 : Hid ((w5.drew.alloc (.cells #[.int .i64 y] 3)).grownBy w7 (some gb)) := Lib.hid hg7
             have HA7 : Hid (gb2 = gb ∨ gb2 = (w5.drew.alloc (.cells #[.int .i64 y] 3)).heap.size) := Lib.hid hat7
             have HW7 : Hid (Below w1.heap.size w1 w7) := Lib.hid (HW8.out.grown hg7 HW8.out.size (by rintro q ⟨⟩; exact HGS.out.2.1))
             have K7 : w7.cell? ⟨g, 2, none⟩ = some (.slice (some ⟨b2, o2, none⟩) n2 c2) ∧ w7.cell? ⟨b2, o2 + tb, none⟩ = some (.int .i64 y) := ⟨(HF.out w7 HW7.out).1.2.2.1, (HF.out w7 HW7.out).2.2.1⟩
             clear ho7 hg7 hat7))
      have HOB3 : Hid (Own w7 gb2 (gb2 + 1) (some ⟨gb2, 0, none⟩) (k + 1) c7 (sdB (k + 1) x2)) := Lib.hid (by rw [HSB.out]; exact HO7.out.exact)
      have HOA3 : Hid (Own w7 ga2 (ga2 + 1) (some ⟨ga2, 0, none⟩) (k + 1) c5 (sdA (k + 1) x1)) := Lib.hid (HOA8.out.kept HG7.out (fun q hq e => by simp [Value.ownBlock] at hq; injection e with e; have := HG2.out; have := HGB.out; omega))
      have HOC3 : Hid (Own w7 gc (gc + 1) (some ⟨gc, 0, none⟩) k cc (scN (tri (m - 1)) x3 k)) := Lib.hid (HOC8.out.kept HG7.out (fun q hq e => by simp [Value.ownBlock] at hq; injection e with e; have := HGS.out; omega))
      have HS7 : Hid (w5.heap.size + 1 ≤ w7.heap.size) := Lib.hid (by have := HG7.out.size; have := HZ8.out; omega)
      have HB7 : Hid ((gb2 = gb ∨ gb2 = w5.heap.size + 1) ∧ gb2 < w7.heap.size) := Lib.hid ⟨by have := HA7.out; have := HZ8.out; omega, (HO7.out.1.lt gb2 rfl).2⟩
      obtain ⟨⟨t0, t1, t2, t3⟩, tx, ty, tz⟩ := HF.out w7 HW7.out
      have bl7 : Below w7.heap.size w7 (w7.drew.alloc (.cells #[.int .i64 z] 3)) := ((Below.refl _ _).drew).alloc (Nat.le_refl _) _
      have HOB9 : Hid (Own (w7.drew.alloc (.cells #[.int .i64 z] 3)) gb2 (gb2 + 1) (some ⟨gb2, 0, none⟩) (k + 1) c7 (sdB (k + 1) x2)) := Lib.hid (HOB3.out.below bl7 (by have := HB7.out; omega))
      have HOA9 : Hid (Own (w7.drew.alloc (.cells #[.int .i64 z] 3)) ga2 (ga2 + 1) (some ⟨ga2, 0, none⟩) (k + 1) c5 (sdA (k + 1) x1)) := Lib.hid (HOA3.out.below bl7 (by have := HG2.out; have := HS7.out; omega))
      have HO9 : Hid (Own (w7.drew.alloc (.cells #[.int .i64 z] 3)) gc (gc + 1) (some ⟨gc, 0, none⟩) k cc (scN (tri (m - 1)) x3 k)) := Lib.hid (HOC3.out.below bl7 (by have := HGB.out; have := HS5.out; have := HS7.out; omega))
      have HQ9 : Hid ((w7.drew.alloc (.cells #[.int .i64 z] 3)).cell? ⟨w7.heap.size, 0, none⟩ = some (.int .i64 z)) := Lib.hid ((Blk.new w7.drew 3 #[.int .i64 z]).cell 0)
      have HW9 : Hid (Below w1.heap.size w1 (w7.drew.alloc (.cells #[.int .i64 z] 3))) := Lib.hid (HW7.out.trans (bl7.mono HW7.out.size))
      have HZ9 : Hid ((w7.drew.alloc (.cells #[.int .i64 z] 3)).heap.size = w7.heap.size + 1) := Lib.hid (drew_size _ _)
      have HLO9 : Hid (gc ≤ (w7.drew.alloc (.cells #[.int .i64 z] 3)).heap.size) := Lib.hid (by have := HZ9.out; have := HGB.out; have := HS5.out; have := HS7.out; omega)
      clear t1 t2 tx ty bl7 K7 p2 py
      go_wp2_with fail
      go_region_held3 (fun w' => (w'.cell? ⟨g, 3, none⟩ = some (.slice (some ⟨b3, o3, none⟩) n3 c3) ∧ w'.cell? ⟨g, 0, none⟩ = some (.int .i64 m)) ∧ w'.cell? ⟨b3, o3 + tc, none⟩ = some (.int .i64 z))
        (first | go_keep | exact ⟨⟨t3, t0⟩, tz⟩ | exact K9)
        (first
          | (go_at_call 118; with_reducible refine (HP3.out _).mono ?_; rintro e w3 ⟨rfl, rfl⟩)
          | (show (if Region.wanted { dst := some 48, op := _, type := _, pos := _, after := _, guard := _ } _ = true then _ else _)
             refine step_append_one _ (by first | rfl | kernel_rfl | simp [Region.wanted, yielded]) (.tmp 37) (.tmp 47) (by rfl) gc (gc + 1) gc k cc w7.heap.size (scN (tri (m - 1)) x3 k) z Ac HAA.out.2.2 (by rfl) (by rfl) HQ9.out HO9.out HLO9.out (by omega) ?_
             intro gc2 c9 w9 ho9 hg9 hat9
             have HO9b := Lib.hid ho9
             have HG9 : Hid ((w7.drew.alloc (.cells #[.int .i64 z] 3)).grownBy w9 (some gc)) := Lib.hid hg9
             have HA9 : Hid (gc2 = gc ∨ gc2 = (w7.drew.alloc (.cells #[.int .i64 z] 3)).heap.size) := Lib.hid hat9
             have HX9 : Hid (Below w1.heap.size w1 w9) := Lib.hid (HW9.out.grown hg9 HW9.out.size (by rintro q ⟨⟩; exact HGS.out.2.2.1))
             have K9 : (w9.cell? ⟨g, 3, none⟩ = some (.slice (some ⟨b3, o3, none⟩) n3 c3) ∧ w9.cell? ⟨g, 0, none⟩ = some (.int .i64 m)) ∧ w9.cell? ⟨b3, o3 + tc, none⟩ = some (.int .i64 z) := ⟨⟨(HF.out w9 HX9.out).1.2.2.2, (HF.out w9 HX9.out).1.1⟩, (HF.out w9 HX9.out).2.2.2⟩
             clear ho9 hg9 hat9))
      have HOC4 : Hid (Own w9 gc2 (gc2 + 1) (some ⟨gc2, 0, none⟩) (k + 1) c9 (scN (tri (m - 1)) x3 (k + 1))) := Lib.hid (by rw [HSC.out]; exact HO9b.out.exact)
      have HOA4 : Hid (Own w9 ga2 (ga2 + 1) (some ⟨ga2, 0, none⟩) (k + 1) c5 (sdA (k + 1) x1)) := Lib.hid (HOA9.out.kept HG9.out (fun q hq e => by simp [Value.ownBlock] at hq; injection e with e; have := HG2.out; have := HGB.out; omega))
      have HOB4 : Hid (Own w9 gb2 (gb2 + 1) (some ⟨gb2, 0, none⟩) (k + 1) c7 (sdB (k + 1) x2)) := Lib.hid (HOB9.out.kept HG9.out (fun q hq e => by simp [Value.ownBlock] at hq; injection e with e; have := HB7.out; have := HGS.out; have := HGB.out; have := HS5.out; omega))
      clear K9 t0 t3 tz
      go_wp2
      go_roundw
      case rel => exact ⟨k + 1, ga2, c5, gb2, c7, gc2, c9, _, _, _, by omega, by go_num, rfl, rfl, rfl, ⟨rfl, rfl, rfl⟩, (by have := HGS.out; have := HG2.out; have := HGB.out; have := HB7.out; have := HA9.out; have := HZ9.out; have := HS5.out; have := HS7.out; have := HMO.out; omega), HOA4.out, HOB4.out, HOC4.out, HX9.out⟩
      case measure => simp [intOf]; omega
/-- What a call that answers three sides and a Bool hands back. -/
def FreshS3 (w w' : World) (e : Ending) (b : Bool) (y1 y2 y3 : List Int) : Prop :=
  ∃ A1 A2 A3 n1 c1 n2 c2 n3 c3, e = .returned (.tuple #[.slice A1 n1 c1, .slice A2 n2 c2, .slice A3 n3 c3, .bool b]) ∧ OwnQ w' w.heap.size w'.heap.size A1 A2 A3 n1 c1 n2 c2 n3 c3 y1 y2 y3 ∧ Below w.heap.size w w'
/-- What SidesOf answers. -/
def SidesIs (s : Int) (x1 x2 x3 : List Int) (b : Bool) (z1 z2 z3 : List Int) : Prop :=
  b = pzB true s x1 x2 x3 ∧ z1 = (if b = true then sdA s.toNat x1 else []) ∧ z2 = (if b = true then sdB s.toNat x2 else []) ∧ z3 = (if b = true then sdC s.toNat x3 else [])
theorem SidesIs.len {s : Int} {x1 x2 x3 : List Int} {b : Bool} {z1 z2 z3 : List Int} (h : SidesIs s x1 x2 x3 b z1 z2 z3) : z1.length ≤ 7 ∧ z2.length ≤ 7 ∧ z3.length ≤ 7 := by
  obtain ⟨hb, rfl, rfl, rfl⟩ := h
  cases b with
  | false => simp
  | true =>
    obtain ⟨m, rfl, hm, _⟩ := pz_lens hb.symm
    simp only [if_true, Int.toNat_natCast, sdA_len, sdB_len, sdC_len]
    omega
set_option maxRecDepth 100000 in
set_option maxHeartbeats 2000000 in
theorem specSides_z (s : Int) (A1 A2 A3 : Option Addr) (n1 c1 n2 c2 n3 c3 : Nat) (x1 x2 x3 : List Int) (w : World) (h : PS w A1 A2 A3 n1 n2 n3 x1 x2 x3) (hc3 : n3 ≤ c3) (hn : n1 ≤ 1099511627776 ∧ n2 ≤ 1099511627776 ∧ n3 ≤ 1099511627776)
    (b : Bool) (z1 z2 z3 : List Int) (hz : SidesIs s x1 x2 x3 b z1 z2 z3) :
    Calls Try.prog 40 #[.agg #[.int .i64 s, .slice A1 n1 c1, .slice A2 n2 c2, .slice A3 n3 c3]] w fun e w' => FreshS3 w w' e b z1 z2 z3 := by
  obtain ⟨w1, hw1⟩ : ∃ w1, w1 = w.alloc (.cells #[.int .i64 s, .slice A1 n1 c1, .slice A2 n2 c2, .slice A3 n3 c3] 47) := ⟨_, rfl⟩
  obtain ⟨g, hg⟩ : ∃ g, g = w.heap.size := ⟨_, rfl⟩
  have hk : Blk w1 g 47 #[.int .i64 s, .slice A1 n1 c1, .slice A2 n2 c2, .slice A3 n3 c3] := by rw [hw1, hg]; exact Blk.new _ _ _
  have hb : Below w.heap.size w w1 := by rw [hw1]; exact Below.alloc_self _ _
  have HB1 := Lib.hid hb
  have HW := Lib.hid hw1
  have HG := Lib.hid hg
  have HK := Lib.hid hk
  have hs := h.below hb (Nat.le_refl _)
  have HS := Lib.hid hs
  have HOKC := Lib.hid (specWeightedOk_any s A1 A2 A3 n1 c1 n2 c2 n3 c3 x1 x2 x3 w1 hs hc3 hn)
  obtain ⟨q0, q1, q2, q3⟩ := cells4 hk
  obtain ⟨hbb, hz1, hz2, hz3⟩ := hz
  rw [← hbb] at HOKC
  have HBB := Lib.hid hbb
  clear hk hb hw1 hg h hs hbb
  cases b with
  | false =>
    have e1 : z1 = [] := by simpa using hz1
    have e2 : z2 = [] := by simpa using hz2
    have e3 : z3 = [] := by simpa using hz3
    subst e1 e2 e3
    clear hz1 hz2 hz3
    go_enter Try.func40, Try.ntmps40
    go_upto_region 1 with fail
    rw [← HW.out, ← HG.out]
    go_wp2_with (go_at_call 86; refine HOKC.out.mono ?_; rintro e w2 ⟨rfl, hb2⟩; have HB2 : Hid (Below w.heap.size w w2) := Lib.hid (HB1.out.trans (hb2.mono HB1.out.size)); clear hb2)
    go_returns
    exact ⟨none, none, none, 0, 0, 0, 0, 0, 0, rfl, OwnQ.nil _ HB2.out.size, HB2.out⟩
  | true =>
    obtain ⟨m, rfl, hm, hl1, hl2, hl3⟩ := pz_lens HBB.out.symm
    have e1 : z1 = sdA m x1 := by simpa using hz1
    have e2 : z2 = sdB m x2 := by simpa using hz2
    have e3 : z3 = sdC m x3 := by simpa using hz3
    subst e1 e2 e3
    have HLL := Lib.hid (And.intro (HS.out.1.1.symm.trans hl1) (And.intro (HS.out.2.1.1.symm.trans hl2) (HS.out.2.2.1.symm.trans hl3)))
    have HM := Lib.hid hm
    clear hz1 hz2 hz3 hl1 hl2 hl3 hm
    go_enter Try.func40, Try.ntmps40
    go_upto_region 1 with fail
    rw [← HW.out, ← HG.out]
    go_upto_region 3 with (first
      | (go_at_call 86; refine HOKC.out.mono ?_; rintro e w2 ⟨rfl, hb2⟩
         have HB2 : Hid (Below w1.heap.size w1 w2) := Lib.hid hb2
         clear hb2))
    clear q0 q1 q2 q3
    obtain ⟨q0, q1, q2, q3⟩ := cells4 (HK.out.below HB2.out HK.out.lt)
    have HSI := Lib.hid (l5Sides_any m A1 A2 A3 n1 c1 n2 c2 n3 c3 x1 x2 x3 w2 (HS.out.below HB2.out (Nat.le_refl _)) HM.out HLL.out)
    go_wp2_with (first
      | (go_at_call 87; refine HSI.out.mono ?_; rintro e w3 ⟨ga, ca, gb, cb, gc, cc, rfl, hgs, hoa, hob, hoc, hb3⟩
         have HGS := Lib.hid hgs
         have HOA := Lib.hid hoa
         have HOB := Lib.hid hob
         have HOC := Lib.hid hoc
         have HB3 : Hid (Below w.heap.size w w3) := Lib.hid ((HB1.out.trans (HB2.out.mono HB1.out.size)).trans (hb3.mono (HB1.out.trans (HB2.out.mono HB1.out.size)).size))
         clear hgs hoa hob hoc hb3))
    go_returns
    have l1 := (HOA.out.1.lt ga rfl).2
    have l2 := (HOB.out.1.lt gb rfl).2
    have l3 := (HOC.out.1.lt gc rfl).2
    have l4 := HGS.out
    have l5 := (HB1.out.trans (HB2.out.mono HB1.out.size)).size
    exact ⟨_, _, _, m, ca, m, cb, m, cc, rfl, ⟨ga, ga + 1, gb, gb + 1, gc, gc + 1, by omega, HOA.out, HOB.out, HOC.out⟩, HB3.out⟩
set_option maxRecDepth 100000 in
set_option maxHeartbeats 2000000 in
theorem implSides_z (s : Int) (A1 A2 A3 : Option Addr) (n1 c1 n2 c2 n3 c3 : Nat) (x1 x2 x3 : List Int) (w : World) (h : PS w A1 A2 A3 n1 n2 n3 x1 x2 x3) (hc3 : n3 ≤ c3) (hn : n1 ≤ 1099511627776 ∧ n2 ≤ 1099511627776 ∧ n3 ≤ 1099511627776)
    (b : Bool) (z1 z2 z3 : List Int) (hz : SidesIs s x1 x2 x3 b z1 z2 z3) :
    Calls Try.prog 42 #[.agg #[.int .i64 s, .slice A1 n1 c1, .slice A2 n2 c2, .slice A3 n3 c3]] w fun e w' => FreshS3 w w' e b z1 z2 z3 := by
  obtain ⟨w1, hw1⟩ : ∃ w1, w1 = w.alloc (.cells #[.int .i64 s, .slice A1 n1 c1, .slice A2 n2 c2, .slice A3 n3 c3] 47) := ⟨_, rfl⟩
  obtain ⟨g, hg⟩ : ∃ g, g = w.heap.size := ⟨_, rfl⟩
  have hk : Blk w1 g 47 #[.int .i64 s, .slice A1 n1 c1, .slice A2 n2 c2, .slice A3 n3 c3] := by rw [hw1, hg]; exact Blk.new _ _ _
  have hb : Below w.heap.size w w1 := by rw [hw1]; exact Below.alloc_self _ _
  have HB1 := Lib.hid hb
  have HW := Lib.hid hw1
  have HG := Lib.hid hg
  have HK := Lib.hid hk
  have hs := h.below hb (Nat.le_refl _)
  have HS := Lib.hid hs
  have HC3 := Lib.hid hc3
  have HOKC := Lib.hid (implWeightedOk_any s A1 A2 A3 n1 c1 n2 c2 n3 c3 x1 x2 x3 w1 hs hc3 hn)
  obtain ⟨q0, q1, q2, q3⟩ := cells4 hk
  obtain ⟨hbb, hz1, hz2, hz3⟩ := hz
  rw [← hbb] at HOKC
  have HBB := Lib.hid hbb
  clear hk hb hw1 hg h hs hbb hc3
  cases b with
  | false =>
    have e1 : z1 = [] := by simpa using hz1
    have e2 : z2 = [] := by simpa using hz2
    have e3 : z3 = [] := by simpa using hz3
    subst e1 e2 e3
    clear hz1 hz2 hz3
    go_enter Try.func42, Try.ntmps42
    go_upto_region 1 with fail
    rw [← HW.out, ← HG.out]
    go_wp2_with (go_at_call 88; refine HOKC.out.mono ?_; rintro e w2 ⟨rfl, hb2⟩; have HB2 : Hid (Below w.heap.size w w2) := Lib.hid (HB1.out.trans (hb2.mono HB1.out.size)); clear hb2)
    go_returns
    exact ⟨none, none, none, 0, 0, 0, 0, 0, 0, rfl, OwnQ.nil _ HB2.out.size, HB2.out⟩
  | true =>
    obtain ⟨m, rfl, hm, hl1, hl2, hl3⟩ := pz_lens HBB.out.symm
    have e1 : z1 = sdA m x1 := by simpa using hz1
    have e2 : z2 = sdB m x2 := by simpa using hz2
    have e3 : z3 = sdC m x3 := by simpa using hz3
    subst e1 e2 e3
    have HLL := Lib.hid (And.intro (HS.out.1.1.symm.trans hl1) (And.intro (HS.out.2.1.1.symm.trans hl2) (HS.out.2.2.1.symm.trans hl3)))
    have HM := Lib.hid hm
    clear hz1 hz2 hz3 hl1 hl2 hl3 hm
    go_enter Try.func42, Try.ntmps42
    go_upto_region 1 with fail
    rw [← HW.out, ← HG.out]
    go_upto_region 3 with (first
      | (go_at_call 88; refine HOKC.out.mono ?_; rintro e w2 ⟨rfl, hb2⟩
         have HB2 : Hid (Below w1.heap.size w1 w2) := Lib.hid hb2
         clear hb2))
    clear q0 q1 q2 q3
    obtain ⟨q0, q1, q2, q3⟩ := cells4 (HK.out.below HB2.out HK.out.lt)
    have hs2 := HS.out.below HB2.out (Nat.le_refl _)
    have HSI := Lib.hid (pzSides_any m A1 A2 A3 n1 c1 n2 c2 n3 c3 x1 x2 x3 w2 hs2.1 hs2.2.1 hs2.2.2 HM.out HLL.out HC3.out)
    clear hs2
    go_wp2_with (first
      | (go_at_call 89; refine HSI.out.mono ?_; rintro e w3 ⟨gl, gr, Ac, nc, cc, n, rfl, hne, hgl, hgr, hol, hor, ⟨lo, hlo1, hlo2, hoc⟩, hb3⟩
         have HGS := Lib.hid (And.intro hne (And.intro hgl (And.intro hgr (And.intro hlo1 hlo2))))
         have HOL := Lib.hid hol
         have HOR := Lib.hid hor
         have HOC := Lib.hid hoc
         have HB3 : Hid (Below w.heap.size w w3) := Lib.hid ((HB1.out.trans (HB2.out.mono HB1.out.size)).trans (hb3.mono (HB1.out.trans (HB2.out.mono HB1.out.size)).size))
         clear hne hgl hgr hlo1 hlo2 hol hor hoc hb3))
    go_returns
    have l1 := (HOL.out.1.lt gl rfl).2
    have l2 := (HOR.out.1.lt gr rfl).2
    have l4 := HGS.out
    have l5 := (HB1.out.trans (HB2.out.mono HB1.out.size)).size
    by_cases hle : lo ≤ w3.heap.size
    · exact ⟨_, _, _, n, n, n, n, nc, cc, rfl, ⟨gl, gl + 1, gr, gr + 1, lo, w3.heap.size, by omega, HOL.out, HOR.out, HOC.out⟩, HB3.out⟩
    · exact ⟨_, _, _, n, n, n, n, nc, cc, rfl, ⟨gl, gl + 1, gr, gr + 1, w3.heap.size, w3.heap.size, by omega, HOL.out, HOR.out, ⟨⟨HOC.out.1.1, by
        rcases HOC.out.1.2 with h | ⟨q, cap, cur, e, hb, hq, _⟩
        · exact .inl h
        · have := (Array.getElem?_eq_some_iff.1 hq).1; omega⟩, HOC.out.2⟩⟩, HB3.out⟩
end Go.Proofs.Ytdkcngilmdpbgaa
