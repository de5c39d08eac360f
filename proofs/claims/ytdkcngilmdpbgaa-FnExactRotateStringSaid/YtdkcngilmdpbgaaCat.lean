/-
  slices.Concat at two slices of numbers: a new slice. Conditions: lengths below 2^40.
-/
import Derived.Test.YtdkcngilmdpbgaaOwn
import Derived.Lib.AppendZerosOnto
namespace Go.Proofs.Ytdkcngilmdpbgaa
open Go.RowKit

set_option maxHeartbeats 800000 in
/-- slices.Grow at the nil slice. -/
theorem growNil_any (m : Nat) (w : World) (hm : m ≤ 2199023255552) :
    Calls Try.prog 114 #[.slice none 0 0, .int .i64 m] w fun e w' => Fresh w w' e [] ∧ ∃ A c, e = .returned (.slice A 0 c) := by
  cases m with
  | zero =>
    go_enter Try.func114, Try.ntmps114
    go_wp2
    go_ret
    exact ⟨⟨none, 0, 0, rfl, Own.nil _ _ _, Below.refl _ _⟩, none, 0, rfl⟩
  | succ k =>
    obtain ⟨m, hk⟩ : ∃ m, m = k + 1 := ⟨_, rfl⟩
    rw [← hk] at hm ⊢
    have hm1 : 0 < m := by omega
    clear hk
    obtain ⟨i0, hi, hz0, hz1, hz2⟩ := info_parts Try.infoInt
    have hold : (Builtin.firstCells i0.size 0 (.slice none 0 0)).run Try.prog w.drew = .ok #[] w.drew := run_firstCells_none w.drew i0.size 0 0 0
    have hrz : ∀ ty, (Builtin.append_ #[22, 3] ty #[.slice none 0 0, .int .i64 (m : Int)]).run Try.prog w =
        .ok (.slice (some ⟨w.heap.size, 0, none⟩) (0 + m) (grownCap w (0 + m) 0 3)) (w.drew.alloc (.cells (#[] ++ Builtin.zeroCells (Value.int .i64 0).cells m ++ Builtin.zeroCells (Value.int .i64 0).cells (grownCap w (0 + m) 0 3 - (0 + m))) 3)) := fun ty =>
      Lib.run_append_grow_zeros w 22 3 ty 3 i0 (.int .i64 0) .i64 .i64 Try.underlying22 Try.underlying3 hi hz0 none 0 0 [] hold m hm1 (by omega) (by omega) (by omega)
        (by rw [hz2]; omega) (growslice_fits (by omega) (by rw [hz2]; omega))
    have hGn : 0 + m ≤ grownCap w (0 + m) 0 3 := grownCap_ge w _ _ _
    have hGm := grownCap_le_maxLen w (0 + m) 0 3 (by unfold maxLen; omega)
    have hc1 : (Value.int IntKind.i64 0).cells.size = 1 := rfl
    obtain ⟨G, hG⟩ : ∃ G, G = grownCap w (0 + m) 0 3 := ⟨_, rfl⟩
    rw [← hG] at hrz hGn hGm
    have hO := World.ownsRow_made (base := w.heap.size) (e := 3) (size := 1) w.drew (#[] ++ Builtin.zeroCells (Value.int .i64 0).cells m ++ Builtin.zeroCells (Value.int .i64 0).cells (G - (0 + m))) G (Nat.le_refl _) hGm (by rw [Array.size_append, Array.size_append, size_zeroCells, size_zeroCells, hc1]; simp; omega)
    generalize (#[] ++ Builtin.zeroCells (Value.int .i64 0).cells m ++ Builtin.zeroCells (Value.int .i64 0).cells (G - (0 + m))) = cs at hrz hO
    have hb : Below w.heap.size w (w.drew.alloc (.cells cs 3)) := (Below.refl w.heap.size w).drew.alloc (Nat.le_refl _) _
    have HO := Lib.hid hO
    have HB := Lib.hid hb
    have h1 : ¬ ((m : Int) < 0) := by omega
    have h4 : (m : Int) > 0 := by omega
    have hm63 : wrap64 (m : Int) = (m : Int) := by unfold wrap64; omega
    have hG0 : (0 : Int) ≤ (G : Int) := by omega
    clear hO hb hold hG hi hz0 hz1 hz2 hGn hGm hc1
    go_enter Try.func114, Try.ntmps114
    go_wp2_with (at_builtin; refine Lib.wpList_append_run _ rfl _ _ _ _ rfl _ _ rfl rfl _ _ (hrz _) ?_)
    all_goals (go_ret; exact ⟨⟨_, 0, G, rfl, Own.of (xs := []) HO.out, HB.out⟩, _, G, rfl⟩)
/-- The first i of two lists, one behind the other. -/
def catN (xs ys : List Int) : Nat → List Int
  | 0 => []
  | 1 => xs
  | _ => xs ++ ys
set_option maxHeartbeats 1600000 in
theorem concat2_any (g cap n1 c1 n2 c2 : Nat) (A1 A2 : Option Addr) (xs ys : List Int) (w : World) (hb : Blk w g 22 #[.slice A1 n1 c1, .slice A2 n2 c2]) (hs1 : SI w A1 n1 xs) (hs2 : SI w A2 n2 ys) (hn1 : n1 ≤ 1099511627776) (hn2 : n2 ≤ 1099511627776) :
    Calls Try.prog 78 #[.slice (some ⟨g, 0, none⟩) 2 cap] w fun e w' => Fresh w w' e (xs ++ ys) := by
  have HK := Lib.hid hb
  have HS1 := Lib.hid hs1
  have HS2 := Lib.hid hs2
  have hgl := hb.lt
  have HG := Lib.hid hgl
  obtain ⟨S, hS⟩ : ∃ S, S = n1 + n2 := ⟨_, rfl⟩
  have hz0 : ¬ ((n1 : Int) < 0) := by omega
  have hz1 : ¬ ((S : Int) < 0) := by omega
  have hw1 : IntKind.i64.wrap (n1 : Int) = (n1 : Int) := IntWalk.i64_in _ (by omega)
  have hw2 : IntKind.i64.wrap ((n1 : Int) + (n2 : Int)) = (S : Int) := by rw [show (n1 : Int) + (n2 : Int) = (S : Int) by omega]; exact IntWalk.i64_in _ (by omega)
  have HGR := Lib.hid (fun w' => growNil_any S w' (by omega))
  have HSS := Lib.hid hS
  clear hb hs1 hs2 hgl hS
  go_enter Try.func78, Try.ntmps78
  go_wp2_with fail
  go_loopw [3, 11] (fun sv iv wr => ∃ i : Nat, i ≤ 2 ∧ iv = .int .i64 i ∧ ((i = 0 ∧ sv = .int .i64 0) ∨ (i = 1 ∧ sv = .int .i64 n1) ∨ (i = 2 ∧ sv = .int .i64 S)) ∧ Drawn w wr)
    (fun _ iv _ => 2 - (intOf iv).toNat)
  case atStart => exact ⟨0, by omega, rfl, .inl ⟨rfl, rfl⟩, Drawn.refl _⟩
  case round =>
    obtain ⟨i, hi, rfl, hsv, hD⟩ := hrel
    have HD := Lib.hid hD
    have HKR := Lib.hid (HK.out.drawn hD)
    clear hD
    rcases hsv with ⟨rfl, rfl⟩ | ⟨rfl, rfl⟩ | ⟨rfl, rfl⟩
    · have hc : wr.cell? ⟨g, 0, none⟩ = some (.slice A1 n1 c1) := by rw [HKR.out.cell]; rfl
      go_wp2
      go_roundw
      case rel => exact ⟨1, by omega, by go_num, .inr (.inl ⟨rfl, rfl⟩), HD.out⟩
      case measure => simp [intOf]
    · have hc : wr.cell? ⟨g, 1, none⟩ = some (.slice A2 n2 c2) := by rw [HKR.out.cell]; rfl
      go_wp2
      go_roundw
      case rel => exact ⟨2, by omega, by go_num, .inr (.inr ⟨rfl, by first | rfl | (have := HSS.out; subst this; go_num)⟩), HD.out⟩
      case measure => simp [intOf]
    · go_wp2_with (go_at_call 114; refine (HGR.out _).mono ?_
                   rintro e w2 ⟨⟨A3, n3, c3, he3, ho3, hb3⟩, A4, c4, rfl⟩
                   have HO3 : Hid (Own w2 w.heap.size w2.heap.size A4 0 c4 []) := Lib.hid (by
                     injection he3 with he3; injection he3 with e1 e2 e3; subst e1; subst e2; subst e3
                     exact ho3.wide (HD.out.below w.heap.size).size (Nat.le_refl _))
                   have HB3 : Hid (Below w.heap.size w w2) := Lib.hid ((HD.out.below _).trans (hb3.mono (HD.out.below w.heap.size).size))
                   clear he3 ho3 hb3)
      go_loopw [6, 27] (fun ov iv wx => ∃ (i : Nat) (Ao : Option Addr) (no co : Nat), i ≤ 2 ∧ iv = .int .i64 i ∧ ov = .slice Ao no co ∧ Own wx w.heap.size wx.heap.size Ao no co (catN xs ys i) ∧ Below w.heap.size w wx)
        (fun _ iv _ => 2 - (intOf iv).toNat)
      case atStart => exact ⟨0, A4, 0, c4, by omega, rfl, rfl, HO3.out, HB3.out⟩
      case round =>
        obtain ⟨i, Ao, no, co, hi, rfl, rfl, hown, hbw⟩ := hrel
        have HO := Lib.hid hown
        have HB := Lib.hid hbw
        have HKX := Lib.hid (HK.out.below hbw HG.out)
        have HNO : Hid (no = (catN xs ys i).length) := Lib.hid hown.len.symm
        have HL1 := Lib.hid HS1.out.1
        have HL2 := Lib.hid HS2.out.1
        clear hown hbw HO3 HB3
        have h3 : i = 0 ∨ i = 1 ∨ i = 2 := by omega
        rcases h3 with rfl | rfl | rfl
        · have hc : wr.cell? ⟨g, 0, none⟩ = some (.slice A1 n1 c1) := by rw [HKX.out.cell]; rfl
          have hno : no = 0 := HNO.out
          go_wp2_with (at_builtin; refine wpList_append_all rfl (.tmp 31) (.tmp 32) rfl w.heap.size Ao no co [] A1 n1 c1 xs rfl rfl HO.out (HS1.out.below HB.out (Nat.le_refl _)) HB.out.size (by omega) hn1 ?_; intro A' c' w5 ho5 _ hb5)
          go_roundw
          case rel => exact ⟨1, A', n1, c', by omega, by go_num, rfl, by rw [hno, Nat.zero_add] at ho5; exact ho5, HB.out.trans hb5⟩
          case measure => simp [intOf]
        · have hc : wr.cell? ⟨g, 1, none⟩ = some (.slice A2 n2 c2) := by rw [HKX.out.cell]; rfl
          have hno : no = n1 := by rw [HNO.out]; exact HL1.out
          go_wp2_with (at_builtin; refine wpList_append_all rfl (.tmp 31) (.tmp 32) rfl w.heap.size Ao no co xs A2 n2 c2 ys rfl rfl HO.out (HS2.out.below HB.out (Nat.le_refl _)) HB.out.size (by omega) hn2 ?_; intro A' c' w5 ho5 _ hb5)
          go_roundw
          case rel => exact ⟨2, A', n1 + n2, c', by omega, by go_num, rfl, by rw [hno] at ho5; exact ho5, HB.out.trans hb5⟩
          case measure => simp [intOf]
        · go_wp2
          go_ret
          exact ⟨Ao, no, co, rfl, HO.out, HB.out⟩
end Go.Proofs.Ytdkcngilmdpbgaa
