/-
  The cursor that draws: its bytes, numbers below a bound. Conditions: at most 2^20 bytes.
-/
import Derived.Test.YtbjnjccolapehaaOwn
namespace Go.Proofs.Ytbjnjccolapehaa
open Go.RowKit

theorem i64_and255 (n : Int) : bits .and .i64 n 255 = n % 256 := by
  have h255 : (BitVec.ofInt 64 255).toNat = 2 ^ 8 - 1 := by decide
  have key : (BitVec.ofInt 64 n &&& BitVec.ofInt 64 255).toNat = (n % ((2 ^ 64 : Nat) : Int)).toNat % 2 ^ 8 := by
    rw [BitVec.toNat_and, BitVec.toNat_ofInt, h255, Nat.and_two_pow_sub_one_eq_mod]
  show IntKind.i64.wrap ((BitVec.ofInt 64 n &&& BitVec.ofInt 64 255).toNat : Nat) = n % 256
  rw [key, IntKind.wrap_i64]
  omega

/-- The slice (A, n) reads as bytes bs, in a block below B. -/
def SB (w : World) (B : Nat) (A : Option Addr) (n : Nat) (bs : List Int) : Prop :=
  bs.length = n ∧ (∀ k, k < n → 0 ≤ nth bs k ∧ nth bs k ≤ 255) ∧ (0 < n → ∃ b o, A = some ⟨b, o, none⟩ ∧ b < B ∧ ∀ k, k < n → w.cell? ⟨b, o + k, none⟩ = some (.int .u8 (nth bs k)))
theorem SB.below {w w' : World} {B B' : Nat} {A : Option Addr} {n : Nat} {bs : List Int} (h : SB w B A n bs) (hb : Below B' w w') (hB : B ≤ B') : SB w' B A n bs :=
  ⟨h.1, h.2.1, fun hn => by
    obtain ⟨b, o, e, hl, hc⟩ := h.2.2 hn
    exact ⟨b, o, e, hl, fun k hk => (hb.cell (p := ⟨b, o + k, none⟩) (by show b < B'; omega)).trans (hc k hk)⟩⟩
/-- A cursor in block g over the bytes (A, n). -/
def Cur (w : World) (g : Nat) (A : Option Addr) (n c : Nat) : Prop :=
  ∃ (i : Nat) (h : Int), i ≤ n ∧ Blk w g 54 #[.slice A n c, .int .i64 i, .int .i64 h]

set_option maxHeartbeats 2000000 in
theorem l1Byte_any (g : Nat) (A : Option Addr) (n c B : Nat) (bs : List Int) (w : World) (hcur : Cur w g A n c) (hs : SB w B A n bs) (hB : B ≤ g) (hn : n ≤ 1048576) :
    Calls Try.prog 56 #[.pointer (some ⟨g, 0, none⟩)] w fun e w' => ∃ x : Int, 0 ≤ x ∧ x ≤ 255 ∧ e = .returned (.int .i64 x) ∧ Cur w' g A n c ∧ w.grownBy w' (some g) := by
  obtain ⟨i, h, hi, hb⟩ := hcur
  have HB := Lib.hid hb
  have c0 := hb.cell 0
  have c1 := hb.cell 1
  have c2 := hb.cell 2
  have f1 := hb.frozen 1
  have f2 := hb.frozen 2
  simp at c0 c1 c2
  clear hb
  go_enter Try.func56, Try.ntmps56
  go_wp2
  generalize wrap64 (wrap64 (h * 6364136223846793005) + 1442695040888963407) = h2
  have hb1 := HB.out.set_ 2 (.int .i64 h2)
  have HG1 : Hid (w.grownBy (w.setCell ⟨g, 2, none⟩ (.int .i64 h2)) (some g)) := Lib.hid ((Below.refl g w).setCell (p := ⟨g, 2, none⟩) (Nat.le_refl _) (.int .i64 h2) |> fun _ => ⟨rfl, rfl, rfl, by simp [World.setCell], fun k _ hk => heap_setCell_other w ⟨g, 2, none⟩ k _ (fun e => hk (by rw [e]))⟩)
  have hs1 := hs.below ((Below.refl B w).setCell (p := ⟨g, 2, none⟩) hB (.int .i64 h2)) (Nat.le_refl _)
  generalize w.setCell ⟨g, 2, none⟩ (.int .i64 h2) = w1 at *
  have hb1' : Blk w1 g 54 #[.slice A n c, .int .i64 i, .int .i64 h2] := hb1
  have HB1 := Lib.hid hb1'
  have d0 := hb1'.cell 0
  have d1 := hb1'.cell 1
  have d2 := hb1'.cell 2
  have e1 := hb1'.frozen 1
  simp at d0 d1 d2
  clear hb1 hb1' c0 c1 c2 f1 f2 hs
  go_quiet (fail)
  simp only [i64_and255]
  generalize bits BinOp.xor IntKind.i64 _ _ = z
  obtain ⟨x0, hx0⟩ : ∃ x0, x0 = z % 256 := ⟨_, rfl⟩
  have hx1 : 0 ≤ x0 := by omega
  have hx2 : x0 ≤ 255 := by omega
  rw [← hx0]
  clear hx0
  have HG2 : Hid (w.grownBy (w1.drewN nq) (some g)) := Lib.hid ⟨HG1.out.os, HG1.out.tape, HG1.out.output, HG1.out.size, HG1.out.block⟩
  have HB2 : Hid (Blk (w1.drewN nq) g 54 #[.slice A n c, .int .i64 i, .int .i64 h2]) := Lib.hid HB1.out
  have hs2 : SB (w1.drewN nq) B A n bs := hs1
  have d0' : (w1.drewN nq).cell? ⟨g, 0, none⟩ = some (.slice A n c) := d0
  have d1' : (w1.drewN nq).cell? ⟨g, 1, none⟩ = some (.int .i64 i) := d1
  have e1' : (w1.drewN nq).frozen? ⟨g, 1, none⟩ = false := e1
  clear d0 d1 d2 e1 HB1 HG1 hs1
  generalize w1.drewN nq = w2 at *
  by_cases hlt : i < n
  · obtain ⟨b, o, rfl, hbB, hc⟩ := hs2.2.2 (by omega)
    have hc1 := hc i hlt
    obtain ⟨hy1, hy2⟩ := hs2.2.1 i hlt
    obtain ⟨y, hy⟩ : ∃ y, y = nth bs i := ⟨_, rfl⟩
    rw [← hy] at hc1 hy1 hy2
    clear hc hs2 hy
    have hlI : (i : Int) < (n : Int) := by omega
    go_wp2_with fail
    go_quiet (fail)
    go_wp2_with fail
    go_quiet (fail)
    simp only [i64_and255]
    obtain ⟨x1, hx3⟩ : ∃ x1, x1 = (x0 + y) % 256 := ⟨_, rfl⟩
    have hx4 : 0 ≤ x1 := by omega
    have hx5 : x1 ≤ 255 := by omega
    rw [← hx3]
    clear hx3
    go_wp2
    go_ret
    have hb3 := HB2.out.set_ 1 (.int .i64 ((i : Int) + 1))
    refine ⟨x1, hx4, hx5, rfl, ⟨i + 1, h2, by omega, ?_⟩, ?_⟩
    · exact hb3
    · refine HG2.out.trans ⟨rfl, rfl, rfl, by simp [World.setCell], fun k _ hk => ?_⟩
      exact heap_setCell_other w2 ⟨g, 1, none⟩ k _ (fun e => hk (by rw [e]))
  · go_wp2_with fail
    go_quiet (fail)
    go_wp2
    go_ret
    exact ⟨x0, hx1, hx2, rfl, ⟨i, h2, hi, HB2.out⟩, ⟨HG2.out.os, HG2.out.tape, HG2.out.output, HG2.out.size, HG2.out.block⟩⟩

theorem SB.kept {w w' : World} {B g : Nat} {A : Option Addr} {n : Nat} {bs : List Int} {row : Option Nat} (h : SB w B A n bs) (hg : w.grownBy w' row) (hr : ∀ k, row = some k → B ≤ k) (hB : B ≤ g) (hgl : g < w.heap.size) : SB w' B A n bs :=
  h.below (grow_below (B := B) hg (by omega) hr) (Nat.le_refl _)
/-- A cursor in block g, its bytes below. -/
def Cu (w : World) (g : Nat) : Prop := ∃ A n c B bs, Cur w g A n c ∧ SB w B A n bs ∧ B ≤ g ∧ n ≤ 1048576
theorem Cu.lt {w : World} {g : Nat} (h : Cu w g) : g < w.heap.size := by
  obtain ⟨A, n, c, B, bs, ⟨i, x, _, hb⟩, _⟩ := h
  exact hb.lt
theorem Cu.grown {w w' : World} {g : Nat} {row : Option Nat} (h : Cu w g) (hg : w.grownBy w' row) (hr : ∀ k, row = some k → g < k) : Cu w' g := by
  have hl := h.lt
  obtain ⟨A, n, c, B, bs, ⟨i, x, hi, hb⟩, hs, hB, hn⟩ := h
  exact ⟨A, n, c, B, bs, ⟨i, x, hi, hb.grown hg (fun e => by have := hr g e.symm; omega)⟩, hs.kept (g := g) hg (fun k e => by have := hr k e; omega) hB hl, hB, hn⟩
theorem Cu.below {w w' : World} {g B' : Nat} (h : Cu w g) (hb : Below B' w w') (hl : g < B') : Cu w' g := by
  obtain ⟨A, n, c, B, bs, ⟨i, x, hi, hk⟩, hs, hB, hn⟩ := h
  exact ⟨A, n, c, B, bs, ⟨i, x, hi, hk.below hb hl⟩, hs.below hb (by omega), hB, hn⟩
theorem byte_any (g : Nat) (w : World) (hc : Cu w g) :
    Calls Try.prog 56 #[.pointer (some ⟨g, 0, none⟩)] w fun e w' => ∃ x : Int, 0 ≤ x ∧ x ≤ 255 ∧ e = .returned (.int .i64 x) ∧ Cu w' g ∧ w.grownBy w' (some g) := by
  have hl := hc.lt
  obtain ⟨A, n, c, B, bs, hcur, hs, hB, hn⟩ := hc
  refine (l1Byte_any g A n c B bs w hcur hs hB hn).mono ?_
  rintro e w' ⟨x, h0, h1, he, hcur', hg⟩
  exact ⟨x, h0, h1, he, ⟨A, n, c, B, bs, hcur', hs.kept (g := g) hg (by rintro k ⟨⟩; exact hB) hB hl, hB, hn⟩, hg⟩

set_option maxHeartbeats 1000000 in
/-- A number below m. -/
theorem l1Below_any (g : Nat) (m : Int) (w : World) (hc : Cu w g) (hm : m ≤ 256) :
    Calls Try.prog 44 #[.pointer (some ⟨g, 0, none⟩), .int .i64 m] w fun e w' => ∃ x : Int, 0 ≤ x ∧ (1 ≤ m → x < m) ∧ (m ≤ 0 → x = 0) ∧ e = .returned (.int .i64 x) ∧ Cu w' g ∧ w.grownBy w' (some g) := by
  by_cases h0 : m ≤ 0
  · go_enter Try.func44, Try.ntmps44
    go_wp2
    go_ret
    exact ⟨0, Int.le_refl _, fun h => absurd h (by omega), fun _ => rfl, rfl, hc, World.grownBy.refl _ _⟩
  · have HC := Lib.hid hc
    clear hc
    have h1 : 1 ≤ m := by omega
    go_enter Try.func44, Try.ntmps44
    go_wp2_with fail
    refine (byte_any g w HC.out).mono ?_
    rintro e w1 ⟨x, hx0, hx1, rfl, hc1, hg1⟩
    have HC1 := Lib.hid hc1
    have HG1 := Lib.hid hg1
    clear hc1 hg1
    go_wp2
    go_ret
    refine ⟨x % m, Int.emod_nonneg _ (by omega), fun _ => Int.emod_lt_of_pos _ (by omega), fun h => absurd h (by omega), rfl, HC1.out, HG1.out⟩

set_option maxHeartbeats 1000000 in
theorem l1Once_any (g : Nat) (m : Int) (w : World) (hc : Cu w g) (hm : m ≤ 256) :
    Calls Try.prog 45 #[.pointer (some ⟨g, 0, none⟩), .int .i64 m] w fun e w' => ∃ b : Bool, e = .returned (.bool b) ∧ Cu w' g ∧ w.grownBy w' (some g) := by
  have HC := Lib.hid hc
  clear hc
  go_enter Try.func45, Try.ntmps45
  go_wp2_with fail
  refine (l1Below_any g m w HC.out hm).mono ?_
  rintro e w1 ⟨x, hx0, -, -, rfl, hc1, hg1⟩
  have HC1 := Lib.hid hc1
  have HG1 := Lib.hid hg1
  clear hc1 hg1
  obtain ⟨b, hb⟩ : ∃ b : Bool, b = (x == 0) := ⟨_, rfl⟩
  go_wp2
  go_ret
  exact ⟨_, rfl, HC1.out, HG1.out⟩
end Go.Proofs.Ytbjnjccolapehaa
