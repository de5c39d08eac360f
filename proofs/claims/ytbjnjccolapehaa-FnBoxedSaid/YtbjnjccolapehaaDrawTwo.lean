/-
  Two permutations drawn: contracts of l1New, dPerm. Conditions: at most 2^20 bytes.
-/
import Derived.Test.YtbjnjccolapehaaDraw
import Derived.Test.YtbjnjccolapehaaDecode
import Derived.Test.YtbjnjccolapehaaPerm5
namespace Go.Proofs.Ytbjnjccolapehaa
open Go.RowKit

theorem grown_below {w a b : World} {row : Option Nat} (h : w.grownBy a row) (hb : Below w.heap.size a b) : w.grownBy b row :=
  ⟨hb.os.trans h.os, hb.tape.trans h.tape, hb.output.trans h.output, Nat.le_trans h.size hb.size, fun k hk hne => (hb.block k hk).trans (h.block k hk hne)⟩
theorem grown_trans {w a b : World} {row : Option Nat} (h : w.grownBy a row) (h2 : a.grownBy b row) : w.grownBy b row :=
  ⟨h2.os.trans h.os, h2.tape.trans h.tape, h2.output.trans h.output, Nat.le_trans h.size h2.size, fun k hk hne => (h2.block k (Nat.lt_of_lt_of_le hk h.size) hne).trans (h.block k hk hne)⟩
/-- What a call hands back that makes a slice and draws from the cursor in block g. -/
def FreshG (g : Nat) (w w' : World) (e : Ending) (ys : List Int) : Prop :=
  ∃ A n c, e = .returned (.slice A n c) ∧ Own w' w.heap.size w'.heap.size A n c ys ∧ Cu w' g ∧ w.grownBy w' (some g)

set_option maxRecDepth 100000 in
set_option maxHeartbeats 1000000 in
theorem l1New_any (A : Option Addr) (n c : Nat) (bs : List Int) (w : World) (hs : SB w w.heap.size A n bs) (hn : n ≤ 1048576) :
    Calls Try.prog 27 #[.slice A n c] w fun e w' => e = .returned (.pointer (some ⟨w.heap.size, 0, none⟩)) ∧ Cu w' w.heap.size ∧ Below w.heap.size w w' := by
  have HS := Lib.hid hs
  clear hs
  go_enter Try.func27, Try.ntmps27
  go_wp2
  go_loop [3, 4] (fun h i => ∃ (k : Nat) (x : Int), k ≤ n ∧ i = .int .i64 k ∧ h = .int .i64 x)
    (fun _ i => n - (intOf i).toNat)
  case atStart => exact ⟨0, _, Nat.zero_le _, rfl, rfl⟩
  case round =>
    obtain ⟨k, x, hk, rfl, rfl⟩ := hrel
    have fin : ∀ h : Int, Cu (w.alloc (.cells #[.slice A n c, .int .i64 0, .int .i64 h] 54)) w.heap.size := fun h =>
      ⟨A, n, c, w.heap.size, bs, ⟨0, h, Nat.zero_le _, Blk.new w _ _⟩, HS.out.below (Below.alloc_self w _) (Nat.le_refl _), Nat.le_refl _, hn⟩
    have FIN := Lib.hid fin
    clear fin
    by_cases hlt : k < n
    · by_cases h4 : k < 4000
      · obtain ⟨b, o, rfl, hbB, hc⟩ := HS.out.2.2 (by omega)
        have hc1 := hc k hlt
        obtain ⟨hy1, hy2⟩ := HS.out.2.1 k hlt
        obtain ⟨y, hy⟩ : ∃ y, y = nth bs k := ⟨_, rfl⟩
        rw [← hy] at hc1 hy1 hy2
        clear hc hy
        go_wp2
        go_round
        case rel => exact ⟨k + 1, _, by omega, by go_num, rfl⟩
        case measure => simp [intOf]; omega
      · go_wp2
        go_ret
        exact ⟨rfl, FIN.out _, Below.alloc_self _ _⟩
    · have hkn : k = n := by omega
      subst hkn
      go_wp2
      go_ret
      exact ⟨rfl, FIN.out _, Below.alloc_self _ _⟩

theorem Own.single (w : World) (x : Int) : Own (w.alloc (.cells #[.int .i64 x] 3)) w.heap.size (w.heap.size + 1) (some ⟨w.heap.size, 0, none⟩) 1 1 [x] :=
  ⟨World.ownsRow_lit w #[.int .i64 x] 1 (Nat.le_refl _) (by unfold maxLen; omega) rfl, fun k hk => by simp [Value.ownBlock] at hk; omega⟩
theorem nth_cons_zero (x : Int) (l : List Int) : nth (x :: l) 0 = x := rfl
theorem nth_cons_succ (x : Int) (l : List Int) (k : Nat) : nth (x :: l) (k + 1) = nth l k := by simp [nth, List.getD]

theorem Own.gk {a b : World} {lo g n c : Nat} {A : Option Addr} {xs : List Int} (ho : Own a lo a.heap.size A n c xs) (hg : a.grownBy b (some g)) (h : g < lo) : Own b lo b.heap.size A n c xs :=
  (ho.grown hg (by rintro k ⟨⟩; exact .inl h)).wide (Nat.le_refl _) hg.size
theorem Own.bk {a b : World} {lo n c : Nat} {A : Option Addr} {xs : List Int} (ho : Own a lo a.heap.size A n c xs) (hb : Below a.heap.size a b) : Own b lo b.heap.size A n c xs :=
  (ho.below hb (Nat.le_refl _)).wide (Nat.le_refl _) hb.size
theorem belowG {w a b : World} {B g : Nat} (hB : Below B w a) (hg : a.grownBy b (some g)) (h : B ≤ g) (hs : B ≤ a.heap.size) : Below B w b := hB.grown hg hs (by rintro k ⟨⟩; exact h)

end Go.Proofs.Ytbjnjccolapehaa
