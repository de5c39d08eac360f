/-
  The helpers of the exact laws at terms: marking, holding. Conditions: lengths below 2^40.
-/
import Derived.Test.YtjlpplghdhjdfaaTermEq
namespace Go.Proofs.Ytjlpplghdhjdfaa
open Go.RowKit

/-- What marking writes, from q on. -/
def marksT : List Tm → Int → List Tm
  | [], _ => []
  | t :: r, q => (marks t.1.length q, q + (t.1.length : Int)) :: marksT r (q + (t.1.length : Int) + 1)
/-- The number behind the last mark. -/
def endT : List Tm → Int → Int
  | [], q => q
  | t :: r, q => endT r (q + (t.1.length : Int) + 1)
theorem marksT_len : ∀ (ts : List Tm) (q : Int), (marksT ts q).length = ts.length
  | [], _ => rfl
  | t :: r, q => by simp [marksT, marksT_len r]
theorem endT_app : ∀ (ts us : List Tm) (q : Int), endT (ts ++ us) q = endT us (endT ts q)
  | [], _, _ => rfl
  | t :: r, us, q => endT_app r us _
theorem marksT_app : ∀ (ts us : List Tm) (q : Int), marksT (ts ++ us) q = marksT ts q ++ marksT us (endT ts q)
  | [], _, _ => rfl
  | t :: r, us, q => by show _ :: marksT (r ++ us) _ = _ :: (_ ++ _); rw [marksT_app r us]; rfl
def mixT (ts : List Tm) (q : Int) (k : Nat) : List Tm := marksT (ts.take k) q ++ ts.drop k
theorem mixT_zero (ts : List Tm) (q : Int) : mixT ts q 0 = ts := by simp [mixT, marksT]
theorem mixT_all (ts : List Tm) (q : Int) : mixT ts q ts.length = marksT ts q := by simp [mixT]
theorem mixT_tm {ts : List Tm} {q : Int} {k : Nat} (h : k < ts.length) : tm (mixT ts q k) k = tm ts k := by
  unfold mixT tm
  rw [List.getD_eq_getElem?_getD, List.getD_eq_getElem?_getD, List.getElem?_append_right (by rw [marksT_len]; simp; omega), marksT_len]
  simp [Nat.min_eq_left (Nat.le_of_lt h)]
theorem endT_succ {ts : List Tm} {q : Int} {k : Nat} (h : k < ts.length) : endT (ts.take (k + 1)) q = endT (ts.take k) q + ((tm ts k).1.length : Int) + 1 := by
  rw [take_tm h, endT_app]; rfl
theorem mixT_succ {ts : List Tm} {q : Int} {k : Nat} (h : k < ts.length) :
    (mixT ts q k).set k (marks (tm ts k).1.length (endT (ts.take k) q), endT (ts.take k) q + ((tm ts k).1.length : Int)) = mixT ts q (k + 1) := by
  unfold mixT
  have hl : (marksT (ts.take k) q).length = k := by rw [marksT_len]; simp; omega
  rw [List.set_append_right _ _ (by omega), hl, Nat.sub_self, List.drop_eq_getElem_cons h, List.set_cons_zero, take_tm h, marksT_app, List.append_assoc]
  rfl
theorem marksT_tm {ts : List Tm} {q : Int} {k : Nat} (h : k < ts.length) : tm (marksT ts q) k = (marks (tm ts k).1.length (endT (ts.take k) q), endT (ts.take k) q + ((tm ts k).1.length : Int)) := by
  have e : marksT ts q = marksT (ts.take k) q ++ marksT (ts.drop k) (endT (ts.take k) q) := by rw [← marksT_app, List.take_append_drop]
  rw [e]
  unfold tm
  rw [List.getD_eq_getElem?_getD, List.getElem?_append_right (by rw [marksT_len]; simp; omega), marksT_len]
  rw [List.drop_eq_getElem_cons h]
  simp [marksT, Nat.min_eq_left (Nat.le_of_lt h), List.getD, h]

end Go.Proofs.Ytjlpplghdhjdfaa
