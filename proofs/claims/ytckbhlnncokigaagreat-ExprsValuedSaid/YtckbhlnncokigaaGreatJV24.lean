/- Texts joined: RSpans. -/
import Derived.Test.YtckbhlnncokigaaGreatJV06
import Derived.Test.YtckbhlnncokigaaGreatJV08
/- SpansFault, the reference's. -/
namespace Go.Proofs.YtckbhlnncokigaaGreat
open Go.RowKit

set_option maxHeartbeats 400000 in
theorem r_in (n lo hi : Int) (w : World) : Calls Tryz.prog 82 #[.int .i64 n, .int .i64 lo, .int .i64 hi] w fun e w' => e = .returned (.bool (decide (lo ≤ n ∧ n ≤ hi))) ∧ w = w' := by
  by_cases h1 : lo ≤ n
  · go_enter Tryz.func82, Tryz.ntmps82
    go_wp2
    go_ret
    exact ⟨by simp [h1], rfl⟩
  · have h2 : decide (lo ≤ n) = false := by simpa using h1
    go_enter Tryz.func82, Tryz.ntmps82
    go_wp2
    go_ret
    exact ⟨by simp, rfl⟩
theorem r_in_b (n lo hi : Int) (b : Bool) (hb : decide (lo ≤ n ∧ n ≤ hi) = b) (w : World) : Calls Tryz.prog 82 #[.int .i64 n, .int .i64 lo, .int .i64 hi] w fun e w' => e = .returned (.bool b) ∧ w = w' := by subst hb; exact r_in n lo hi w

theorem bdrewN' {B : Nat} {a w : World} (h : Below B a w) (n : Nat) : Below B a (w.drewN n) := ⟨h.os, h.tape, h.output, h.size, h.block⟩

/-- The error of spans, one after another. -/
def spErr : Option ByteArray → List (ByteArray × Int × Int) → Int
  | _, [] => 0
  | p, x :: r =>
    if nameB x.1.data.toList = false then 5
    else if ¬ (0 ≤ x.2.1 ∧ x.2.1 ≤ 999) ∨ ¬ (x.2.1 ≤ x.2.2 ∧ x.2.2 ≤ 999) then 1
    else if (p.elim false fun y => Op.bytesLess x.1.toList y.toList || x.1.toList == y.toList) = true then 7
    else spErr (some x.1) r

def prevS (L : List (ByteArray × Int × Int)) : Nat → Option ByteArray
  | 0 => none
  | k + 1 => (L[k]?).map (·.1)

set_option maxRecDepth 100000 in
set_option maxHeartbeats 2000000 in
theorem r_SpansFault (L : List (ByteArray × Int × Int)) (p : Option Addr) (c : Nat) (w : World) (hp : SpP w L p) (hl : L.length ≤ 3) (_hlc : L.length ≤ c) (_hcm : c ≤ maxLen) (hok : ∀ x ∈ L, SpOk x) :
    Calls Tryz.prog 34 #[.slice p L.length c] w fun e w' => e = .returned (.int .i64 (spErr none L)) ∧ Below w.heap.size w w' := by
  have HP := hid hp
  have HK := hid hok
  clear hp hok
  go_enter Tryz.func34, Tryz.ntmps34
  go_wp2_with fail
  go_loopw [10] (fun i wr => ∃ k : Nat, k ≤ L.length ∧ i = .int .i64 k ∧ spErr none L = spErr (prevS L k) (L.drop k) ∧ Below w.heap.size w wr) (fun i _ => L.length - (intOf i).toNat)
  case atStart => exact ⟨0, by omega, rfl, rfl, Below.refl _ _⟩
  case round =>
    obtain ⟨k, hk, rfl, herr, hbl⟩ := hrel
    have HR := hid herr
    have HB := hid hbl
    have hzr : w.heap.size ≤ wr.heap.size := hbl.size
    clear herr hbl
    by_cases hlt : k < L.length
    · rcases HP.out with h0 | ⟨b, rfl, hat⟩
      · rw [h0] at hlt; simp at hlt
      have HA := hid (hat.ext (S := fun _ => False) (Ext.of_below HB.out) id)
      obtain ⟨c0, c1, c2⟩ := HA.out k _ (List.getElem?_eq_getElem hlt)
      have HD := hid (List.drop_eq_getElem_cons hlt)
      have HKx := hid (HK.out _ (List.getElem_mem hlt))
      have HX := hid (List.getElem?_eq_getElem hlt)
      generalize L[k] = x at c0 c1 c2 HD HKx HX
      go_wp2_with fail
      have hsz : x.1.size ≤ 9223372036854775807 := by have := HKx.out.1; omega
      have hS : SpOk x := HKx.out
      have n0 : -1099511627776 ≤ x.2.1 ∧ x.2.1 ≤ 1099511627776 := hS.2.1
      have n1 : -1099511627776 ≤ x.2.2 ∧ x.2.2 ≤ 1099511627776 := hS.2.2
      clear hS
      have HR2 := hid (show spErr none L = spErr (prevS L k) (x :: L.drop (k + 1)) by rw [HR.out, ← HD.out])
      clear HR
      by_cases hnm : nameB x.1.data.toList = true
      case neg =>
        have hnm' : nameB x.1.data.toList = false := by simpa using hnm
        refine (q_Name x.1 false hnm' _ hsz).mono ?_
        rintro e w2 ⟨rfl, hb2⟩
        have HB2 := hid ((HB.out.alloc hzr _).trans (hb2.mono (by simp; omega)))
        go_wp2_with fail
        go_ret
        exact ⟨ret_int (by rw [HR2.out, spErr, if_pos hnm']), HB2.out⟩
      refine (q_Name x.1 true hnm _ hsz).mono ?_
      rintro e w2 ⟨rfl, hb2⟩
      have HB2 := hid ((HB.out.alloc hzr _).trans (hb2.mono (by simp; omega)))
      have hblk := (Ext.of_below (S := fun _ => False) hb2).heap (heap_new wr (.cells #[.string x.1, .int .i64 x.2.1, .int .i64 x.2.2] 114)) id
      have HN := hid hnm
      clear hb2 hnm
      have d0 : w2.cell? ⟨wr.heap.size, 0, none⟩ = some (.string x.1) := by rw [cell_of_row _ _ _ _ _ _ hblk]; rfl
      have d1 : w2.cell? ⟨wr.heap.size, 1, none⟩ = some (.int .i64 x.2.1) := by rw [cell_of_row _ _ _ _ _ _ hblk]; rfl
      have d2 : w2.cell? ⟨wr.heap.size, 2, none⟩ = some (.int .i64 x.2.2) := by rw [cell_of_row _ _ _ _ _ _ hblk]; rfl
      clear hblk
      by_cases h1 : decide (0 ≤ x.2.1 ∧ x.2.1 ≤ 999) = true
      case neg =>
        have h1' : decide (0 ≤ x.2.1 ∧ x.2.1 ≤ 999) = false := by simpa using h1
        go_wp2_with fail
        refine (r_in_b _ _ _ false h1' _).mono ?_
        rintro e w3 ⟨rfl, rfl⟩
        go_wp2_with fail
        go_ret
        exact ⟨ret_int (by rw [HR2.out, spErr, if_neg (by simp [HN.out]), if_pos (.inl (by simpa using h1))]), HB2.out⟩
      have H1 := hid h1
      go_wp2_with fail
      refine (r_in_b _ _ _ true h1 _).mono ?_
      rintro e w3 ⟨rfl, rfl⟩
      clear h1
      go_wp2_with fail
      by_cases h2 : decide (x.2.1 ≤ x.2.2 ∧ x.2.2 ≤ 999) = true
      case neg =>
        have h2' : decide (x.2.1 ≤ x.2.2 ∧ x.2.2 ≤ 999) = false := by simpa using h2
        refine (r_in_b _ _ _ false h2' _).mono ?_
        rintro e w3 ⟨rfl, rfl⟩
        go_wp2_with fail
        go_ret
        exact ⟨ret_int (by rw [HR2.out, spErr, if_neg (by simp [HN.out]), if_pos (.inr (by simpa using h2))]), HB2.out⟩
      have H2 := hid h2
      refine (r_in_b _ _ _ true h2 _).mono ?_
      rintro e w3 ⟨rfl, rfl⟩
      clear h2
      by_cases hk0 : k = 0
      · subst hk0
        go_wp2_with fail
        go_quiet (fail)
        go_wp2_with fail
        go_roundw
        case rel =>
          exact ⟨1, by omega, by go_num, by rw [HR2.out, spErr, if_neg (by simp [HN.out]), if_neg (by have a1 := H1.out; have a2 := H2.out; simp at a1 a2; omega), if_neg (by simp [prevS])]; simp only [prevS]; rw [HX.out]; rfl, bdrewN' HB2.out _⟩
        case measure => simp [intOf]; omega
      · obtain ⟨j, rfl⟩ : ∃ j, k = j + 1 := ⟨k - 1, by omega⟩
        have hj : j < L.length := by omega
        have HA2 := hid (hat.ext (S := fun _ => False) (Ext.of_below HB2.out) id)
        have e0 := (HA2.out j _ (List.getElem?_eq_getElem hj)).1
        have hpj : Hid (prevS L (j + 1) = some L[j].1) := hid (by simp [prevS, List.getElem?_eq_getElem hj])
        generalize L[j] = y at e0 hpj
        have hjw : IntKind.i64.wrap ((j : Int) + 1 - 1) = j := by rw [show (j : Int) + 1 - 1 = j by omega]; exact IntWalk.i64_in _ (by omega)
        go_wp2_with fail
        go_quiet (fail)
        have hc : Hid ((Op.bytesLess x.1.toList y.1.toList || x.1.toList == y.1.toList) = true ∨ (Op.bytesLess x.1.toList y.1.toList || x.1.toList == y.1.toList) = false) := hid (by cases (Op.bytesLess x.1.toList y.1.toList || x.1.toList == y.1.toList) <;> simp)
        generalize hcv : (Op.bytesLess x.1.toList y.1.toList || x.1.toList == y.1.toList) = cc at hc ⊢
        have HCV := hid hcv
        clear hcv
        cases cc
        · go_wp2_with fail
          go_roundw
          case rel =>
            exact ⟨j + 1 + 1, by omega, by go_num, by rw [HR2.out, spErr, if_neg (by simp [HN.out]), if_neg (by have a1 := H1.out; have a2 := H2.out; simp at a1 a2; omega), hpj.out, Option.elim, HCV.out, if_neg (by simp)]; simp only [prevS]; rw [HX.out]; rfl, bdrewN' HB2.out _⟩
          case measure => simp [intOf]; omega
        · go_wp2_with fail
          go_ret
          exact ⟨ret_int (by rw [HR2.out, spErr, if_neg (by simp [HN.out]), if_neg (by have a1 := H1.out; have a2 := H2.out; simp at a1 a2; omega), hpj.out, Option.elim, HCV.out, if_pos rfl]), bdrewN' HB2.out _⟩
    · go_wp2_with fail
      go_ret
      exact ⟨ret_int (by rw [HR.out, List.drop_eq_nil_of_le (by omega)]; rfl), HB.out⟩
end Go.Proofs.YtckbhlnncokigaaGreat
