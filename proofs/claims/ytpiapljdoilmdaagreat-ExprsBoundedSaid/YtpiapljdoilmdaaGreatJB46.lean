/- Texts joined: Slots. -/
import Derived.Test.YtpiapljdoilmdaaGreatJB37
import Derived.Test.YtpiapljdoilmdaaGreatJB10
/- SlotsFault, the reference's. -/
namespace Go.Proofs.YtpiapljdoilmdaaGreat
open Go.RowKit

/-- The error of slots, one after another, behind a name. -/
def slErr : ByteArray → List (ByteArray × Int) → Int
  | _, [] => 0
  | y, x :: r =>
    if nameB x.1.data.toList = false then 5
    else if ¬ (0 ≤ x.2 ∧ x.2 ≤ 999) then 1
    else if (Op.bytesLess x.1.toList y.toList || x.1.toList == y.toList) = true then 7
    else slErr x.1 r

set_option maxRecDepth 100000 in
set_option maxHeartbeats 2000000 in
theorem q_SlotsFault (L : List (ByteArray × Int)) (p : Option Addr) (c : Nat) (w : World) (hp : SlP w L p) (hl : L.length ≤ 4) (_hlc : L.length ≤ c) (_hcm : c ≤ maxLen) (hok : ∀ x ∈ L, SlOk x) :
    Calls Tryz.prog 10 #[.slice p L.length c] w fun e w' => e = .returned (.int .i64 (slErr ⟨#[]⟩ L)) ∧ Below w.heap.size w w' := by
  have HP := hid hp
  have HK := hid hok
  have hl' : (L.length : Int) ≤ 4 := by omega
  clear hp hok
  go_enter Tryz.func10, Tryz.ntmps10
  go_wp2_with fail
  go_loopw [3, 11] (fun v i wr => ∃ (k : Nat) (y : ByteArray), k ≤ L.length ∧ i = .int .i64 k ∧ v = .string y ∧ slErr ⟨#[]⟩ L = slErr y (L.drop k) ∧ Below w.heap.size w wr) (fun _ i _ => L.length - (intOf i).toNat)
  case atStart => exact ⟨0, _, by omega, rfl, rfl, rfl, Below.refl _ _⟩
  case round =>
    obtain ⟨k, y, hk, rfl, rfl, herr, hbl⟩ := hrel
    have HR := hid herr
    have HB := hid hbl
    have hzr : w.heap.size ≤ wr.heap.size := hbl.size
    clear herr hbl
    by_cases hlt : k < L.length
    · rcases HP.out with h0 | ⟨b, rfl, hat⟩
      · rw [h0] at hlt; simp at hlt
      have HA := hid (hat.ext (S := fun _ => False) (Ext.of_below HB.out) id)
      obtain ⟨c0, c1⟩ := HA.out k _ (List.getElem?_eq_getElem hlt)
      have HD := hid (List.drop_eq_getElem_cons hlt)
      have HKx := hid (HK.out _ (List.getElem_mem hlt))
      generalize L[k] = x at c0 c1 HD HKx
      go_wp2_with fail
      have hsz : x.1.size ≤ 9223372036854775807 := by have := HKx.out.1; omega
      have n0 : -1099511627776 ≤ x.2 ∧ x.2 ≤ 1099511627776 := HKx.out.2
      have HR2 := hid (show slErr ⟨#[]⟩ L = slErr y (x :: L.drop (k + 1)) by rw [HR.out, ← HD.out])
      clear HR
      by_cases hnm : nameB x.1.data.toList = true
      case neg =>
        have hnm' : nameB x.1.data.toList = false := by simpa using hnm
        refine (q_Name x.1 false hnm' _ hsz).mono ?_
        rintro e w2 ⟨rfl, hb2⟩
        have HB2 := hid ((HB.out.alloc hzr _).trans (hb2.mono (by simp; omega)))
        go_wp2_with fail
        go_ret
        exact ⟨ret_int (by rw [HR2.out, slErr, if_pos hnm']), HB2.out⟩
      refine (q_Name x.1 true hnm _ hsz).mono ?_
      rintro e w2 ⟨rfl, hb2⟩
      have HB2 := hid ((HB.out.alloc hzr _).trans (hb2.mono (by simp; omega)))
      have hblk := (Ext.of_below (S := fun _ => False) hb2).heap (heap_new wr (.cells #[.string x.1, .int .i64 x.2] 86)) id
      have HN := hid hnm
      clear hb2 hnm
      have d0 : w2.cell? ⟨wr.heap.size, 0, none⟩ = some (.string x.1) := by rw [cell_of_row _ _ _ _ _ _ hblk]; rfl
      have d1 : w2.cell? ⟨wr.heap.size, 1, none⟩ = some (.int .i64 x.2) := by rw [cell_of_row _ _ _ _ _ _ hblk]; rfl
      clear hblk
      by_cases h1 : decide (0 ≤ x.2 ∧ x.2 ≤ 999) = true
      case neg =>
        have h1' : decide (0 ≤ x.2 ∧ x.2 ≤ 999) = false := by simpa using h1
        go_wp2_with fail
        refine (q_in_b _ _ _ false h1' _).mono ?_
        rintro e w3 ⟨rfl, rfl⟩
        go_wp2_with fail
        go_ret
        exact ⟨ret_int (by rw [HR2.out, slErr, if_neg (by simp [HN.out]), if_pos (by simpa using h1)]), HB2.out⟩
      have H1 := hid h1
      go_wp2_with fail
      refine (q_in_b _ _ _ true h1 _).mono ?_
      rintro e w3 ⟨rfl, rfl⟩
      clear h1
      generalize hcv : (Op.bytesLess x.1.toList y.toList || x.1.toList == y.toList) = cc
      have HS : Hid (slErr ⟨#[]⟩ L = if cc = true then 7 else slErr x.1 (L.drop (k + 1))) := hid (by rw [HR2.out, slErr, if_neg (by simp [HN.out]), if_neg (by have a1 := H1.out; simp at a1; omega), hcv])
      cases cc
      · go_wp2_with fail
        go_roundw
        case rel => exact ⟨k + 1, _, by omega, by go_num, rfl, by rw [HS.out]; simp, HB2.out⟩
        case measure => simp [intOf]; omega
      · go_wp2_with fail
        go_ret
        exact ⟨ret_int (by rw [HS.out]; simp), HB2.out⟩
    · go_wp2_with fail
      go_ret
      exact ⟨ret_int (by rw [HR.out, List.drop_eq_nil_of_le (by omega)]; rfl), HB.out⟩
end Go.Proofs.YtpiapljdoilmdaaGreat
