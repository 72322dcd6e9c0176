/- Texts joined: Or. -/
import Derived.Test.YtpiapljdoilmdaaGreatJB02
/- cmp.Or at errors: the first one that is not OK. -/
namespace Go.Proofs.YtpiapljdoilmdaaGreat
open Go.RowKit

def orL : List Int → Int
  | [] => 0
  | x :: r => if x = 0 then orL r else x

set_option maxHeartbeats 400000 in
theorem or_any (b n : Nat) (xs : List Int) (w : World) (hn : n ≤ 100) (hx : xs.length = n) (hc : ∀ i, i < n → w.cell? ⟨b, i, none⟩ = some (.int .i64 (xs.getD i 0))) :
    Calls Tryz.prog 14 #[.slice (some ⟨b, 0, none⟩) n n] w fun e w' => e = .returned (.int .i64 (orL xs)) ∧ w = w' := by
  have HC := hid hc
  have HX := hid hx
  clear hc hx
  go_enter Tryz.func14, Tryz.ntmps14
  go_wp2_with fail
  go_loop [8] (fun i => ∃ k : Nat, k ≤ n ∧ i = .int .i64 k ∧ orL xs = orL (xs.drop k)) (fun i => n - (intOf i).toNat)
  case atStart => exact ⟨0, by omega, rfl, rfl⟩
  case round =>
    obtain ⟨k, hk, rfl, hr⟩ := hrel
    have HR := hid hr
    clear hr
    by_cases hlt : k < n
    · have c0 := HC.out k hlt
      have hkx : k < xs.length := by rw [HX.out]; exact hlt
      have HD : Hid (orL xs = if xs.getD k 0 = 0 then orL (xs.drop (k + 1)) else xs.getD k 0) := hid (by
        rw [HR.out, List.drop_eq_getElem_cons hkx, orL, List.getD_eq_getElem?_getD, List.getElem?_eq_getElem hkx]; rfl)
      generalize xs.getD k 0 = x at c0 HD
      by_cases hz : x = 0
      · subst hz
        go_wp2_with fail
        go_round
        case rel => exact ⟨k + 1, by omega, by go_num, by rw [HD.out]; simp⟩
        case measure => simp [intOf]; omega
      · have hz' : (x != 0) = true := by simpa using hz
        have HZ := hid hz
        clear hz
        go_wp2_with fail
        go_ret
        exact ⟨ret_int (by rw [HD.out, if_neg HZ.out]), rfl⟩
    · go_wp2_with fail
      go_ret
      exact ⟨ret_int (by rw [HR.out, List.drop_eq_nil_of_le (by rw [HX.out]; omega)]; rfl), rfl⟩
theorem or_new (xs : List Int) (n : Nat) (T : TypeId) (w : World) (hn : n ≤ 100) (hx : xs.length = n) :
    Calls Tryz.prog 14 #[.slice (some ⟨w.heap.size, 0, none⟩) n n] (w.alloc (.cells (xs.map (Value.int .i64)).toArray T)) fun e w' => e = .returned (.int .i64 (orL xs)) ∧ Below w.heap.size w w' := by
  refine (or_any w.heap.size n xs _ hn hx ?_).mono ?_
  · intro i hi
    refine cell_new_row _ _ _ _ _ ?_
    have : i < xs.length := by omega
    simp [List.getElem?_eq_getElem this, List.getD_eq_getElem?_getD]
  · rintro e w' ⟨rfl, rfl⟩
    exact ⟨rfl, (Below.refl _ _).alloc (Nat.le_refl _) _⟩
end Go.Proofs.YtpiapljdoilmdaaGreat
