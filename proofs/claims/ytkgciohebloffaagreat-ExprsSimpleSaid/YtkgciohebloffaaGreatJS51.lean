/- Texts joined: Valued. -/
import Derived.Test.YtkgciohebloffaaGreatJS32
/- valued: package value computes. -/
namespace Go.Proofs.YtkgciohebloffaaGreat
open Go.RowKit

def sixSeven : F := .cons 1 6 ⟨#[]⟩ .nil (.cons 1 7 ⟨#[]⟩ .nil .nil)
theorem sixSeven_fits : (F.cons 5 0 ⟨#[]⟩ sixSeven .nil).Fits := by
  refine ⟨by omega, by omega, by decide, ⟨by omega, by omega, by decide, trivial, ⟨by omega, by omega, by decide, trivial, trivial⟩⟩, trivial⟩
theorem sixSeven_ans : valAns [] 5 0 ⟨#[]⟩ sixSeven = (42, 0) := by
  have h : errE 5 0 ⟨#[]⟩ sixSeven 1 = 0 := by rfl
  have g : slErr ⟨#[]⟩ [] = 0 := rfl
  rw [valAns, if_neg (by rw [h]; simp), if_neg (by rw [g]; simp)]
  rfl
theorem sixSeven_at {w : World} {b : Nat} {T : TypeId} (h : w.heap[b]? = some (.cells #[.int .i64 1, .int .i64 6, .string ⟨#[]⟩, .slice none 0 0, .int .i64 1, .int .i64 7, .string ⟨#[]⟩, .slice none 0 0] T (0, 0))) : RdP w sixSeven (some ⟨b, 0, none⟩) [b] := by
  refine .inr ⟨b, 0, [.int .i64 1, .int .i64 6, .string ⟨#[]⟩, .slice none 0 0, .int .i64 1, .int .i64 7, .string ⟨#[]⟩, .slice none 0 0], [], rfl, rfl, by decide, ?_, fun k => by simp [World.frozen?, h], ?_⟩
  · intro i v hv
    rw [Nat.zero_add, cell_of_row _ _ _ _ _ _ h, ← Array.getElem?_toList]
    exact hv
  · exact ⟨none, 0, [], [], _, rfl, rfl, Nat.le_refl _, by omega, ⟨none, 0, [], [], [], rfl, rfl, Nat.le_refl _, by omega, ⟨rfl, rfl⟩, .inl ⟨rfl, rfl⟩⟩, .inl ⟨rfl, rfl⟩⟩

set_option maxHeartbeats 1000000 in
theorem l_one (n : Int) (w : World) : Calls Tryz.prog 69 #[.int .i64 n] w fun e w' => e = .returned (.agg #[.int .i64 1, .int .i64 n, .string ⟨#[]⟩, .slice none 0 0]) ∧ Below w.heap.size w w' := by
  go_enter Tryz.func69, Tryz.ntmps69
  go_wp2
  go_returns
  exact ⟨rfl, alloc_below _ _⟩

set_option maxRecDepth 100000 in
set_option maxHeartbeats 2000000 in
theorem l_valued (w : World) : Calls Tryz.prog 21 #[] w fun e w' => e = .returned (.bool true) ∧ Below w.heap.size w w' := by
  go_enter Tryz.func21, Tryz.ntmps21
  go_wp2_with fail
  refine (l_one 6 _).mono ?_
  rintro e w2 ⟨rfl, hb2⟩
  have HB2 := hid hb2
  clear hb2
  go_wp2_with fail
  refine (l_one 7 _).mono ?_
  rintro e w3 ⟨rfl, hb3⟩
  have HB3 := hid (HB2.out.trans (hb3.mono HB2.out.size))
  clear hb3
  have HN := hid (heap_new w3 (.cells #[.int .i64 1, .int .i64 6, .string ⟨#[]⟩, .slice none 0 0, .int .i64 1, .int .i64 7, .string ⟨#[]⟩, .slice none 0 0] 28))
  have HB4 := hid (HB3.out.alloc HB3.out.size (.cells #[.int .i64 1, .int .i64 6, .string ⟨#[]⟩, .slice none 0 0, .int .i64 1, .int .i64 7, .string ⟨#[]⟩, .slice none 0 0] 28))
  go_wp2_with fail
  refine (v_Eval 5 0 ⟨#[]⟩ sixSeven _ 2 _ [] none 0 _ (sixSeven_at HN.out) (by decide) (by omega) sixSeven_fits (.inl rfl) (by simp) (by simp) (by decide) (by simp)).mono ?_
  rw [sixSeven_ans]
  rintro e w5 ⟨rfl, hb5⟩
  have HB5 := hid (HB4.out.trans (hb5.mono HB4.out.size))
  clear hb5
  go_wp2_with fail
  go_ret
  exact ⟨rfl, HB5.out⟩
end Go.Proofs.YtkgciohebloffaaGreat
