/-
  The statement ExprsValued, for every slice of ints: no condition beyond the row's own. (The frame is the kit's shell of a proof.)
-/
import Derived.Test.YtckbhlnncokigaaGreatJV34
import Derived.Test.YtckbhlnncokigaaGreatJV35
import Derived.Test.YtckbhlnncokigaaGreatRows
import Derived.WalkKit
import Derived.ProofKit
import Derived.OpenShut
import Derived.ShutString
import Derived.ChangeOld
import Derived.Below
/- valued: package value computes. -/
namespace Go.Proofs.YtckbhlnncokigaaGreat
open Go.RowKit

def sixSeven : F := .cons 1 6 ⟨#[]⟩ .nil (.cons 1 7 ⟨#[]⟩ .nil .nil)
theorem sixSeven_fits : (F.cons 5 0 ⟨#[]⟩ sixSeven .nil).Fits := by
  refine ⟨by omega, by omega, by decide, ⟨by omega, by omega, by decide, trivial, ⟨by omega, by omega, by decide, trivial, trivial⟩⟩, trivial⟩
theorem sixSeven_ans : valAns [] 5 0 ⟨#[]⟩ sixSeven = (42, 0) := by
  have h : errE 5 0 ⟨#[]⟩ sixSeven 1 = 0 := by rfl
  have g : slErr ⟨#[]⟩ [] = 0 := rfl
  rw [valAns, if_neg (by rw [h]; simp), if_neg (by rw [g]; simp)]
  rfl
theorem sixSeven_at {w : World} {b : Nat} {T : TypeId} (h : w.heap[b]? = some (.cells #[.int .i64 1, .int .i64 6, .string ⟨#[]⟩, .slice none 0 0, .int .i64 1, .int .i64 7, .string ⟨#[]⟩, .slice none 0 0] T (0, 0))) : RdP w sixSeven (some ⟨b, 0, none⟩) [b] := by
  refine .inr ⟨b, 0, [.int .i64 1, .int .i64 6, .string ⟨#[]⟩, .slice none 0 0, .int .i64 1, .int .i64 7, .string ⟨#[]⟩, .slice none 0 0], [], rfl, rfl, by decide, ?_, fun k => by simp [World.frozen?, h], ?_⟩
  · intro i v hv
    rw [Nat.zero_add, cell_of_row _ _ _ _ _ _ h, ← Array.getElem?_toList]
    exact hv
  · exact ⟨none, 0, [], [], _, rfl, rfl, Nat.le_refl _, by omega, ⟨none, 0, [], [], [], rfl, rfl, Nat.le_refl _, by omega, ⟨rfl, rfl⟩, .inl ⟨rfl, rfl⟩⟩, .inl ⟨rfl, rfl⟩⟩

set_option maxHeartbeats 1000000 in
theorem l_one (n : Int) (w : World) : Calls Tryz.prog 69 #[.int .i64 n] w fun e w' => e = .returned (.agg #[.int .i64 1, .int .i64 n, .string ⟨#[]⟩, .slice none 0 0]) ∧ Below w.heap.size w w' := by
  go_enter Tryz.func69, Tryz.ntmps69
  go_wp2
  go_returns
  exact ⟨rfl, alloc_below _ _⟩

set_option maxRecDepth 100000 in
set_option maxHeartbeats 2000000 in
theorem l_valued (w : World) : Calls Tryz.prog 21 #[] w fun e w' => e = .returned (.bool true) ∧ Below w.heap.size w w' := by
  go_enter Tryz.func21, Tryz.ntmps21
  go_wp2_with fail
  refine (l_one 6 _).mono ?_
  rintro e w2 ⟨rfl, hb2⟩
  have HB2 := hid hb2
  clear hb2
  go_wp2_with fail
  refine (l_one 7 _).mono ?_
  rintro e w3 ⟨rfl, hb3⟩
  have HB3 := hid (HB2.out.trans (hb3.mono HB2.out.size))
  clear hb3
  have HN := hid (heap_new w3 (.cells #[.int .i64 1, .int .i64 6, .string ⟨#[]⟩, .slice none 0 0, .int .i64 1, .int .i64 7, .string ⟨#[]⟩, .slice none 0 0] 28))
  have HB4 := hid (HB3.out.alloc HB3.out.size (.cells #[.int .i64 1, .int .i64 6, .string ⟨#[]⟩, .slice none 0 0, .int .i64 1, .int .i64 7, .string ⟨#[]⟩, .slice none 0 0] 28))
  go_wp2_with fail
  refine (v_Eval 5 0 ⟨#[]⟩ sixSeven _ 2 _ [] none 0 _ (sixSeven_at HN.out) (by decide) (by omega) sixSeven_fits (.inl rfl) (by simp) (by simp) (by decide) (by simp)).mono ?_
  rw [sixSeven_ans]
  rintro e w5 ⟨rfl, hb5⟩
  have HB5 := hid (HB4.out.trans (hb5.mono HB4.out.size))
  clear hb5
  go_wp2_with fail
  go_ret
  exact ⟨rfl, HB5.out⟩
end Go.Proofs.YtckbhlnncokigaaGreat
/- ExprsValued: the law's contract, whole. -/
namespace Go.Proofs.YtckbhlnncokigaaGreat
open Go.RowKit

theorem valued_all (a0 : Option Addr) (len cap : Nat) (zs : List Int) (w : World) (hr : IsRow w a0 len cap zs) :
    Calls Tryz.prog 3 #[.slice a0 len cap] w fun e w' => e = .returned (.bool true) ∧ Below w.heap.size w w' :=
  law_valued (fun op n s a p c fa L lp lc w _ h1 h2 h3 h4 h5 h6 h7 h8 h9 => v_Eval op n s a p c fa L lp lc w h1 h2 h3 h4 h5 h6 h7 h8 h9)
    (fun op n s a p c fa w h0 h1 h2 h3 h4 => v_Vars op n s a p c fa w h0 h1 h2 h3 h4)
    (fun op n s a p c fa w h0 h1 h2 h3 h4 => v_Size op n s a p c fa w h0 h1 h2 h3 h4)
    (fun L p c w h1 h2 h3 h4 h5 => s_CheckSlots L p c w h1 h2 h3 h4 h5)
    l_valued a0 len cap zs w hr
end Go.Proofs.YtckbhlnncokigaaGreat
/-
  The statement ExprsValued, for every slice of ints: no condition beyond the row's own. (The frame is the kit's shell of a proof.)
-/
namespace Go.Proofs.YtckbhlnncokigaaGreat.exprsValued
open Go.ChangeShapes Go.WideShapes Go.ChangeAt Go.RowKit
open Go.ChangeMaps (open_string shut_string)
set_option linter.unusedVariables false

theorem own : ownKnob Tryz.prog.godebug = none := by kernel_rfl
theorem laidOut : laidOutB Tryz.prog = true := by kernel_rfl

/-- WHAT THE WALK IS TOLD OF A SLICE OF INTEGERS THAT CAME IN: it is nil; or it leads to a row of 'cap' cells, the numbers 'zs' (the first 'len' are its elements, the rest its spare room), each fitting its kind. -/
def IsRow (k : IntKind) (w : World) (a : Option Addr) (len cap : Nat) (zs : List Int) : Prop :=
  (a = none ∧ len = 0 ∧ cap = 0 ∧ zs = []) ∨
  ∃ x, a = some x ∧ len ≤ cap ∧ cap ≤ maxLen ∧ zs.length = cap ∧ (∀ i, i < zs.length → w.cell? (x.add i) = some (.int k (zs.getD i 0))) ∧ ∀ n ∈ zs, (Lit.int k n).wf = true

/-! ### STEP 1: THE WALK: the Go text returns true, AND WRITES NOTHING THAT WAS THERE: 'Below w.heap.size w w'' (Derived/Below.lean: '.refl', '.alloc', '.drew', '.setCell' at a new block, '.trans'). Open each 'IsRow' by 'rcases' AHEAD of 'go_enter'; part every test ahead of the walk. -/
theorem walk (a0 : Option Addr) (len0 cap0 : Nat) (z0 : List Int) (w : World) (w0 : IsRow .i64 w a0 len0 cap0 z0) :
    Calls Tryz.prog 3 #[.slice a0 len0 cap0] w fun e w' => e = .returned (.bool true) ∧ Below w.heap.size w w' := by
  rcases w0 with ⟨rfl, rfl, rfl, rfl⟩ | ⟨x, rfl, hl, hm, hz, hcell, hwf⟩
  · exact valued_all none 0 0 [] w (.inl ⟨rfl, rfl, rfl⟩)
  · by_cases hc : cap0 = 0
    · subst hc
      obtain rfl : len0 = 0 := by omega
      exact valued_all _ 0 0 [] w (.inl ⟨rfl, rfl, rfl⟩)
    · obtain ⟨b, off, rfl, hcell'⟩ := ints_at hcell (by omega)
      refine valued_all _ len0 cap0 z0 w (.inr ⟨b, off, rfl, by omega, hl, by unfold maxLen at hm; omega, hz, hcell', ?_⟩)
      intro i
      have := range_i64 hwf i
      rw [List.getD_eq_getElem?_getD]
      exact this

/-! ### THE ROW's STEP: WRITTEN OUT: LEAVE IT -/
set_option maxRecDepth 100000 in
theorem lifted (os : Os) (started : os.Started) (H : Type) (enc : TypeId × Value → H) :
    ReturnsInHanded {} Tryz.checked os 3 .any (Rows.exprsValuedSpec.pre6 enc Tryz.prog Tryz.f3 Rows.exprsValuedRow.domain false) (Rows.exprsValuedSpec.post enc Tryz.prog Tryz.f3 false true false false) := by
  refine returnsInHanded_of_change (C := Tryz.checked) own started (by kernel_rfl) Tryz.func3
    (ChangeSpec.witness6 (enc := enc) (C := Tryz.checked) false ⟨#[], #[.slice none 0 0], []⟩ 8 (by kernel_rfl) (by kernel_rfl) (by kernel_rfl) (by kernel_rfl)) ?_
  intro W base args ds gs before hval0 hW hcnd _
  have hval : ∀ (j : Nat) t v, Tryz.f3.params[j]? = some t → args[j]? = some v → Value.okWide Tryz.prog W .any base t v := hval0
  have hW' := hW
  obtain ⟨p, q, hA0, hV, rfl, hfz, hnd⟩ := hW
  have hA : DataW.TrodAll enc Tryz.prog W 0 (fun _ => true) true Tryz.f3.params.toList args.toList ds p := hA0
  rw [Tryz.params3] at hA hval
  obtain ⟨v0, vs0, d0, ds0, p0, q0, hargs, rfl, rfl, h0, r0⟩ := trodAll_cons hA
  obtain ⟨rfl, rfl, rfl⟩ := trodAll_nil r0
  obtain rfl : args = #[v0] := by cases args; simp_all
  obtain ⟨rfl, rfl⟩ := trodVars_none hV
  obtain ⟨a0, len0, cap0, rfl⟩ := okWide_slice Tryz.underlying22 (hval 0 22 v0 rfl rfl)
  have k0 := h0
  have lt0 : ∀ x ∈ p0, x.block < W.heap.size := by obtain ⟨m, hm⟩ := k0; exact DataW.trod_lt m _ _ _ hm
  obtain ⟨z0, w0⟩ : ∃ zs, IsRow .i64 W a0 len0 cap0 zs := by
    obtain ⟨fuel, hf⟩ := h0
    rcases open_ints Tryz.underlying22 Tryz.underlying3 (by kernel_rfl) hf with ⟨hcs, _⟩ | ⟨x, l, c, zs, hcs, _, hl, hm, hz, _, hcell, hwz⟩
    · simp [Value.cells] at hcs
      obtain ⟨rfl, rfl, rfl⟩ := hcs
      exact ⟨[], .inl ⟨rfl, rfl, rfl, rfl⟩⟩
    · simp [Value.cells] at hcs
      obtain ⟨rfl, rfl, rfl⟩ := hcs
      exact ⟨zs, .inr ⟨_, rfl, hl, hm, by simpa using hz, hcell, hwz⟩⟩
  clear hA0 hval0
  refine (walk a0 len0 cap0 z0 W w0).mono fun e W' ⟨he, bel⟩ => ?_
  subst he
  exact ⟨_, rfl, _, _, _, [], _, [], hW', trodAll_mk1 (shut_bool Tryz.underlying4 _), (trodAll_cons_mk (Below.trod laidOut (by kernel_rfl) (of_decide_eq_true (by kernel_rfl)) k0 bel lt0) trodAll_mk0), rfl, bel.frame _, fun h => by cases h⟩

theorem over : Rows.exprsValuedRow.holds Tryz.pinned (OpenSpec.ofChange Rows.exprsValuedSpec) :=
  OpenClaim.holds_of_wide 3 Tryz.f3 rfl rfl rfl rfl rfl rfl rfl ⟨rfl, rfl, rfl, rfl, rfl⟩ rfl rfl rfl rfl rfl (by kernel_rfl) Tryz.func3 (by kernel_rfl)
    (of_decide_eq_true (by kernel_rfl)) (by unfold Func.isWrapper; first | (rw [if_pos (by decide +kernel)]; kernel_rfl) | (rw [if_neg (by decide +kernel)]; exact ⟨rfl, rfl⟩))
    (fun os started H enc _ => lifted os started H enc)

/-- ████ THE STATEMENT ████ -/
theorem proved : Rows.ExprsValuedSaid := over
#print axioms proved
end Go.Proofs.YtckbhlnncokigaaGreat.exprsValued
