/- Texts joined: RuleAt, VFirst, RuleFn. -/
import Derived.Test.YtkgciohebloffaaGreatJS13
import Derived.Test.YtkgciohebloffaaGreatJS32
import Derived.Test.YtkgciohebloffaaGreatJS35
import Derived.Test.YtkgciohebloffaaGreatJS36
import Derived.Test.YtkgciohebloffaaGreatJS37
import Derived.Deep.LoopGhost
import Derived.Test.YtkgciohebloffaaGreatJS25
import Derived.Test.YtkgciohebloffaaGreatJS24
/- The rules by their number. -/
namespace Go.Proofs.YtkgciohebloffaaGreat
open Go.RowKit

/-- The rule at k; the first that applies from k on. -/
def ruleAt (op : Int) (a : F) : Nat → Option F
  | 0 => rule1 op a | 1 => rule2 op a | 2 => rule3 op a | 3 => rule4 op a | 4 => rule5 op a | 5 => rule6 op a | _ => none
def ruleFrom (op : Int) (a : F) : Nat → Option F
  | 0 => ruleF op a
  | 1 => (rule2 op a).or ((rule3 op a).or ((rule4 op a).or ((rule5 op a).or (rule6 op a))))
  | 2 => (rule3 op a).or ((rule4 op a).or ((rule5 op a).or (rule6 op a)))
  | 3 => (rule4 op a).or ((rule5 op a).or (rule6 op a))
  | 4 => (rule5 op a).or (rule6 op a)
  | 5 => rule6 op a
  | _ => none
theorem ruleFrom_none {op : Int} {a : F} {k : Nat} (hk : k < 6) (h : ruleAt op a k = none) : ruleFrom op a k = ruleFrom op a (k + 1) := by
  match k, hk with
  | 0, _ => simp only [ruleAt] at h; simp [ruleFrom, ruleF, h]
  | 1, _ => simp only [ruleAt] at h; simp [ruleFrom, h]
  | 2, _ => simp only [ruleAt] at h; simp [ruleFrom, h]
  | 3, _ => simp only [ruleAt] at h; simp [ruleFrom, h]
  | 4, _ => simp only [ruleAt] at h; simp [ruleFrom, h]
  | 5, _ => simp only [ruleAt] at h; simp [ruleFrom, h]
theorem ruleFrom_some {op : Int} {a g : F} {k : Nat} (hk : k < 6) (h : ruleAt op a k = some g) : ruleFrom op a k = some g := by
  match k, hk with
  | 0, _ => simp only [ruleAt] at h; simp [ruleFrom, ruleF, h]
  | 1, _ => simp only [ruleAt] at h; simp [ruleFrom, h]
  | 2, _ => simp only [ruleAt] at h; simp [ruleFrom, h]
  | 3, _ => simp only [ruleAt] at h; simp [ruleFrom, h]
  | 4, _ => simp only [ruleAt] at h; simp [ruleFrom, h]
  | 5, _ => simp only [ruleAt] at h; simp [ruleFrom, h]

end Go.Proofs.YtkgciohebloffaaGreat
/- firstRule, simple, the program's. -/
namespace Go.Proofs.YtkgciohebloffaaGreat
open Go.RowKit

/-- What holds when the rules before k do not apply. -/
def FrRel (op n : Int) (s : ByteArray) (a : F) (p : Option Addr) (c : Nat) (w : World) (k : Nat) (wr : World) : Prop :=
  ruleF op a = ruleFrom op a k ∧ wr.heap[w.heap.size]? = some (.cells #[.int .i64 op, .int .i64 n, .string s, .slice p a.len c] 28 (0, 0)) ∧
    wr.heap[w.heap.size + 1]? = some (.cells #[.int .i64 0, .int .i64 0, .string ⟨#[]⟩, .slice none 0 0] 28 (0, 0)) ∧ Below w.heap.size w wr ∧ w.heap.size + 2 ≤ wr.heap.size
theorem fr_more {op n : Int} {s : ByteArray} {a : F} {p : Option Addr} {c : Nat} {w wr w' : World} {k : Nat} (h : FrRel op n s a p c w k wr) (e : Ext (fun _ => False) wr w') : FrRel op n s a p c w k w' :=
  ⟨h.1, e.heap h.2.1 id, e.heap h.2.2.1 id, below_ext h.2.2.2.1 e (by have := h.2.2.2.2; omega), Nat.le_trans h.2.2.2.2 e.size⟩
/-- A rule that applied: the answer of all. -/
theorem fr_got {fa : List Nat} {op : Int} {a : F} {k : Nat} {w w3 w4 : World} {op' n' : Int} {s' : ByteArray} {a' : F} {p' : Option Addr} {c' : Nat} {f' : List Nat} (hk : k < 6) (hR : ruleF op a = ruleFrom op a k) (hy : (ruleAt op a k).isSome = true)
    (h1 : ∀ g, ruleAt op a k = some g → g = .cons op' n' s' a' .nil) (h2 : RdP w4 a' p' f') (h3 : a'.len ≤ c') (h4 : c' ≤ 9223372036854775807) (h5 : ∀ b ∈ f', b ∈ fa ∨ w3.heap.size ≤ b) (h6 : w.heap.size ≤ w3.heap.size) (hb : Below w.heap.size w w4) :
    GotRule fa (ruleF op a) w (.returned (.tuple #[.agg #[.int .i64 op', .int .i64 n', .string s', .slice p' a'.len c'], .bool true])) w4 := by
  obtain ⟨g, hg⟩ := Option.isSome_iff_exists.1 hy
  have h := ruleFrom_some hk hg
  rw [hR, h]
  refine ⟨⟨op', n', s', a', p', c', f', rfl, fun x hx => ?_, h2, h3, h4, fun b hb => (h5 b hb).imp id (fun h => Nat.le_trans h6 h)⟩, hb⟩
  injection hx with hx
  subst hx
  exact h1 _ hg

set_option maxRecDepth 100000 in
set_option maxHeartbeats 4000000 in
theorem v_firstRule (op n : Int) (s : ByteArray) (a : F) (p : Option Addr) (c : Nat) (fa : List Nat) (w : World) (hs : (F.cons op n s a .nil).Small) (hf : (F.cons op n s a .nil).Fits) (hp : RdP w a p fa) (hac : a.len ≤ c) (hc : c ≤ 9223372036854775807) :
    Calls Tryz.prog 116 #[.agg #[.int .i64 op, .int .i64 n, .string s, .slice p a.len c]] w (GotRule fa (ruleF op a) w) := by
  have HP := hid hp
  have HFa := hid (show ∀ x, x ∈ fa → x < w.heap.size from hp.lt)
  have HS := hid (And.intro hs hf)
  have HL := hid (And.intro hac hc)
  have HR0 := hid (show FrRel op n s a p c w 0 ((w.alloc (.cells #[.int .i64 op, .int .i64 n, .string s, .slice p a.len c] 28)).alloc (.cells #[.int .i64 0, .int .i64 0, .string ⟨#[]⟩, .slice none 0 0] 28)) from by
    have h1 := heap_new w (.cells #[.int .i64 op, .int .i64 n, .string s, .slice p a.len c] 28)
    have h2 := heap_new (w.alloc (.cells #[.int .i64 op, .int .i64 n, .string s, .slice p a.len c] 28)) (.cells #[.int .i64 0, .int .i64 0, .string ⟨#[]⟩, .slice none 0 0] 28)
    rw [show (w.alloc (.cells #[.int .i64 op, .int .i64 n, .string s, .slice p a.len c] 28)).heap.size = w.heap.size + 1 by simp] at h2
    exact ⟨rfl, ((Ext.refl (S := fun _ => False) _).alloc _).heap h1 id, h2, (alloc_below w _).alloc (by simp) _, by simp⟩)
  clear hp hs hf hac hc
  go_enter Tryz.func116, Tryz.ntmps116
  go_wp2_with fail
  go_loopw [9] (fun i wr => ∃ k : Nat, k ≤ 6 ∧ i = .int .i64 k ∧ FrRel op n s a p c w k wr) (fun i _ => 6 - (intOf i).toNat)
  case atStart => exact ⟨0, by omega, rfl, HR0.out⟩
  case round =>
    obtain ⟨k, hk, rfl, hR⟩ := hrel
    have HR := hid hR
    obtain ⟨⟨c0, c1, c2, c3⟩, _⟩ := blk4 hR.2.1
    have hz : w.heap.size + 2 ≤ wr.heap.size := hR.2.2.2.2
    have HPr := hid (HP.out.ext (S := fun _ => False) (Ext.of_below hR.2.2.2.1) (fun _ _ => id))
    clear hR
    by_cases hlt : k < 6
    · have hk6 : k = 0 ∨ k = 1 ∨ k = 2 ∨ k = 3 ∨ k = 4 ∨ k = 5 := by omega
      clear hk hlt
      rcases hk6 with rfl | rfl | rfl | rfl | rfl | rfl
      · have hidx : ∀ wr' : World, Sem.run Tryz.prog (Instr.index 207 (.agg #[.func (.func 180) #[] #[], .func (.func 181) #[] #[], .func (.func 182) #[] #[], .func (.func 183) #[] #[], .func (.func 184) #[] #[], .func (.func 185) #[] #[]]) (.int .i64 0)) wr' = .ok (.func (.func 180) #[] #[]) wr' := fun _ => by kernel_rfl
        go_wp2_with fail
        refine (v_allNumbers op n s a p c fa _ HS.out.1 HS.out.2 HPr.out HL.out.1 HL.out.2).mono ?_
        rintro e w3 ⟨⟨op', n', s', a', p', c', f', rfl, h1, h2, h3, h4, h5⟩, hb3⟩
        have hor : rule1 op a = ruleAt op a 0 := rfl
        have E3 := hid (Ext.of_below (S := fun _ => False) hb3)
        have HR3 := hid (fr_more HR.out E3.out)
        have HG := hid (And.intro h1 (And.intro h2 (And.intro h3 (And.intro h4 h5))))
        rw [hor] at HG
        rw [hor]
        clear h1 h2 h3 h4 h5 hb3 hor
        have HY := hid (rfl : (ruleAt op a 0).isSome = (ruleAt op a 0).isSome)
        generalize hyy : (ruleAt op a 0).isSome = yes
        have HYes := hid hyy
        clear hyy HY
        have HR4 := hid (fr_more HR3.out ((Ext.refl (S := fun _ => False) w3).alloc (.cells #[.int .i64 op', .int .i64 n', .string s', .slice p' a'.len c'] 28)))
        obtain ⟨⟨e0, e1, e2, e3⟩, _⟩ := blk4 HR3.out.2.1
        obtain ⟨⟨z0, z1, z2, z3⟩, f0, f1, f2, f3⟩ := blk4 HR3.out.2.2.1
        have hz3 : w.heap.size + 1 < w3.heap.size := World.block_lt_of_cell? _ _ z0
        cases yes with
        | true =>
          go_wp2_with fail
          obtain ⟨W, hW, u0, u1, u2, u3, _, eW⟩ := set4_row (a0 := .int .i64 op') (a1 := .int .i64 n') (a2 := .string s') (a3 := .slice p' a'.len c') (o := .cells #[.int .i64 op', .int .i64 n', .string s', .slice p' a'.len c'] 28) z0 z1 z2 z3
          rw [hW]
          exact bodyPost_ret (v := .tuple #[.agg #[.int .i64 op', .int .i64 n', .string s', .slice p' a'.len c'], .bool true]) (by simp [results, Tryz.results116, go_sem, u0, u1, u2, u3]) rfl (fr_got (by omega) HR.out.1 HYes.out HG.out.1 (HG.out.2.1.ext eW (fun b hb e => (HG.out.2.2.2.2 b hb).elim (fun h => by have := HFa.out b h; omega) (fun h => by omega))) HG.out.2.2.1 HG.out.2.2.2.1 HG.out.2.2.2.2 (by omega) (below_at HR3.out.2.2.2.1 eW (by omega) (by omega)))
        | false =>
          have HN := hid (show ruleF op a = ruleFrom op a (0 + 1) by
            rw [HR.out.1]
            refine ruleFrom_none (by omega) ?_
            have h := HYes.out
            cases hr : ruleAt op a 0 with
            | none => rfl
            | some _ => rw [hr] at h; cases h)
          go_wp2_with fail
          go_roundw
          case rel => exact ⟨0 + 1, by omega, by go_num, (show FrRel op n s a p c w (0 + 1) _ from ⟨HN.out, HR4.out.2⟩)⟩
          case measure => simp [intOf]
      · have hidx : ∀ wr' : World, Sem.run Tryz.prog (Instr.index 207 (.agg #[.func (.func 180) #[] #[], .func (.func 181) #[] #[], .func (.func 182) #[] #[], .func (.func 183) #[] #[], .func (.func 184) #[] #[], .func (.func 185) #[] #[]]) (.int .i64 1)) wr' = .ok (.func (.func 181) #[] #[]) wr' := fun _ => by kernel_rfl
        go_wp2_with fail
        refine (v_neutral op n s a p c fa _ HS.out.1 HPr.out HL.out.1 HL.out.2).mono ?_
        rintro e w3 ⟨⟨op', n', s', a', p', c', f', rfl, h1, h2, h3, h4, h5⟩, hb3⟩
        have hor : rule2 op a = ruleAt op a 1 := rfl
        have E3 := hid (Ext.of_below (S := fun _ => False) hb3)
        have HR3 := hid (fr_more HR.out E3.out)
        have HG := hid (And.intro h1 (And.intro h2 (And.intro h3 (And.intro h4 h5))))
        rw [hor] at HG
        rw [hor]
        clear h1 h2 h3 h4 h5 hb3 hor
        have HY := hid (rfl : (ruleAt op a 1).isSome = (ruleAt op a 1).isSome)
        generalize hyy : (ruleAt op a 1).isSome = yes
        have HYes := hid hyy
        clear hyy HY
        have HR4 := hid (fr_more HR3.out ((Ext.refl (S := fun _ => False) w3).alloc (.cells #[.int .i64 op', .int .i64 n', .string s', .slice p' a'.len c'] 28)))
        obtain ⟨⟨e0, e1, e2, e3⟩, _⟩ := blk4 HR3.out.2.1
        obtain ⟨⟨z0, z1, z2, z3⟩, f0, f1, f2, f3⟩ := blk4 HR3.out.2.2.1
        have hz3 : w.heap.size + 1 < w3.heap.size := World.block_lt_of_cell? _ _ z0
        cases yes with
        | true =>
          go_wp2_with fail
          obtain ⟨W, hW, u0, u1, u2, u3, _, eW⟩ := set4_row (a0 := .int .i64 op') (a1 := .int .i64 n') (a2 := .string s') (a3 := .slice p' a'.len c') (o := .cells #[.int .i64 op', .int .i64 n', .string s', .slice p' a'.len c'] 28) z0 z1 z2 z3
          rw [hW]
          exact bodyPost_ret (v := .tuple #[.agg #[.int .i64 op', .int .i64 n', .string s', .slice p' a'.len c'], .bool true]) (by simp [results, Tryz.results116, go_sem, u0, u1, u2, u3]) rfl (fr_got (by omega) HR.out.1 HYes.out HG.out.1 (HG.out.2.1.ext eW (fun b hb e => (HG.out.2.2.2.2 b hb).elim (fun h => by have := HFa.out b h; omega) (fun h => by omega))) HG.out.2.2.1 HG.out.2.2.2.1 HG.out.2.2.2.2 (by omega) (below_at HR3.out.2.2.2.1 eW (by omega) (by omega)))
        | false =>
          have HN := hid (show ruleF op a = ruleFrom op a (1 + 1) by
            rw [HR.out.1]
            refine ruleFrom_none (by omega) ?_
            have h := HYes.out
            cases hr : ruleAt op a 1 with
            | none => rfl
            | some _ => rw [hr] at h; cases h)
          go_wp2_with fail
          go_roundw
          case rel => exact ⟨1 + 1, by omega, by go_num, (show FrRel op n s a p c w (1 + 1) _ from ⟨HN.out, HR4.out.2⟩)⟩
          case measure => simp [intOf]
      · have hidx : ∀ wr' : World, Sem.run Tryz.prog (Instr.index 207 (.agg #[.func (.func 180) #[] #[], .func (.func 181) #[] #[], .func (.func 182) #[] #[], .func (.func 183) #[] #[], .func (.func 184) #[] #[], .func (.func 185) #[] #[]]) (.int .i64 2)) wr' = .ok (.func (.func 182) #[] #[]) wr' := fun _ => by kernel_rfl
        go_wp2_with fail
        refine (v_sameArgs op n s a p c fa _ HS.out.1 HPr.out HL.out.1 HL.out.2).mono ?_
        rintro e w3 ⟨⟨op', n', s', a', p', c', f', rfl, h1, h2, h3, h4, h5⟩, hb3⟩
        have hor : rule3 op a = ruleAt op a 2 := rfl
        have E3 := hid (Ext.of_below (S := fun _ => False) hb3)
        have HR3 := hid (fr_more HR.out E3.out)
        have HG := hid (And.intro h1 (And.intro h2 (And.intro h3 (And.intro h4 h5))))
        rw [hor] at HG
        rw [hor]
        clear h1 h2 h3 h4 h5 hb3 hor
        have HY := hid (rfl : (ruleAt op a 2).isSome = (ruleAt op a 2).isSome)
        generalize hyy : (ruleAt op a 2).isSome = yes
        have HYes := hid hyy
        clear hyy HY
        have HR4 := hid (fr_more HR3.out ((Ext.refl (S := fun _ => False) w3).alloc (.cells #[.int .i64 op', .int .i64 n', .string s', .slice p' a'.len c'] 28)))
        obtain ⟨⟨e0, e1, e2, e3⟩, _⟩ := blk4 HR3.out.2.1
        obtain ⟨⟨z0, z1, z2, z3⟩, f0, f1, f2, f3⟩ := blk4 HR3.out.2.2.1
        have hz3 : w.heap.size + 1 < w3.heap.size := World.block_lt_of_cell? _ _ z0
        cases yes with
        | true =>
          go_wp2_with fail
          obtain ⟨W, hW, u0, u1, u2, u3, _, eW⟩ := set4_row (a0 := .int .i64 op') (a1 := .int .i64 n') (a2 := .string s') (a3 := .slice p' a'.len c') (o := .cells #[.int .i64 op', .int .i64 n', .string s', .slice p' a'.len c'] 28) z0 z1 z2 z3
          rw [hW]
          exact bodyPost_ret (v := .tuple #[.agg #[.int .i64 op', .int .i64 n', .string s', .slice p' a'.len c'], .bool true]) (by simp [results, Tryz.results116, go_sem, u0, u1, u2, u3]) rfl (fr_got (by omega) HR.out.1 HYes.out HG.out.1 (HG.out.2.1.ext eW (fun b hb e => (HG.out.2.2.2.2 b hb).elim (fun h => by have := HFa.out b h; omega) (fun h => by omega))) HG.out.2.2.1 HG.out.2.2.2.1 HG.out.2.2.2.2 (by omega) (below_at HR3.out.2.2.2.1 eW (by omega) (by omega)))
        | false =>
          have HN := hid (show ruleF op a = ruleFrom op a (2 + 1) by
            rw [HR.out.1]
            refine ruleFrom_none (by omega) ?_
            have h := HYes.out
            cases hr : ruleAt op a 2 with
            | none => rfl
            | some _ => rw [hr] at h; cases h)
          go_wp2_with fail
          go_roundw
          case rel => exact ⟨2 + 1, by omega, by go_num, (show FrRel op n s a p c w (2 + 1) _ from ⟨HN.out, HR4.out.2⟩)⟩
          case measure => simp [intOf]
      · have hidx : ∀ wr' : World, Sem.run Tryz.prog (Instr.index 207 (.agg #[.func (.func 180) #[] #[], .func (.func 181) #[] #[], .func (.func 182) #[] #[], .func (.func 183) #[] #[], .func (.func 184) #[] #[], .func (.func 185) #[] #[]]) (.int .i64 3)) wr' = .ok (.func (.func 183) #[] #[]) wr' := fun _ => by kernel_rfl
        go_wp2_with fail
        refine (v_beyondValues op n s a p c fa _ HS.out.1 HPr.out HL.out.1 HL.out.2).mono ?_
        rintro e w3 ⟨⟨op', n', s', a', p', c', f', rfl, h1, h2, h3, h4, h5⟩, hb3⟩
        have hor : rule4 op a = ruleAt op a 3 := rfl
        have E3 := hid (Ext.of_below (S := fun _ => False) hb3)
        have HR3 := hid (fr_more HR.out E3.out)
        have HG := hid (And.intro h1 (And.intro h2 (And.intro h3 (And.intro h4 h5))))
        rw [hor] at HG
        rw [hor]
        clear h1 h2 h3 h4 h5 hb3 hor
        have HY := hid (rfl : (ruleAt op a 3).isSome = (ruleAt op a 3).isSome)
        generalize hyy : (ruleAt op a 3).isSome = yes
        have HYes := hid hyy
        clear hyy HY
        have HR4 := hid (fr_more HR3.out ((Ext.refl (S := fun _ => False) w3).alloc (.cells #[.int .i64 op', .int .i64 n', .string s', .slice p' a'.len c'] 28)))
        obtain ⟨⟨e0, e1, e2, e3⟩, _⟩ := blk4 HR3.out.2.1
        obtain ⟨⟨z0, z1, z2, z3⟩, f0, f1, f2, f3⟩ := blk4 HR3.out.2.2.1
        have hz3 : w.heap.size + 1 < w3.heap.size := World.block_lt_of_cell? _ _ z0
        cases yes with
        | true =>
          go_wp2_with fail
          obtain ⟨W, hW, u0, u1, u2, u3, _, eW⟩ := set4_row (a0 := .int .i64 op') (a1 := .int .i64 n') (a2 := .string s') (a3 := .slice p' a'.len c') (o := .cells #[.int .i64 op', .int .i64 n', .string s', .slice p' a'.len c'] 28) z0 z1 z2 z3
          rw [hW]
          exact bodyPost_ret (v := .tuple #[.agg #[.int .i64 op', .int .i64 n', .string s', .slice p' a'.len c'], .bool true]) (by simp [results, Tryz.results116, go_sem, u0, u1, u2, u3]) rfl (fr_got (by omega) HR.out.1 HYes.out HG.out.1 (HG.out.2.1.ext eW (fun b hb e => (HG.out.2.2.2.2 b hb).elim (fun h => by have := HFa.out b h; omega) (fun h => by omega))) HG.out.2.2.1 HG.out.2.2.2.1 HG.out.2.2.2.2 (by omega) (below_at HR3.out.2.2.2.1 eW (by omega) (by omega)))
        | false =>
          have HN := hid (show ruleF op a = ruleFrom op a (3 + 1) by
            rw [HR.out.1]
            refine ruleFrom_none (by omega) ?_
            have h := HYes.out
            cases hr : ruleAt op a 3 with
            | none => rfl
            | some _ => rw [hr] at h; cases h)
          go_wp2_with fail
          go_roundw
          case rel => exact ⟨3 + 1, by omega, by go_num, (show FrRel op n s a p c w (3 + 1) _ from ⟨HN.out, HR4.out.2⟩)⟩
          case measure => simp [intOf]
      · have hidx : ∀ wr' : World, Sem.run Tryz.prog (Instr.index 207 (.agg #[.func (.func 180) #[] #[], .func (.func 181) #[] #[], .func (.func 182) #[] #[], .func (.func 183) #[] #[], .func (.func 184) #[] #[], .func (.func 185) #[] #[]]) (.int .i64 4)) wr' = .ok (.func (.func 184) #[] #[]) wr' := fun _ => by kernel_rfl
        go_wp2_with fail
        refine (v_decided op n s a p c fa _ HS.out.1 HPr.out HL.out.1 HL.out.2).mono ?_
        rintro e w3 ⟨⟨op', n', s', a', p', c', f', rfl, h1, h2, h3, h4, h5⟩, hb3⟩
        have hor : rule5 op a = ruleAt op a 4 := rfl
        have E3 := hid (Ext.of_below (S := fun _ => False) hb3)
        have HR3 := hid (fr_more HR.out E3.out)
        have HG := hid (And.intro h1 (And.intro h2 (And.intro h3 (And.intro h4 h5))))
        rw [hor] at HG
        rw [hor]
        clear h1 h2 h3 h4 h5 hb3 hor
        have HY := hid (rfl : (ruleAt op a 4).isSome = (ruleAt op a 4).isSome)
        generalize hyy : (ruleAt op a 4).isSome = yes
        have HYes := hid hyy
        clear hyy HY
        have HR4 := hid (fr_more HR3.out ((Ext.refl (S := fun _ => False) w3).alloc (.cells #[.int .i64 op', .int .i64 n', .string s', .slice p' a'.len c'] 28)))
        obtain ⟨⟨e0, e1, e2, e3⟩, _⟩ := blk4 HR3.out.2.1
        obtain ⟨⟨z0, z1, z2, z3⟩, f0, f1, f2, f3⟩ := blk4 HR3.out.2.2.1
        have hz3 : w.heap.size + 1 < w3.heap.size := World.block_lt_of_cell? _ _ z0
        cases yes with
        | true =>
          go_wp2_with fail
          obtain ⟨W, hW, u0, u1, u2, u3, _, eW⟩ := set4_row (a0 := .int .i64 op') (a1 := .int .i64 n') (a2 := .string s') (a3 := .slice p' a'.len c') (o := .cells #[.int .i64 op', .int .i64 n', .string s', .slice p' a'.len c'] 28) z0 z1 z2 z3
          rw [hW]
          exact bodyPost_ret (v := .tuple #[.agg #[.int .i64 op', .int .i64 n', .string s', .slice p' a'.len c'], .bool true]) (by simp [results, Tryz.results116, go_sem, u0, u1, u2, u3]) rfl (fr_got (by omega) HR.out.1 HYes.out HG.out.1 (HG.out.2.1.ext eW (fun b hb e => (HG.out.2.2.2.2 b hb).elim (fun h => by have := HFa.out b h; omega) (fun h => by omega))) HG.out.2.2.1 HG.out.2.2.2.1 HG.out.2.2.2.2 (by omega) (below_at HR3.out.2.2.2.1 eW (by omega) (by omega)))
        | false =>
          have HN := hid (show ruleF op a = ruleFrom op a (4 + 1) by
            rw [HR.out.1]
            refine ruleFrom_none (by omega) ?_
            have h := HYes.out
            cases hr : ruleAt op a 4 with
            | none => rfl
            | some _ => rw [hr] at h; cases h)
          go_wp2_with fail
          go_roundw
          case rel => exact ⟨4 + 1, by omega, by go_num, (show FrRel op n s a p c w (4 + 1) _ from ⟨HN.out, HR4.out.2⟩)⟩
          case measure => simp [intOf]
      · have hidx : ∀ wr' : World, Sem.run Tryz.prog (Instr.index 207 (.agg #[.func (.func 180) #[] #[], .func (.func 181) #[] #[], .func (.func 182) #[] #[], .func (.func 183) #[] #[], .func (.func 184) #[] #[], .func (.func 185) #[] #[]]) (.int .i64 5)) wr' = .ok (.func (.func 185) #[] #[]) wr' := fun _ => by kernel_rfl
        go_wp2_with fail
        refine (v_negation op n s a p c fa _ HS.out.1 HPr.out HL.out.1 HL.out.2).mono ?_
        rintro e w3 ⟨⟨op', n', s', a', p', c', f', rfl, h1, h2, h3, h4, h5⟩, hb3⟩
        have hor : rule6 op a = ruleAt op a 5 := rfl
        have E3 := hid (Ext.of_below (S := fun _ => False) hb3)
        have HR3 := hid (fr_more HR.out E3.out)
        have HG := hid (And.intro h1 (And.intro h2 (And.intro h3 (And.intro h4 h5))))
        rw [hor] at HG
        rw [hor]
        clear h1 h2 h3 h4 h5 hb3 hor
        have HY := hid (rfl : (ruleAt op a 5).isSome = (ruleAt op a 5).isSome)
        generalize hyy : (ruleAt op a 5).isSome = yes
        have HYes := hid hyy
        clear hyy HY
        have HR4 := hid (fr_more HR3.out ((Ext.refl (S := fun _ => False) w3).alloc (.cells #[.int .i64 op', .int .i64 n', .string s', .slice p' a'.len c'] 28)))
        obtain ⟨⟨e0, e1, e2, e3⟩, _⟩ := blk4 HR3.out.2.1
        obtain ⟨⟨z0, z1, z2, z3⟩, f0, f1, f2, f3⟩ := blk4 HR3.out.2.2.1
        have hz3 : w.heap.size + 1 < w3.heap.size := World.block_lt_of_cell? _ _ z0
        cases yes with
        | true =>
          go_wp2_with fail
          obtain ⟨W, hW, u0, u1, u2, u3, _, eW⟩ := set4_row (a0 := .int .i64 op') (a1 := .int .i64 n') (a2 := .string s') (a3 := .slice p' a'.len c') (o := .cells #[.int .i64 op', .int .i64 n', .string s', .slice p' a'.len c'] 28) z0 z1 z2 z3
          rw [hW]
          exact bodyPost_ret (v := .tuple #[.agg #[.int .i64 op', .int .i64 n', .string s', .slice p' a'.len c'], .bool true]) (by simp [results, Tryz.results116, go_sem, u0, u1, u2, u3]) rfl (fr_got (by omega) HR.out.1 HYes.out HG.out.1 (HG.out.2.1.ext eW (fun b hb e => (HG.out.2.2.2.2 b hb).elim (fun h => by have := HFa.out b h; omega) (fun h => by omega))) HG.out.2.2.1 HG.out.2.2.2.1 HG.out.2.2.2.2 (by omega) (below_at HR3.out.2.2.2.1 eW (by omega) (by omega)))
        | false =>
          have HN := hid (show ruleF op a = ruleFrom op a (5 + 1) by
            rw [HR.out.1]
            refine ruleFrom_none (by omega) ?_
            have h := HYes.out
            cases hr : ruleAt op a 5 with
            | none => rfl
            | some _ => rw [hr] at h; cases h)
          go_wp2_with fail
          go_roundw
          case rel => exact ⟨5 + 1, by omega, by go_num, (show FrRel op n s a p c w (5 + 1) _ from ⟨HN.out, HR4.out.2⟩)⟩
          case measure => simp [intOf]
    · have hk6 : k = 6 := by omega
      subst hk6
      have HN := hid (show ruleF op a = none from HR.out.1)
      obtain ⟨⟨z0, z1, z2, z3⟩, f0, f1, f2, f3⟩ := blk4 HR.out.2.2.1
      go_wp2_with fail
      obtain ⟨W, hW, u0, u1, u2, u3, eW⟩ := set4_all (a0 := .int .i64 0) (a1 := .int .i64 0) (a2 := .string ⟨#[]⟩) (a3 := .slice none 0 0) z0 z1 z2 z3
      rw [hW]
      exact bodyPost_ret (v := .tuple #[.agg #[.int .i64 0, .int .i64 0, .string ⟨#[]⟩, .slice none 0 0], .bool false]) (by simp [results, Tryz.results116, go_sem, u0, u1, u2, u3]) rfl (none_got HN.out (below_at HR.out.2.2.2.1 eW (by omega) (by omega)))
end Go.Proofs.YtkgciohebloffaaGreat
/- A rule as a function value; all of them in a row; an expression to which rules are applied. -/
namespace Go.Proofs.YtkgciohebloffaaGreat
open Go.RowKit

/-- A function value that is the rule at k, in worlds that have all of W. -/
def RuleFn (W : World) (v : Value) (k : Nat) : Prop :=
  ∃ fn caps, v = .func (.func fn) #[] caps ∧ Enters fn ∧ ∀ (op n : Int) (s : ByteArray) (a : F) (p : Option Addr) (c : Nat) (fa : List Nat) (W' : World), Ext (fun _ => False) W W' → (F.cons op n s a .nil).Small → RdP W' a p fa → a.len ≤ c → c ≤ 9223372036854775807 →
    Calls Tryz.prog fn (#[.int .i64 op, .slice p a.len c] ++ caps) W' (GotRule fa (ruleAt op a k) W')
def RulesOk (W : World) (g : Nat) : Prop := ∀ k, k < 6 → ∃ v, W.cell? ⟨g, k, none⟩ = some v ∧ RuleFn W v k
theorem RulesOk.ext {W W' : World} {g : Nat} (h : RulesOk W g) (e : Ext (fun _ => False) W W') : RulesOk W' g := fun k hk => by
  obtain ⟨v, h1, fn, caps, h2, h3, h4⟩ := h k hk
  exact ⟨v, e.cell_some h1 id, fn, caps, h2, h3, fun op n s a p c fa W2 e2 => h4 op n s a p c fa W2 (e.trans e2)⟩
/-- All but block z is as it was, and g lies elsewhere. -/
theorem RulesOk.ext_fn {W W' : World} {v : Value} {k : Nat} (h : RuleFn W v k) (e : Ext (fun _ => False) W W') : RuleFn W' v k := by
  obtain ⟨fn, caps, h2, h3, h4⟩ := h
  exact ⟨fn, caps, h2, h3, fun op n s a p c fa W2 e2 => h4 op n s a p c fa W2 (e.trans e2)⟩
/-- What is said of rules. -/
def RulesSaid : Prop := ∀ w : World, Calls Tryz.prog 76 #[] w fun e w' => (∃ g, e = .returned (.slice (some ⟨g, 0, none⟩) 6 6) ∧ RulesOk w' g) ∧ Below w.heap.size w w'

/-- The expression at which the rules stand, in the block behind the result's. -/
def OutAt (w : World) (op n : Int) (s : ByteArray) (a : F) (p : Option Addr) (c : Nat) (f : List Nat) (wr : World) : Prop :=
  wr.heap[w.heap.size + 2]? = some (.cells #[.int .i64 op, .int .i64 n, .string s, .slice p a.len c] 28 (0, 0)) ∧ wr.heap[w.heap.size + 1]? = some (.cells #[.int .i64 0, .int .i64 0, .string ⟨#[]⟩, .slice none 0 0] 28 (0, 0)) ∧
    RdP wr a p f ∧ a.len ≤ c ∧ c ≤ 9223372036854775807 ∧ (∀ b ∈ f, w.heap.size + 3 ≤ b) ∧ Below w.heap.size w wr ∧ w.heap.size + 3 ≤ wr.heap.size
theorem OutAt.ext {w wr w' : World} {op n : Int} {s : ByteArray} {a : F} {p : Option Addr} {c : Nat} {f : List Nat} (h : OutAt w op n s a p c f wr) (e : Ext (fun _ => False) wr w') : OutAt w op n s a p c f w' :=
  ⟨e.heap h.1 id, e.heap h.2.1 id, h.2.2.1.ext e (fun _ _ => id), h.2.2.2.1, h.2.2.2.2.1, h.2.2.2.2.2.1, below_ext h.2.2.2.2.2.2.1 e (by have := h.2.2.2.2.2.2.2; omega), Nat.le_trans h.2.2.2.2.2.2.2 e.size⟩
/-- The expression is replaced. -/
theorem OutAt.put {w wr : World} {op n : Int} {s : ByteArray} {a : F} {p : Option Addr} {c : Nat} {f : List Nat} (h : OutAt w op n s a p c f wr) {op' n' : Int} {s' : ByteArray} {a' : F} {p' : Option Addr} {c' : Nat} {f' : List Nat} (hr : RdP wr a' p' f') (h1 : a'.len ≤ c') (h2 : c' ≤ 9223372036854775807) (h3 : ∀ b ∈ f', w.heap.size + 3 ≤ b) :
    OutAt w op' n' s' a' p' c' f' ((((wr.setCell ⟨w.heap.size + 2, 0, none⟩ (.int .i64 op')).setCell ⟨w.heap.size + 2, 1, none⟩ (.int .i64 n')).setCell ⟨w.heap.size + 2, 2, none⟩ (.string s')).setCell ⟨w.heap.size + 2, 3, none⟩ (.slice p' a'.len c')) := by
  have e := set4_ext (S := (· = w.heap.size + 2)) (a0 := .int .i64 op') (a1 := .int .i64 n') (a2 := .string s') (a3 := .slice p' a'.len c') (Ext.refl wr) (b := w.heap.size + 2) (.inl rfl)
  refine ⟨set4_heap h.1, e.heap h.2.1 (by omega), hr.ext e (fun b hb e' => by have := h3 b hb; omega), h1, h2, h3, ?_, ?_⟩
  · exact below_at h.2.2.2.2.2.2.1 e (by omega) (by have := h.2.2.2.2.2.2.2; omega)
  · exact Nat.le_trans h.2.2.2.2.2.2.2 e.size
/-- E is what comes of this expression. -/
def Goes (E : F) (j : Nat) (op n : Int) (s : ByteArray) (a : F) : Prop := E = fixF j (.cons op n s a .nil) ∧ a.size + 1 < j ∧ (F.cons op n s a .nil).Small ∧ (F.cons op n s a .nil).Fits
theorem goes_start {op n : Int} {s : ByteArray} {a : F} (hs : (F.cons op n s a .nil).Small) (hf : (F.cons op n s a .nil).Fits) : Goes (simE op n s a) (a.size + 2) op n s (simF a) := by
  obtain ⟨h1, h2, _, h4⟩ := simE_fine hs hf
  exact ⟨rfl, by omega, h1, h2⟩
theorem goes_end {E : F} {j : Nat} {op n : Int} {s : ByteArray} {a : F} (h : Goes E j op n s a) (hr : ruleF op a = none) : E = .cons op n s a .nil := by
  obtain ⟨h1, h2, _⟩ := h
  obtain ⟨i, rfl, h3⟩ := fix_round (k := j) (op := op) (n := n) (s := s) h2
  rw [h1, h3, hr]
theorem goes_step {E : F} {j : Nat} {op n : Int} {s : ByteArray} {a : F} {op' n' : Int} {s' : ByteArray} {a' : F} (h : Goes E j op n s a) (hr : ruleF op a = some (.cons op' n' s' a' .nil)) : ∃ i, Goes E i op' n' s' a' ∧ a'.size + 1 ≤ a.size := by
  obtain ⟨h1, h2, h3, h4⟩ := h
  obtain ⟨i, rfl, h5⟩ := fix_round (k := j) (op := op) (n := n) (s := s) h2
  rw [hr] at h5
  obtain ⟨_, g2, g3, g4⟩ := rule_fine h3 h4 hr
  simp only [F.size] at g4
  exact ⟨i, ⟨by rw [h1, h5], by omega, g2, g3⟩, by omega⟩
end Go.Proofs.YtkgciohebloffaaGreat
