/- Texts joined: Mof. -/
import Derived.Test.YtkgciohebloffaaGreatJS25
import Derived.Test.YtkgciohebloffaaGreatJS26
import Derived.Laws.EntriesVeiled
/- meaningOf, walked: a meaning out of those of the operands. (Made by tools/gen/mof.py.) -/
namespace Go.Proofs.YtkgciohebloffaaGreat
open Go.RowKit

def SomeMean (S : Nat → Prop) (g : (ByteArray → Int) → Int) (e : Ending) (w' : World) : Prop := ∃ v, e = .returned v ∧ Mean S w' v g
theorem or_l {S : Nat → Prop} {w : World} (b : Nat) (h : S b) : S b ∨ w.heap.size ≤ b := .inl h
set_option maxHeartbeats 1000000 in
theorem v_choice {S : Nat → Prop} (u v t : Value) (g k l : (ByteArray → Int) → Int) (w : World) (m1 : Mean S w u g) (m2 : Mean S w v k) (m3 : Mean S w t l) :
    Calls Tryz.prog 157 #[u, v, t] w fun e w' => SomeMean (fun b => S b ∨ w.heap.size ≤ b) (fun f => compV 9 [g f, k f, l f]) e w' ∧ Below w.heap.size w w' := by
  have M := hid (And.intro m1 (And.intro m2 m3))
  obtain ⟨ku, cu, rfl, _, _⟩ := m1
  obtain ⟨kv, cv, rfl, _, _⟩ := m2
  obtain ⟨kt, ct, rfl, _, _⟩ := m3
  go_enter Tryz.func157, Tryz.ntmps157
  go_wp2_with fail
  go_ret
  have e3 := three_new (w := w) (.cells #[.func (.func ku) #[] cu] 91) (.cells #[.func (.func kv) #[] cv] 91) (.cells #[.func (.func kt) #[] ct] 91)
  refine ⟨⟨_, rfl, mean_when (.inr (Nat.le_refl _)) (.inr (by omega)) (.inr (by omega)) ?_ ?_ ?_ ((M.out.1.mono or_l).ext (Ext.of_below e3)) ((M.out.2.1.mono or_l).ext (Ext.of_below e3)) ((M.out.2.2.mono or_l).ext (Ext.of_below e3))⟩, e3⟩
  · rw [cell_of_row _ _ _ _ _ _ (one_start w _ _ _ _)]; rfl
  · rw [cell_of_row _ _ _ _ _ _ (two_start w _ _ _ _)]; rfl
  · rw [cell_of_row _ _ _ _ _ _ (three_start w _ _ _ _)]; rfl

set_option maxHeartbeats 1000000 in
theorem v_mtwo3 {S : Nat → Prop} (u v : Value) (g k : (ByteArray → Int) → Int) (w : World) (m1 : Mean S w u g) (m2 : Mean S w v k) :
    Calls Tryz.prog 158 #[.int .i64 3, u, v] w fun e w' => SomeMean (fun b => S b ∨ w.heap.size ≤ b) (fun f => compV 3 [g f, k f]) e w' ∧ Below w.heap.size w w' := by
  have M := hid (And.intro m1 m2)
  obtain ⟨ku, cu, rfl, _, _⟩ := m1
  obtain ⟨kv, cv, rfl, _, _⟩ := m2
  go_enter Tryz.func158, Tryz.ntmps158
  go_wp2_with fail
  go_ret
  refine ⟨⟨_, rfl, mean_two3 (.inr (Nat.le_refl _)) (.inr (by omega)) ?_ ?_ ((M.out.1.mono or_l).ext ((Ext.refl _).alloc _ |>.alloc _)) ((M.out.2.mono or_l).ext ((Ext.refl _).alloc _ |>.alloc _))⟩, (alloc_below w _).trans ((alloc_below _ _).mono (by simp))⟩
  · rw [cell_of_row _ _ _ _ _ _ ((((Ext.refl (S := fun _ => False) _).alloc _)).heap (heap_new w _) id)]; rfl
  · have h := heap_new (w.alloc (.cells #[.func (.func ku) #[] cu] 91)) (.cells #[.func (.func kv) #[] cv] 91)
    rw [World.size_alloc] at h
    rw [cell_of_row _ _ _ _ _ _ h]; rfl

set_option maxHeartbeats 1000000 in
theorem v_mtwo4 {S : Nat → Prop} (u v : Value) (g k : (ByteArray → Int) → Int) (w : World) (m1 : Mean S w u g) (m2 : Mean S w v k) :
    Calls Tryz.prog 158 #[.int .i64 4, u, v] w fun e w' => SomeMean (fun b => S b ∨ w.heap.size ≤ b) (fun f => compV 4 [g f, k f]) e w' ∧ Below w.heap.size w w' := by
  have M := hid (And.intro m1 m2)
  obtain ⟨ku, cu, rfl, _, _⟩ := m1
  obtain ⟨kv, cv, rfl, _, _⟩ := m2
  go_enter Tryz.func158, Tryz.ntmps158
  go_wp2_with fail
  go_ret
  refine ⟨⟨_, rfl, mean_two4 (.inr (Nat.le_refl _)) (.inr (by omega)) ?_ ?_ ((M.out.1.mono or_l).ext ((Ext.refl _).alloc _ |>.alloc _)) ((M.out.2.mono or_l).ext ((Ext.refl _).alloc _ |>.alloc _))⟩, (alloc_below w _).trans ((alloc_below _ _).mono (by simp))⟩
  · rw [cell_of_row _ _ _ _ _ _ ((((Ext.refl (S := fun _ => False) _).alloc _)).heap (heap_new w _) id)]; rfl
  · have h := heap_new (w.alloc (.cells #[.func (.func ku) #[] cu] 91)) (.cells #[.func (.func kv) #[] cv] 91)
    rw [World.size_alloc] at h
    rw [cell_of_row _ _ _ _ _ _ h]; rfl

set_option maxHeartbeats 1000000 in
theorem v_mtwo5 {S : Nat → Prop} (u v : Value) (g k : (ByteArray → Int) → Int) (w : World) (m1 : Mean S w u g) (m2 : Mean S w v k) :
    Calls Tryz.prog 158 #[.int .i64 5, u, v] w fun e w' => SomeMean (fun b => S b ∨ w.heap.size ≤ b) (fun f => compV 5 [g f, k f]) e w' ∧ Below w.heap.size w w' := by
  have M := hid (And.intro m1 m2)
  obtain ⟨ku, cu, rfl, _, _⟩ := m1
  obtain ⟨kv, cv, rfl, _, _⟩ := m2
  go_enter Tryz.func158, Tryz.ntmps158
  go_wp2_with fail
  go_ret
  refine ⟨⟨_, rfl, mean_two5 (.inr (Nat.le_refl _)) (.inr (by omega)) ?_ ?_ ((M.out.1.mono or_l).ext ((Ext.refl _).alloc _ |>.alloc _)) ((M.out.2.mono or_l).ext ((Ext.refl _).alloc _ |>.alloc _))⟩, (alloc_below w _).trans ((alloc_below _ _).mono (by simp))⟩
  · rw [cell_of_row _ _ _ _ _ _ ((((Ext.refl (S := fun _ => False) _).alloc _)).heap (heap_new w _) id)]; rfl
  · have h := heap_new (w.alloc (.cells #[.func (.func ku) #[] cu] 91)) (.cells #[.func (.func kv) #[] cv] 91)
    rw [World.size_alloc] at h
    rw [cell_of_row _ _ _ _ _ _ h]; rfl

set_option maxHeartbeats 1000000 in
theorem v_mtwo6 {S : Nat → Prop} (u v : Value) (g k : (ByteArray → Int) → Int) (w : World) (m1 : Mean S w u g) (m2 : Mean S w v k) :
    Calls Tryz.prog 158 #[.int .i64 6, u, v] w fun e w' => SomeMean (fun b => S b ∨ w.heap.size ≤ b) (fun f => compV 6 [g f, k f]) e w' ∧ Below w.heap.size w w' := by
  have M := hid (And.intro m1 m2)
  obtain ⟨ku, cu, rfl, _, _⟩ := m1
  obtain ⟨kv, cv, rfl, _, _⟩ := m2
  go_enter Tryz.func158, Tryz.ntmps158
  go_wp2_with fail
  go_ret
  refine ⟨⟨_, rfl, mean_two6 (.inr (Nat.le_refl _)) (.inr (by omega)) ?_ ?_ ((M.out.1.mono or_l).ext ((Ext.refl _).alloc _ |>.alloc _)) ((M.out.2.mono or_l).ext ((Ext.refl _).alloc _ |>.alloc _))⟩, (alloc_below w _).trans ((alloc_below _ _).mono (by simp))⟩
  · rw [cell_of_row _ _ _ _ _ _ ((((Ext.refl (S := fun _ => False) _).alloc _)).heap (heap_new w _) id)]; rfl
  · have h := heap_new (w.alloc (.cells #[.func (.func ku) #[] cu] 91)) (.cells #[.func (.func kv) #[] cv] 91)
    rw [World.size_alloc] at h
    rw [cell_of_row _ _ _ _ _ _ h]; rfl

set_option maxHeartbeats 1000000 in
theorem v_mtwo7 {S : Nat → Prop} (u v : Value) (g k : (ByteArray → Int) → Int) (w : World) (m1 : Mean S w u g) (m2 : Mean S w v k) :
    Calls Tryz.prog 158 #[.int .i64 7, u, v] w fun e w' => SomeMean (fun b => S b ∨ w.heap.size ≤ b) (fun f => compV 7 [g f, k f]) e w' ∧ Below w.heap.size w w' := by
  have M := hid (And.intro m1 m2)
  obtain ⟨ku, cu, rfl, _, _⟩ := m1
  obtain ⟨kv, cv, rfl, _, _⟩ := m2
  go_enter Tryz.func158, Tryz.ntmps158
  go_wp2_with fail
  go_ret
  refine ⟨⟨_, rfl, mean_two7 (.inr (Nat.le_refl _)) (.inr (by omega)) ?_ ?_ ((M.out.1.mono or_l).ext ((Ext.refl _).alloc _ |>.alloc _)) ((M.out.2.mono or_l).ext ((Ext.refl _).alloc _ |>.alloc _))⟩, (alloc_below w _).trans ((alloc_below _ _).mono (by simp))⟩
  · rw [cell_of_row _ _ _ _ _ _ ((((Ext.refl (S := fun _ => False) _).alloc _)).heap (heap_new w _) id)]; rfl
  · have h := heap_new (w.alloc (.cells #[.func (.func ku) #[] cu] 91)) (.cells #[.func (.func kv) #[] cv] 91)
    rw [World.size_alloc] at h
    rw [cell_of_row _ _ _ _ _ _ h]; rfl

set_option maxHeartbeats 1000000 in
theorem v_mof1 {S : Nat → Prop} (n : Int) (s : ByteArray) (p : Option Addr) (k c : Nat) (w : World) (hn : V999 n) :
    Calls Tryz.prog 94 #[.agg #[.int .i64 1, .int .i64 n, .string s], .slice p k c] w fun e w' => SomeMean (fun b => S b ∨ w.heap.size ≤ b) (fun _ => n) e w' ∧ Below w.heap.size w w' := by
  have HN := hid hn
  clear hn
  go_enter Tryz.func94, Tryz.ntmps94
  go_wp2_with fail
  go_ret
  exact ⟨⟨_, rfl, mean_number (.inr (Nat.le_refl _)) (by rw [cell_of_row _ _ _ _ _ _ (heap_new w _)]; rfl) HN.out⟩, alloc_below _ _⟩
set_option maxHeartbeats 1000000 in
theorem v_mof2 {S : Nat → Prop} (n : Int) (s : ByteArray) (p : Option Addr) (k c : Nat) (w : World) :
    Calls Tryz.prog 94 #[.agg #[.int .i64 2, .int .i64 n, .string s], .slice p k c] w fun e w' => SomeMean (fun b => S b ∨ w.heap.size ≤ b) (fun f => f s) e w' ∧ Below w.heap.size w w' := by
  go_enter Tryz.func94, Tryz.ntmps94
  go_wp2_with fail
  go_ret
  exact ⟨⟨_, rfl, mean_var (.inr (Nat.le_refl _)) (by rw [cell_of_row _ _ _ _ _ _ (heap_new w _)]; rfl)⟩, alloc_below _ _⟩
set_option maxHeartbeats 1000000 in
theorem v_mof8 {S : Nat → Prop} (n : Int) (s : ByteArray) (b o c : Nat) (v : Value) (g : (ByteArray → Int) → Int) (w : World) (h : w.cell? ⟨b, o, none⟩ = some v) (hm : Mean S w v g) :
    Calls Tryz.prog 94 #[.agg #[.int .i64 8, .int .i64 n, .string s], .slice (some ⟨b, o, none⟩) 1 c] w fun e w' => SomeMean (fun b => S b ∨ w.heap.size ≤ b) (fun f => compV 8 [g f]) e w' ∧ Below w.heap.size w w' := by
  have M := hid hm
  obtain ⟨kv, cv, rfl, _, _⟩ := hm
  have hb : b < w.heap.size := World.block_lt_of_cell? _ _ h
  go_enter Tryz.func94, Tryz.ntmps94
  go_wp2_with fail
  go_ret
  refine ⟨⟨_, rfl, mean_not (.inr (by omega)) ?_ ((M.out.mono or_l).ext ((Ext.refl _).alloc _ |>.alloc _))⟩, (alloc_below w _).trans ((alloc_below _ _).mono (by simp))⟩
  have h := heap_new (w.alloc (.cells #[.int .i64 8, .int .i64 n, .string s] 78)) (.cells #[.func (.func kv) #[] cv] 91)
  rw [World.size_alloc] at h
  rw [cell_of_row _ _ _ _ _ _ h]; rfl

set_option maxRecDepth 100000 in
set_option maxHeartbeats 2000000 in
theorem v_mof3 {S : Nat → Prop} (n : Int) (s : ByteArray) (b o c : Nat) (u v : Value) (g k : (ByteArray → Int) → Int) (w : World) (h1 : w.cell? ⟨b, o, none⟩ = some u) (h2 : w.cell? ⟨b, o + 1, none⟩ = some v) (m1 : Mean S w u g) (m2 : Mean S w v k) :
    Calls Tryz.prog 94 #[.agg #[.int .i64 3, .int .i64 n, .string s], .slice (some ⟨b, o, none⟩) 2 c] w fun e w' => SomeMean (fun b => S b ∨ w.heap.size ≤ b) (fun f => compV 3 [g f, k f]) e w' ∧ Below w.heap.size w w' := by
  have M := hid (And.intro m1 m2)
  obtain ⟨ku, cu, rfl, _, _⟩ := m1
  obtain ⟨kv, cv, rfl, _, _⟩ := m2
  have hb : b < w.heap.size := World.block_lt_of_cell? _ _ h1
  have E0 := hid (((Ext.refl (S := fun _ => False) w).alloc (.cells #[.int .i64 3, .int .i64 n, .string s] 78)).drew)
  have d0 : (w.alloc (.cells #[.int .i64 3, .int .i64 n, .string s] 78)).cell? ⟨w.heap.size, 0, none⟩ = some (.int .i64 3) := by rw [cell_of_row _ _ _ _ _ _ (heap_new w _)]; rfl
  have D0 := hid d0
  clear d0
  go_enter Tryz.func94, Tryz.ntmps94
  go_wp2_with fail
  go_region_held3 (fun w' => w'.cell? ⟨b, o, none⟩ = some (.func (.func ku) #[] cu) ∧ w'.cell? ⟨b, o + 1, none⟩ = some (.func (.func kv) #[] cv) ∧ w'.cell? ⟨w.heap.size, 0, none⟩ = some (.int .i64 3))
    (first
      | (with_reducible exact ⟨E1.out.cell_some h1 id, E1.out.cell_some h2 id, E2.out.cell_some D0.out id⟩)
      | (with_reducible exact ⟨E0.out.cell_some h1 id, E0.out.cell_some h2 id, ((Ext.refl (S := fun _ => False) _).drew).cell_some D0.out id⟩)
      | (go_keep; done))
    (first
      | (go_at_call 158; refine (v_mtwo3 _ _ _ _ _ (M.out.1.ext E0.out) (M.out.2.ext E0.out)).mono ?_; rintro e w2 ⟨⟨v2, rfl, hm⟩, hb⟩; have E2 := hid ((Ext.refl (S := fun _ => False) _).drew.trans (Ext.of_below hb)); have E1 := hid (E0.out.trans (Ext.of_below hb)); have HM := hid (hm.mono (T := fun b => S b ∨ w.heap.size ≤ b) (fun b h => h.imp id fun h => Nat.le_trans E0.out.size h)); clear hb hm))
  go_wp2_with fail
  go_ret
  exact ⟨⟨_, rfl, HM.out⟩, E1.out.below (Below.refl _ _) (fun _ _ => id)⟩

set_option maxRecDepth 100000 in
set_option maxHeartbeats 2000000 in
theorem v_mof4 {S : Nat → Prop} (n : Int) (s : ByteArray) (b o c : Nat) (u v : Value) (g k : (ByteArray → Int) → Int) (w : World) (h1 : w.cell? ⟨b, o, none⟩ = some u) (h2 : w.cell? ⟨b, o + 1, none⟩ = some v) (m1 : Mean S w u g) (m2 : Mean S w v k) :
    Calls Tryz.prog 94 #[.agg #[.int .i64 4, .int .i64 n, .string s], .slice (some ⟨b, o, none⟩) 2 c] w fun e w' => SomeMean (fun b => S b ∨ w.heap.size ≤ b) (fun f => compV 4 [g f, k f]) e w' ∧ Below w.heap.size w w' := by
  have M := hid (And.intro m1 m2)
  obtain ⟨ku, cu, rfl, _, _⟩ := m1
  obtain ⟨kv, cv, rfl, _, _⟩ := m2
  have hb : b < w.heap.size := World.block_lt_of_cell? _ _ h1
  have E0 := hid (((Ext.refl (S := fun _ => False) w).alloc (.cells #[.int .i64 4, .int .i64 n, .string s] 78)).drew)
  have d0 : (w.alloc (.cells #[.int .i64 4, .int .i64 n, .string s] 78)).cell? ⟨w.heap.size, 0, none⟩ = some (.int .i64 4) := by rw [cell_of_row _ _ _ _ _ _ (heap_new w _)]; rfl
  have D0 := hid d0
  clear d0
  go_enter Tryz.func94, Tryz.ntmps94
  go_wp2_with fail
  go_region_held3 (fun w' => w'.cell? ⟨b, o, none⟩ = some (.func (.func ku) #[] cu) ∧ w'.cell? ⟨b, o + 1, none⟩ = some (.func (.func kv) #[] cv) ∧ w'.cell? ⟨w.heap.size, 0, none⟩ = some (.int .i64 4))
    (first
      | (with_reducible exact ⟨E1.out.cell_some h1 id, E1.out.cell_some h2 id, E2.out.cell_some D0.out id⟩)
      | (with_reducible exact ⟨E0.out.cell_some h1 id, E0.out.cell_some h2 id, ((Ext.refl (S := fun _ => False) _).drew).cell_some D0.out id⟩)
      | (go_keep; done))
    (first
      | (go_at_call 158; refine (v_mtwo4 _ _ _ _ _ (M.out.1.ext E0.out) (M.out.2.ext E0.out)).mono ?_; rintro e w2 ⟨⟨v2, rfl, hm⟩, hb⟩; have E2 := hid ((Ext.refl (S := fun _ => False) _).drew.trans (Ext.of_below hb)); have E1 := hid (E0.out.trans (Ext.of_below hb)); have HM := hid (hm.mono (T := fun b => S b ∨ w.heap.size ≤ b) (fun b h => h.imp id fun h => Nat.le_trans E0.out.size h)); clear hb hm))
  go_wp2_with fail
  go_ret
  exact ⟨⟨_, rfl, HM.out⟩, E1.out.below (Below.refl _ _) (fun _ _ => id)⟩

set_option maxRecDepth 100000 in
set_option maxHeartbeats 2000000 in
theorem v_mof5 {S : Nat → Prop} (n : Int) (s : ByteArray) (b o c : Nat) (u v : Value) (g k : (ByteArray → Int) → Int) (w : World) (h1 : w.cell? ⟨b, o, none⟩ = some u) (h2 : w.cell? ⟨b, o + 1, none⟩ = some v) (m1 : Mean S w u g) (m2 : Mean S w v k) :
    Calls Tryz.prog 94 #[.agg #[.int .i64 5, .int .i64 n, .string s], .slice (some ⟨b, o, none⟩) 2 c] w fun e w' => SomeMean (fun b => S b ∨ w.heap.size ≤ b) (fun f => compV 5 [g f, k f]) e w' ∧ Below w.heap.size w w' := by
  have M := hid (And.intro m1 m2)
  obtain ⟨ku, cu, rfl, _, _⟩ := m1
  obtain ⟨kv, cv, rfl, _, _⟩ := m2
  have hb : b < w.heap.size := World.block_lt_of_cell? _ _ h1
  have E0 := hid (((Ext.refl (S := fun _ => False) w).alloc (.cells #[.int .i64 5, .int .i64 n, .string s] 78)).drew)
  have d0 : (w.alloc (.cells #[.int .i64 5, .int .i64 n, .string s] 78)).cell? ⟨w.heap.size, 0, none⟩ = some (.int .i64 5) := by rw [cell_of_row _ _ _ _ _ _ (heap_new w _)]; rfl
  have D0 := hid d0
  clear d0
  go_enter Tryz.func94, Tryz.ntmps94
  go_wp2_with fail
  go_region_held3 (fun w' => w'.cell? ⟨b, o, none⟩ = some (.func (.func ku) #[] cu) ∧ w'.cell? ⟨b, o + 1, none⟩ = some (.func (.func kv) #[] cv) ∧ w'.cell? ⟨w.heap.size, 0, none⟩ = some (.int .i64 5))
    (first
      | (with_reducible exact ⟨E1.out.cell_some h1 id, E1.out.cell_some h2 id, E2.out.cell_some D0.out id⟩)
      | (with_reducible exact ⟨E0.out.cell_some h1 id, E0.out.cell_some h2 id, ((Ext.refl (S := fun _ => False) _).drew).cell_some D0.out id⟩)
      | (go_keep; done))
    (first
      | (go_at_call 158; refine (v_mtwo5 _ _ _ _ _ (M.out.1.ext E0.out) (M.out.2.ext E0.out)).mono ?_; rintro e w2 ⟨⟨v2, rfl, hm⟩, hb⟩; have E2 := hid ((Ext.refl (S := fun _ => False) _).drew.trans (Ext.of_below hb)); have E1 := hid (E0.out.trans (Ext.of_below hb)); have HM := hid (hm.mono (T := fun b => S b ∨ w.heap.size ≤ b) (fun b h => h.imp id fun h => Nat.le_trans E0.out.size h)); clear hb hm))
  go_wp2_with fail
  go_ret
  exact ⟨⟨_, rfl, HM.out⟩, E1.out.below (Below.refl _ _) (fun _ _ => id)⟩

set_option maxRecDepth 100000 in
set_option maxHeartbeats 2000000 in
theorem v_mof6 {S : Nat → Prop} (n : Int) (s : ByteArray) (b o c : Nat) (u v : Value) (g k : (ByteArray → Int) → Int) (w : World) (h1 : w.cell? ⟨b, o, none⟩ = some u) (h2 : w.cell? ⟨b, o + 1, none⟩ = some v) (m1 : Mean S w u g) (m2 : Mean S w v k) :
    Calls Tryz.prog 94 #[.agg #[.int .i64 6, .int .i64 n, .string s], .slice (some ⟨b, o, none⟩) 2 c] w fun e w' => SomeMean (fun b => S b ∨ w.heap.size ≤ b) (fun f => compV 6 [g f, k f]) e w' ∧ Below w.heap.size w w' := by
  have M := hid (And.intro m1 m2)
  obtain ⟨ku, cu, rfl, _, _⟩ := m1
  obtain ⟨kv, cv, rfl, _, _⟩ := m2
  have hb : b < w.heap.size := World.block_lt_of_cell? _ _ h1
  have E0 := hid (((Ext.refl (S := fun _ => False) w).alloc (.cells #[.int .i64 6, .int .i64 n, .string s] 78)).drew)
  have d0 : (w.alloc (.cells #[.int .i64 6, .int .i64 n, .string s] 78)).cell? ⟨w.heap.size, 0, none⟩ = some (.int .i64 6) := by rw [cell_of_row _ _ _ _ _ _ (heap_new w _)]; rfl
  have D0 := hid d0
  clear d0
  go_enter Tryz.func94, Tryz.ntmps94
  go_wp2_with fail
  go_region_held3 (fun w' => w'.cell? ⟨b, o, none⟩ = some (.func (.func ku) #[] cu) ∧ w'.cell? ⟨b, o + 1, none⟩ = some (.func (.func kv) #[] cv) ∧ w'.cell? ⟨w.heap.size, 0, none⟩ = some (.int .i64 6))
    (first
      | (with_reducible exact ⟨E1.out.cell_some h1 id, E1.out.cell_some h2 id, E2.out.cell_some D0.out id⟩)
      | (with_reducible exact ⟨E0.out.cell_some h1 id, E0.out.cell_some h2 id, ((Ext.refl (S := fun _ => False) _).drew).cell_some D0.out id⟩)
      | (go_keep; done))
    (first
      | (go_at_call 158; refine (v_mtwo6 _ _ _ _ _ (M.out.1.ext E0.out) (M.out.2.ext E0.out)).mono ?_; rintro e w2 ⟨⟨v2, rfl, hm⟩, hb⟩; have E2 := hid ((Ext.refl (S := fun _ => False) _).drew.trans (Ext.of_below hb)); have E1 := hid (E0.out.trans (Ext.of_below hb)); have HM := hid (hm.mono (T := fun b => S b ∨ w.heap.size ≤ b) (fun b h => h.imp id fun h => Nat.le_trans E0.out.size h)); clear hb hm))
  go_wp2_with fail
  go_ret
  exact ⟨⟨_, rfl, HM.out⟩, E1.out.below (Below.refl _ _) (fun _ _ => id)⟩

set_option maxRecDepth 100000 in
set_option maxHeartbeats 2000000 in
theorem v_mof7 {S : Nat → Prop} (n : Int) (s : ByteArray) (b o c : Nat) (u v : Value) (g k : (ByteArray → Int) → Int) (w : World) (h1 : w.cell? ⟨b, o, none⟩ = some u) (h2 : w.cell? ⟨b, o + 1, none⟩ = some v) (m1 : Mean S w u g) (m2 : Mean S w v k) :
    Calls Tryz.prog 94 #[.agg #[.int .i64 7, .int .i64 n, .string s], .slice (some ⟨b, o, none⟩) 2 c] w fun e w' => SomeMean (fun b => S b ∨ w.heap.size ≤ b) (fun f => compV 7 [g f, k f]) e w' ∧ Below w.heap.size w w' := by
  have M := hid (And.intro m1 m2)
  obtain ⟨ku, cu, rfl, _, _⟩ := m1
  obtain ⟨kv, cv, rfl, _, _⟩ := m2
  have hb : b < w.heap.size := World.block_lt_of_cell? _ _ h1
  have E0 := hid (((Ext.refl (S := fun _ => False) w).alloc (.cells #[.int .i64 7, .int .i64 n, .string s] 78)).drew)
  have d0 : (w.alloc (.cells #[.int .i64 7, .int .i64 n, .string s] 78)).cell? ⟨w.heap.size, 0, none⟩ = some (.int .i64 7) := by rw [cell_of_row _ _ _ _ _ _ (heap_new w _)]; rfl
  have D0 := hid d0
  clear d0
  go_enter Tryz.func94, Tryz.ntmps94
  go_wp2_with fail
  go_region_held3 (fun w' => w'.cell? ⟨b, o, none⟩ = some (.func (.func ku) #[] cu) ∧ w'.cell? ⟨b, o + 1, none⟩ = some (.func (.func kv) #[] cv) ∧ w'.cell? ⟨w.heap.size, 0, none⟩ = some (.int .i64 7))
    (first
      | (with_reducible exact ⟨E1.out.cell_some h1 id, E1.out.cell_some h2 id, E2.out.cell_some D0.out id⟩)
      | (with_reducible exact ⟨E0.out.cell_some h1 id, E0.out.cell_some h2 id, ((Ext.refl (S := fun _ => False) _).drew).cell_some D0.out id⟩)
      | (go_keep; done))
    (first
      | (go_at_call 158; refine (v_mtwo7 _ _ _ _ _ (M.out.1.ext E0.out) (M.out.2.ext E0.out)).mono ?_; rintro e w2 ⟨⟨v2, rfl, hm⟩, hb⟩; have E2 := hid ((Ext.refl (S := fun _ => False) _).drew.trans (Ext.of_below hb)); have E1 := hid (E0.out.trans (Ext.of_below hb)); have HM := hid (hm.mono (T := fun b => S b ∨ w.heap.size ≤ b) (fun b h => h.imp id fun h => Nat.le_trans E0.out.size h)); clear hb hm))
  go_wp2_with fail
  go_ret
  exact ⟨⟨_, rfl, HM.out⟩, E1.out.below (Below.refl _ _) (fun _ _ => id)⟩

set_option maxRecDepth 100000 in
set_option maxHeartbeats 2000000 in
theorem v_mof9 {S : Nat → Prop} (n : Int) (s : ByteArray) (b o c : Nat) (u v t : Value) (g k l : (ByteArray → Int) → Int) (w : World) (h1 : w.cell? ⟨b, o, none⟩ = some u) (h2 : w.cell? ⟨b, o + 1, none⟩ = some v) (h3 : w.cell? ⟨b, o + 2, none⟩ = some t) (m1 : Mean S w u g) (m2 : Mean S w v k) (m3 : Mean S w t l) :
    Calls Tryz.prog 94 #[.agg #[.int .i64 9, .int .i64 n, .string s], .slice (some ⟨b, o, none⟩) 3 c] w fun e w' => SomeMean (fun b => S b ∨ w.heap.size ≤ b) (fun f => compV 9 [g f, k f, l f]) e w' ∧ Below w.heap.size w w' := by
  have M := hid (And.intro m1 (And.intro m2 m3))
  obtain ⟨ku, cu, rfl, _, _⟩ := m1
  obtain ⟨kv, cv, rfl, _, _⟩ := m2
  obtain ⟨kt, ct, rfl, _, _⟩ := m3
  have hb : b < w.heap.size := World.block_lt_of_cell? _ _ h1
  have E0 := hid (((Ext.refl (S := fun _ => False) w).alloc (.cells #[.int .i64 9, .int .i64 n, .string s] 78)).drew)
  go_enter Tryz.func94, Tryz.ntmps94
  go_wp2_with fail
  go_region_held3 (fun w' => w'.cell? ⟨b, o, none⟩ = some (.func (.func ku) #[] cu) ∧ w'.cell? ⟨b, o + 1, none⟩ = some (.func (.func kv) #[] cv) ∧ w'.cell? ⟨b, o + 2, none⟩ = some (.func (.func kt) #[] ct))
    (first
      | (with_reducible exact ⟨E1.out.cell_some h1 id, E1.out.cell_some h2 id, E1.out.cell_some h3 id⟩)
      | (with_reducible exact ⟨E0.out.cell_some h1 id, E0.out.cell_some h2 id, E0.out.cell_some h3 id⟩)
      | (go_keep; done))
    (first
      | (go_at_call 157; refine (v_choice _ _ _ _ _ _ _ (M.out.1.ext E0.out) (M.out.2.1.ext E0.out) (M.out.2.2.ext E0.out)).mono ?_; rintro e w2 ⟨⟨v2, rfl, hm⟩, hb⟩; have E1 := hid (E0.out.trans (Ext.of_below hb)); have HM := hid (hm.mono (T := fun b => S b ∨ w.heap.size ≤ b) (fun b h => h.imp id fun h => Nat.le_trans E0.out.size h)); clear hb hm))
  go_wp2_with fail
  go_ret
  exact ⟨⟨_, rfl, HM.out⟩, E1.out.below (Below.refl _ _) (fun _ _ => id)⟩
end Go.Proofs.YtkgciohebloffaaGreat
