/- Texts joined: Mean. -/
import Derived.Test.YtkgciohebloffaaGreatJS23
import Derived.Test.YtkgciohebloffaaGreatJS18
import Derived.Test.YtkgciohebloffaaGreatJS13
import Derived.Deep.RegionHeld3
/- Meanings: function values that tell what an expression is worth, if a lookup tells its variables. -/
namespace Go.Proofs.YtkgciohebloffaaGreat
open Go.RowKit

def Enters (k : Nat) : Prop := ∀ (args : Array Value) (W : World), (callFunc k args).run Tryz.prog W = .ok (.enter k args) W
/-- A function value that tells the values of variables. -/
def OfOk (w : World) (of : Value) (f : ByteArray → Int) : Prop :=
  ∃ k caps, of = .func (.func k) #[] caps ∧ Enters k ∧ (∀ s, V999 (f s)) ∧ ∀ W : World, Ext (fun _ => False) w W → ∀ s : ByteArray,
    Calls Tryz.prog k (#[.string s] ++ caps) W fun e w' => e = .returned (.int .i64 (f s)) ∧ Below W.heap.size W w'
/-- The blocks of S that there were are as they were. -/
def Agree (S : Nat → Prop) (w W : World) : Prop := w.heap.size ≤ W.heap.size ∧ ∀ b, S b → b < w.heap.size → W.heap[b]? = w.heap[b]?
theorem Agree.of_ext {S T : Nat → Prop} {w W : World} (e : Ext T w W) (h : ∀ b, S b → ¬ T b := by exact fun _ _ => id) : Agree S w W := ⟨e.size, fun b hb hlt => e.block b hlt (h b hb)⟩
theorem Agree.trans {S : Nat → Prop} {a b c : World} (h : Agree S a b) (k : Agree S b c) : Agree S a c := ⟨Nat.le_trans h.1 k.1, fun i hi hlt => (k.2 i hi (Nat.lt_of_lt_of_le hlt h.1)).trans (h.2 i hi hlt)⟩
theorem Agree.cell {S : Nat → Prop} {w W : World} (h : Agree S w W) {p : Addr} {v : Value} (hv : w.cell? p = some v) (hs : S p.block) : W.cell? p = some v :=
  (World.cell?_of_block (w := w) (h.2 p.block hs (World.block_lt_of_cell? _ _ hv))).trans hv
/-- A function value that tells what an expression is worth, by what lies in the blocks S. -/
def Mean (S : Nat → Prop) (w : World) (v : Value) (g : (ByteArray → Int) → Int) : Prop :=
  ∃ k caps, v = .func (.func k) #[] caps ∧ Enters k ∧ ∀ (of : Value) (f : ByteArray → Int) (W : World), Agree S w W → OfOk W of f → V999 (g f) ∧
    Calls Tryz.prog k (#[of] ++ caps) W fun e w' => e = .returned (.int .i64 (g f)) ∧ Below W.heap.size W w'
theorem OfOk.ext {w w' : World} {of : Value} {f : ByteArray → Int} (h : OfOk w of f) (e : Ext (fun _ => False) w w') : OfOk w' of f := by
  obtain ⟨k, caps, h1, h2, h3, h4⟩ := h
  exact ⟨k, caps, h1, h2, h3, fun W hW => h4 W (e.trans hW)⟩
theorem Mean.agree {S : Nat → Prop} {w w' : World} {v : Value} {g : (ByteArray → Int) → Int} (h : Mean S w v g) (e : Agree S w w') : Mean S w' v g := by
  obtain ⟨k, caps, h1, h2, h3⟩ := h
  exact ⟨k, caps, h1, h2, fun of f W hW => h3 of f W (e.trans hW)⟩
theorem Mean.ext {S : Nat → Prop} {w w' : World} {v : Value} {g : (ByteArray → Int) → Int} (h : Mean S w v g) (e : Ext (fun _ => False) w w') : Mean S w' v g := h.agree (.of_ext e)
theorem Mean.mono {S T : Nat → Prop} {w : World} {v : Value} {g : (ByteArray → Int) → Int} (h : Mean S w v g) (hs : ∀ b, S b → T b) : Mean T w v g := by
  obtain ⟨k, caps, h1, h2, h3⟩ := h
  exact ⟨k, caps, h1, h2, fun of f W hW => h3 of f W ⟨hW.1, fun b hb => hW.2 b (hs b hb)⟩⟩

def trB (b : Bool) : Int := if b = true then 1 else 0
theorem v_truth_t (b : Bool) (w : World) : Calls Tryz.prog 156 #[.bool b] w fun e w' => e = .returned (.int .i64 (trB b)) ∧ w = w' := v_truth b w
set_option maxHeartbeats 1000000 in
theorem m_one (b : Nat) (n : Int) (of : Value) (w : World) (h : w.cell? ⟨b, 1, none⟩ = some (.int .i64 n)) :
    Calls Tryz.prog 153 #[of, .pointer (some ⟨b, 0, none⟩)] w fun e w' => e = .returned (.int .i64 n) ∧ Below w.heap.size w w' := by
  go_enter Tryz.func153, Tryz.ntmps153
  go_wp2
  go_ret
  exact ⟨rfl, Below.refl _ _⟩
set_option maxHeartbeats 1000000 in
theorem m_var (b : Nat) (s : ByteArray) (of : Value) (f : ByteArray → Int) (w : World) (h : w.cell? ⟨b, 2, none⟩ = some (.string s)) (hof : OfOk w of f) :
    Calls Tryz.prog 154 #[of, .pointer (some ⟨b, 0, none⟩)] w fun e w' => e = .returned (.int .i64 (f s)) ∧ Below w.heap.size w w' := by
  obtain ⟨k, caps, rfl, hk, _, hc⟩ := hof
  have hc' := hid (hc w (Ext.refl _) s)
  unfold Enters at hk
  clear hc
  go_enter Tryz.func154, Tryz.ntmps154
  go_wp2_with fail
  refine hc'.out.mono ?_
  rintro e w2 ⟨rfl, hb⟩
  have HB := hid hb
  clear hb
  go_wp2_with fail
  go_ret
  exact ⟨rfl, HB.out⟩
set_option maxHeartbeats 1000000 in
theorem m_not (b : Nat) (v of : Value) (g : (ByteArray → Int) → Int) (f : ByteArray → Int) (w : World) (h : w.cell? ⟨b, 0, none⟩ = some v) {S : Nat → Prop} (hm : Mean S w v g) (hof : OfOk w of f) :
    Calls Tryz.prog 155 #[of, .pointer (some ⟨b, 0, none⟩)] w fun e w' => e = .returned (.int .i64 (compV 8 [g f])) ∧ Below w.heap.size w w' := by
  obtain ⟨k, caps, rfl, hk, hc⟩ := hm
  have hc' := hid (hc of f w (.of_ext (Ext.refl _)) hof).2
  unfold Enters at hk
  clear hc hof
  generalize g f = r at *
  have HG : Hid (compV 8 [r] = trB (r == 0)) := hid (by show tr (r = 0) = _; unfold tr trB; simp)
  go_enter Tryz.func155, Tryz.ntmps155
  go_wp2_with fail
  refine hc'.out.mono ?_
  rintro e w2 ⟨rfl, hb⟩
  have HB := hid hb
  clear hb
  go_wp2_with fail
  refine (v_truth_t _ _).mono ?_
  rintro e w3 ⟨rfl, rfl⟩
  go_wp2_with fail
  go_ret
  exact ⟨ret_int HG.out.symm, HB.out⟩

-- TWO

set_option maxRecDepth 100000 in
set_option maxHeartbeats 2000000 in
theorem m_two3 (bx bY : Nat) (vx vy of : Value) (gx gy : (ByteArray → Int) → Int) (f : ByteArray → Int) (w : World) (h1 : w.cell? ⟨bx, 0, none⟩ = some vx) (h2 : w.cell? ⟨bY, 0, none⟩ = some vy) {S : Nat → Prop} (mx : Mean S w vx gx) (my : Mean S w vy gy) (hof : OfOk w of f) :
    Calls Tryz.prog 193 #[of, .pointer (some ⟨bx, 0, none⟩), .pointer (some ⟨bY, 0, none⟩)] w fun e w' => e = .returned (.int .i64 (compV 3 [gx f, gy f])) ∧ Below w.heap.size w w' := by
  obtain ⟨kx, cx, rfl, ex, hx⟩ := mx
  obtain ⟨ky, cy, rfl, ey, hy⟩ := my
  have HX := hid (fun W e => hx of f W (.of_ext e) (hof.ext e))
  have HY := hid (fun W e => hy of f W (.of_ext e) (hof.ext e))
  obtain ⟨x0, x1⟩ := (HX.out w (Ext.refl _)).1
  obtain ⟨y0, y1⟩ := (HY.out w (Ext.refl _)).1
  unfold Enters at ex ey
  clear hx hy hof
  generalize gx f = x at *
  generalize gy f = y at *
  have HC : Hid (compV 3 [x, y] = (x + y) % 1000) := hid (rfl)
  have l1 : IntKind.i64.wrap (x + y) = x + y := IntWalk.i64_in _ (by omega)
  have l2 : (x + y).tmod 1000 = (x + y) % 1000 := Int.tmod_eq_emod_of_nonneg (by omega)
  have l3 : IntKind.i64.wrap ((x + y) % 1000) = (x + y) % 1000 := IntWalk.i64_in _ (by omega)
  go_enter Tryz.func193, Tryz.ntmps193
  go_wp2_with fail
  go_region_held3 (fun w' => w'.cell? ⟨bx, 0, none⟩ = some (.func (.func kx) #[] cx) ∧ w'.cell? ⟨bY, 0, none⟩ = some (.func (.func ky) #[] cy))
    (first
      | (with_reducible exact ⟨E2.out.cell_some h1 id, E2.out.cell_some h2 id⟩)
      | (with_reducible exact ⟨E1.out.cell_some h1 id, E1.out.cell_some h2 id⟩)
      | (go_keep; done))
    (first
      | (go_at_fn kx; refine ((HX.out _ (Ext.refl w).drew).2).mono ?_; rintro e w2 ⟨rfl, hb⟩; have E1 := hid ((Ext.refl (S := fun _ => False) w).drew.trans (Ext.of_below hb)); clear hb)
      | (go_at_fn ky; refine ((HY.out _ E1.out).2).mono ?_; rintro e w3 ⟨rfl, hb⟩; have E2 := hid (E1.out.trans (Ext.of_below hb)); clear hb))
  all_goals
    go_wp2_with fail
    go_ret
    exact ⟨ret_int HC.out.symm, E2.out.below (Below.refl _ _) (fun _ _ => id)⟩

set_option maxRecDepth 100000 in
set_option maxHeartbeats 2000000 in
theorem m_two4 (bx bY : Nat) (vx vy of : Value) (gx gy : (ByteArray → Int) → Int) (f : ByteArray → Int) (w : World) (h1 : w.cell? ⟨bx, 0, none⟩ = some vx) (h2 : w.cell? ⟨bY, 0, none⟩ = some vy) {S : Nat → Prop} (mx : Mean S w vx gx) (my : Mean S w vy gy) (hof : OfOk w of f) :
    Calls Tryz.prog 194 #[of, .pointer (some ⟨bx, 0, none⟩), .pointer (some ⟨bY, 0, none⟩)] w fun e w' => e = .returned (.int .i64 (compV 4 [gx f, gy f])) ∧ Below w.heap.size w w' := by
  obtain ⟨kx, cx, rfl, ex, hx⟩ := mx
  obtain ⟨ky, cy, rfl, ey, hy⟩ := my
  have HX := hid (fun W e => hx of f W (.of_ext e) (hof.ext e))
  have HY := hid (fun W e => hy of f W (.of_ext e) (hof.ext e))
  obtain ⟨x0, x1⟩ := (HX.out w (Ext.refl _)).1
  obtain ⟨y0, y1⟩ := (HY.out w (Ext.refl _)).1
  unfold Enters at ex ey
  clear hx hy hof
  generalize gx f = x at *
  generalize gy f = y at *
  have HC : Hid (compV 4 [x, y] = (x - y) % 1000) := hid (by show (x - y + 1000) % 1000 = _; omega)
  have l0 : IntKind.i64.wrap (x - y) = x - y := IntWalk.i64_in _ (by omega)
  have l1 : IntKind.i64.wrap (x - y + 1000) = x - y + 1000 := IntWalk.i64_in _ (by omega)
  have l2 : (x - y + 1000).tmod 1000 = (x - y + 1000) % 1000 := Int.tmod_eq_emod_of_nonneg (by omega)
  have l3 : IntKind.i64.wrap ((x - y + 1000) % 1000) = (x - y + 1000) % 1000 := IntWalk.i64_in _ (by omega)
  go_enter Tryz.func194, Tryz.ntmps194
  go_wp2_with fail
  go_region_held3 (fun w' => w'.cell? ⟨bx, 0, none⟩ = some (.func (.func kx) #[] cx) ∧ w'.cell? ⟨bY, 0, none⟩ = some (.func (.func ky) #[] cy))
    (first
      | (with_reducible exact ⟨E2.out.cell_some h1 id, E2.out.cell_some h2 id⟩)
      | (with_reducible exact ⟨E1.out.cell_some h1 id, E1.out.cell_some h2 id⟩)
      | (go_keep; done))
    (first
      | (go_at_fn kx; refine ((HX.out _ (Ext.refl w).drew).2).mono ?_; rintro e w2 ⟨rfl, hb⟩; have E1 := hid ((Ext.refl (S := fun _ => False) w).drew.trans (Ext.of_below hb)); clear hb)
      | (go_at_fn ky; refine ((HY.out _ E1.out).2).mono ?_; rintro e w3 ⟨rfl, hb⟩; have E2 := hid (E1.out.trans (Ext.of_below hb)); clear hb))
  all_goals
    go_wp2_with fail
    go_ret
    exact ⟨ret_int HC.out.symm, E2.out.below (Below.refl _ _) (fun _ _ => id)⟩

set_option maxRecDepth 100000 in
set_option maxHeartbeats 2000000 in
theorem m_two5 (bx bY : Nat) (vx vy of : Value) (gx gy : (ByteArray → Int) → Int) (f : ByteArray → Int) (w : World) (h1 : w.cell? ⟨bx, 0, none⟩ = some vx) (h2 : w.cell? ⟨bY, 0, none⟩ = some vy) {S : Nat → Prop} (mx : Mean S w vx gx) (my : Mean S w vy gy) (hof : OfOk w of f) :
    Calls Tryz.prog 195 #[of, .pointer (some ⟨bx, 0, none⟩), .pointer (some ⟨bY, 0, none⟩)] w fun e w' => e = .returned (.int .i64 (compV 5 [gx f, gy f])) ∧ Below w.heap.size w w' := by
  obtain ⟨kx, cx, rfl, ex, hx⟩ := mx
  obtain ⟨ky, cy, rfl, ey, hy⟩ := my
  have HX := hid (fun W e => hx of f W (.of_ext e) (hof.ext e))
  have HY := hid (fun W e => hy of f W (.of_ext e) (hof.ext e))
  obtain ⟨x0, x1⟩ := (HX.out w (Ext.refl _)).1
  obtain ⟨y0, y1⟩ := (HY.out w (Ext.refl _)).1
  unfold Enters at ex ey
  clear hx hy hof
  generalize gx f = x at *
  generalize gy f = y at *
  have HC : Hid (compV 5 [x, y] = (x * y) % 1000) := hid (rfl)
  obtain ⟨p1, p2⟩ := mul_in x0 x1 y0 y1
  have l1 : IntKind.i64.wrap (x * y) = x * y := IntWalk.i64_in _ (by omega)
  have l2 : (x * y).tmod 1000 = (x * y) % 1000 := Int.tmod_eq_emod_of_nonneg (by omega)
  have l3 : IntKind.i64.wrap ((x * y) % 1000) = (x * y) % 1000 := IntWalk.i64_in _ (by omega)
  go_enter Tryz.func195, Tryz.ntmps195
  go_wp2_with fail
  go_region_held3 (fun w' => w'.cell? ⟨bx, 0, none⟩ = some (.func (.func kx) #[] cx) ∧ w'.cell? ⟨bY, 0, none⟩ = some (.func (.func ky) #[] cy))
    (first
      | (with_reducible exact ⟨E2.out.cell_some h1 id, E2.out.cell_some h2 id⟩)
      | (with_reducible exact ⟨E1.out.cell_some h1 id, E1.out.cell_some h2 id⟩)
      | (go_keep; done))
    (first
      | (go_at_fn kx; refine ((HX.out _ (Ext.refl w).drew).2).mono ?_; rintro e w2 ⟨rfl, hb⟩; have E1 := hid ((Ext.refl (S := fun _ => False) w).drew.trans (Ext.of_below hb)); clear hb)
      | (go_at_fn ky; refine ((HY.out _ E1.out).2).mono ?_; rintro e w3 ⟨rfl, hb⟩; have E2 := hid (E1.out.trans (Ext.of_below hb)); clear hb))
  all_goals
    go_wp2_with fail
    go_ret
    exact ⟨ret_int HC.out.symm, E2.out.below (Below.refl _ _) (fun _ _ => id)⟩

set_option maxRecDepth 100000 in
set_option maxHeartbeats 2000000 in
theorem m_two6 (bx bY : Nat) (vx vy of : Value) (gx gy : (ByteArray → Int) → Int) (f : ByteArray → Int) (w : World) (h1 : w.cell? ⟨bx, 0, none⟩ = some vx) (h2 : w.cell? ⟨bY, 0, none⟩ = some vy) {S : Nat → Prop} (mx : Mean S w vx gx) (my : Mean S w vy gy) (hof : OfOk w of f) :
    Calls Tryz.prog 196 #[of, .pointer (some ⟨bx, 0, none⟩), .pointer (some ⟨bY, 0, none⟩)] w fun e w' => e = .returned (.int .i64 (compV 6 [gx f, gy f])) ∧ Below w.heap.size w w' := by
  obtain ⟨kx, cx, rfl, ex, hx⟩ := mx
  obtain ⟨ky, cy, rfl, ey, hy⟩ := my
  have HX := hid (fun W e => hx of f W (.of_ext e) (hof.ext e))
  have HY := hid (fun W e => hy of f W (.of_ext e) (hof.ext e))
  obtain ⟨x0, x1⟩ := (HX.out w (Ext.refl _)).1
  obtain ⟨y0, y1⟩ := (HY.out w (Ext.refl _)).1
  unfold Enters at ex ey
  clear hx hy hof
  generalize gx f = x at *
  generalize gy f = y at *
  have HC : Hid (compV 6 [x, y] = trB (decide (x < y))) := hid (by show tr (x < y) = _; unfold tr trB; simp)
  go_enter Tryz.func196, Tryz.ntmps196
  go_wp2_with fail
  go_region_held3 (fun w' => w'.cell? ⟨bx, 0, none⟩ = some (.func (.func kx) #[] cx) ∧ w'.cell? ⟨bY, 0, none⟩ = some (.func (.func ky) #[] cy))
    (first
      | (with_reducible exact ⟨E2.out.cell_some h1 id, E2.out.cell_some h2 id⟩)
      | (with_reducible exact ⟨E1.out.cell_some h1 id, E1.out.cell_some h2 id⟩)
      | (go_keep; done))
    (first
      | (go_at_fn kx; refine ((HX.out _ (Ext.refl w).drew).2).mono ?_; rintro e w2 ⟨rfl, hb⟩; have E1 := hid ((Ext.refl (S := fun _ => False) w).drew.trans (Ext.of_below hb)); clear hb)
      | (go_at_fn ky; refine ((HY.out _ E1.out).2).mono ?_; rintro e w3 ⟨rfl, hb⟩; have E2 := hid (E1.out.trans (Ext.of_below hb)); clear hb)
      | (go_at_call 156; refine (v_truth_t _ _).mono ?_; rintro e w4 ⟨rfl, rfl⟩))
  all_goals
    go_wp2_with fail
    go_ret
    exact ⟨ret_int HC.out.symm, E2.out.below (Below.refl _ _) (fun _ _ => id)⟩

set_option maxRecDepth 100000 in
set_option maxHeartbeats 2000000 in
theorem m_two7 (bx bY : Nat) (vx vy of : Value) (gx gy : (ByteArray → Int) → Int) (f : ByteArray → Int) (w : World) (h1 : w.cell? ⟨bx, 0, none⟩ = some vx) (h2 : w.cell? ⟨bY, 0, none⟩ = some vy) {S : Nat → Prop} (mx : Mean S w vx gx) (my : Mean S w vy gy) (hof : OfOk w of f) :
    Calls Tryz.prog 197 #[of, .pointer (some ⟨bx, 0, none⟩), .pointer (some ⟨bY, 0, none⟩)] w fun e w' => e = .returned (.int .i64 (compV 7 [gx f, gy f])) ∧ Below w.heap.size w w' := by
  obtain ⟨kx, cx, rfl, ex, hx⟩ := mx
  obtain ⟨ky, cy, rfl, ey, hy⟩ := my
  have HX := hid (fun W e => hx of f W (.of_ext e) (hof.ext e))
  have HY := hid (fun W e => hy of f W (.of_ext e) (hof.ext e))
  obtain ⟨x0, x1⟩ := (HX.out w (Ext.refl _)).1
  obtain ⟨y0, y1⟩ := (HY.out w (Ext.refl _)).1
  unfold Enters at ex ey
  clear hx hy hof
  generalize gx f = x at *
  generalize gy f = y at *
  have HC : Hid (compV 7 [x, y] = trB (x == y)) := hid (by show tr (x = y) = _; unfold tr trB; simp)
  go_enter Tryz.func197, Tryz.ntmps197
  go_wp2_with fail
  go_region_held3 (fun w' => w'.cell? ⟨bx, 0, none⟩ = some (.func (.func kx) #[] cx) ∧ w'.cell? ⟨bY, 0, none⟩ = some (.func (.func ky) #[] cy))
    (first
      | (with_reducible exact ⟨E2.out.cell_some h1 id, E2.out.cell_some h2 id⟩)
      | (with_reducible exact ⟨E1.out.cell_some h1 id, E1.out.cell_some h2 id⟩)
      | (go_keep; done))
    (first
      | (go_at_fn kx; refine ((HX.out _ (Ext.refl w).drew).2).mono ?_; rintro e w2 ⟨rfl, hb⟩; have E1 := hid ((Ext.refl (S := fun _ => False) w).drew.trans (Ext.of_below hb)); clear hb)
      | (go_at_fn ky; refine ((HY.out _ E1.out).2).mono ?_; rintro e w3 ⟨rfl, hb⟩; have E2 := hid (E1.out.trans (Ext.of_below hb)); clear hb)
      | (go_at_call 156; refine (v_truth_t _ _).mono ?_; rintro e w4 ⟨rfl, rfl⟩))
  all_goals
    go_wp2_with fail
    go_ret
    exact ⟨ret_int HC.out.symm, E2.out.below (Below.refl _ _) (fun _ _ => id)⟩

set_option maxRecDepth 100000 in
set_option maxHeartbeats 2000000 in
theorem m_when (bx bY bz : Nat) (vx vy vz of : Value) (gx gy gz : (ByteArray → Int) → Int) (f : ByteArray → Int) (w : World) (h1 : w.cell? ⟨bx, 0, none⟩ = some vx) (h2 : w.cell? ⟨bY, 0, none⟩ = some vy) (h3 : w.cell? ⟨bz, 0, none⟩ = some vz) {S : Nat → Prop} (mx : Mean S w vx gx) (my : Mean S w vy gy) (mz : Mean S w vz gz) (hof : OfOk w of f) :
    Calls Tryz.prog 192 #[of, .pointer (some ⟨bx, 0, none⟩), .pointer (some ⟨bY, 0, none⟩), .pointer (some ⟨bz, 0, none⟩)] w fun e w' => e = .returned (.int .i64 (compV 9 [gx f, gy f, gz f])) ∧ Below w.heap.size w w' := by
  obtain ⟨kx, cx, rfl, ex, hx⟩ := mx
  obtain ⟨ky, cy, rfl, ey, hy⟩ := my
  obtain ⟨kz, cz, rfl, ez, hz⟩ := mz
  have HX := hid (fun W e => hx of f W (.of_ext e) (hof.ext e))
  have HY := hid (fun W e => hy of f W (.of_ext e) (hof.ext e))
  have HZ := hid (fun W e => hz of f W (.of_ext e) (hof.ext e))
  unfold Enters at ex ey ez
  clear hx hy hz hof
  generalize gx f = x at *
  generalize gy f = y at *
  generalize gz f = z at *
  have HC : Hid (compV 9 [x, y, z] = if x ≠ 0 then y else z) := hid rfl
  go_enter Tryz.func192, Tryz.ntmps192
  go_wp2_with fail
  refine ((HX.out _ (Ext.refl w)).2).mono ?_
  rintro e w2 ⟨rfl, hb⟩
  have E1 := hid (Ext.of_below (S := fun _ => False) hb)
  have HB := hid hb
  clear hb
  have h2' := E1.out.cell_some h2 id
  have h3' := E1.out.cell_some h3 id
  by_cases hx0 : x = 0
  · subst hx0
    go_wp2_with fail
    refine ((HZ.out _ E1.out).2).mono ?_
    rintro e w3 ⟨rfl, hb⟩
    have HB3 := hid (HB.out.trans (hb.mono HB.out.size))
    clear hb
    go_wp2_with fail
    go_ret
    exact ⟨ret_int (by rw [HC.out]; simp), HB3.out⟩
  · have HX0 := hid hx0
    have hne : (x != 0) = true := by simpa using hx0
    clear hx0
    go_wp2_with fail
    refine ((HY.out _ E1.out).2).mono ?_
    rintro e w3 ⟨rfl, hb⟩
    have HB3 := hid (HB.out.trans (hb.mono HB.out.size))
    clear hb
    go_wp2_with fail
    go_ret
    exact ⟨ret_int (by rw [HC.out, if_pos HX0.out]), HB3.out⟩
end Go.Proofs.YtkgciohebloffaaGreat
