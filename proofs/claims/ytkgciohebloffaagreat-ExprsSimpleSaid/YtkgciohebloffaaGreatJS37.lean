/- Texts joined: VRul6, Sim. -/
import Derived.Test.YtkgciohebloffaaGreatJS25
import Derived.Test.YtkgciohebloffaaGreatJS22
import Derived.Deep.RegionHeld3
import Derived.Deep.RegionLaw
import Derived.Deep.RegionWith
import Derived.Test.YtkgciohebloffaaGreatJS13
import Derived.Test.YtkgciohebloffaaGreatJS11
import Derived.Test.YtkgciohebloffaaGreatJS23
/- negation, the program's. (Made by tools/gen/rul.py.) -/
namespace Go.Proofs.YtkgciohebloffaaGreat
open Go.RowKit

set_option maxRecDepth 100000 in
set_option maxHeartbeats 4000000 in
theorem v_negation (op n : Int) (s : ByteArray) (a : F) (p : Option Addr) (c : Nat) (fa : List Nat) (w : World) (hs : (F.cons op n s a .nil).Small) (hp : RdP w a p fa) (hac : a.len ≤ c) (hc : c ≤ 9223372036854775807) :
    Calls Tryz.prog 185 #[.agg #[.int .i64 op, .int .i64 n, .string s, .slice p a.len c]] w (GotRule fa (rule6 op a) w) := by
  have EZ := hid (((Ext.refl (S := fun _ => False) w).alloc (.cells #[.int .i64 op, .int .i64 n, .string s, .slice p a.len c] 28)).alloc (.cells #[.int .i64 0, .int .i64 0, .string ⟨#[]⟩, .slice none 0 0] 28))
  obtain ⟨HB, HR⟩ : Hid (((w.alloc (.cells #[.int .i64 op, .int .i64 n, .string s, .slice p a.len c] 28)).alloc (.cells #[.int .i64 0, .int .i64 0, .string ⟨#[]⟩, .slice none 0 0] 28)).heap[w.heap.size]? = some (.cells #[.int .i64 op, .int .i64 n, .string s, .slice p a.len c] 28 (0, 0))) ∧ Hid (((w.alloc (.cells #[.int .i64 op, .int .i64 n, .string s, .slice p a.len c] 28)).alloc (.cells #[.int .i64 0, .int .i64 0, .string ⟨#[]⟩, .slice none 0 0] 28)).heap[w.heap.size + 1]? = some (.cells #[.int .i64 0, .int .i64 0, .string ⟨#[]⟩, .slice none 0 0] 28 (0, 0))) := by
    have h1 := heap_new w (.cells #[.int .i64 op, .int .i64 n, .string s, .slice p a.len c] 28)
    have h2 := heap_new (w.alloc (.cells #[.int .i64 op, .int .i64 n, .string s, .slice p a.len c] 28)) (.cells #[.int .i64 0, .int .i64 0, .string ⟨#[]⟩, .slice none 0 0] 28)
    rw [show (w.alloc (.cells #[.int .i64 op, .int .i64 n, .string s, .slice p a.len c] 28)).heap.size = w.heap.size + 1 by simp] at h2
    exact ⟨hid (((Ext.refl (S := fun _ => False) _).alloc _).heap h1 id), hid h2⟩
  have HP := hid (hp.ext EZ.out (fun _ _ => id))
  have hcI : (c : Int) ≤ 9223372036854775807 := by omega
  have hacI : (a.len : Int) ≤ c := by omega
  have HBZ := hid (show Below w.heap.size w ((w.alloc (.cells #[.int .i64 op, .int .i64 n, .string s, .slice p a.len c] 28)).alloc (.cells #[.int .i64 0, .int .i64 0, .string ⟨#[]⟩, .slice none 0 0] 28)) from (alloc_below w _).alloc (by simp) _)
  have HLt := hid (show ∀ x ∈ fa, x < w.heap.size from hp.lt)
  have HPw := hid hp
  have HFa := hid (show ∀ x ∈ fa, ¬ (x = w.heap.size + 1) from fun x hx e => by have := hp.lt x hx; omega)
  clear hp
  by_cases h7 : op = 7
  · have hal : a.len = 2 := by
      have h := hs.1.2.2
      subst h7; simp [ar] at h; omega
    obtain ⟨b, o, xo, xn, xs, xa, xp, xc, xf, yo, yn, ys, ya, yp, yc, yf, rfl, ha, hx, hy⟩ := args_two HP.out hal
    have HX := hid hx
    have HY := hid hy
    have HA := hid ha
    have hn0 : 0 < a.len := by omega
    have hi0 : (0 : Int) < a.len := by omega
    have hn1 : 1 < a.len := by omega
    have hi1 : (1 : Int) < a.len := by omega
    have hr6 : rule6 op a = if (yo == 1 && yn == 0) = true then some (notF (F.cons xo xn xs xa .nil)) else if (xo == 1 && xn == 0) = true then some (notF (F.cons yo yn ys ya .nil)) else none := by
      rw [h7, ha]; rfl
    have HN1 := hid (fun w' => v_isNumber yo yn ys yp ya.len yc 0 w')
    have HN2 := hid (fun w' => v_isNumber xo xn xs xp xa.len xc 0 w')
    have HR6 := hid hr6
    generalize (yo == 1 && yn == 0) = r1 at HN1 HR6
    generalize (xo == 1 && xn == 0) = r2 at HN2 HR6
    have e7 : (op == 7) = true := by simp [h7]
    have e8 : (op == 8) = false := by simp [h7]
    clear hx hy ha hs hal hr6 h7
    obtain ⟨⟨c0, c1, c2, c3⟩, _⟩ := blk4 HB.out
    obtain ⟨⟨z0, z1, z2, z3⟩, f0, f1, f2, f3⟩ := blk4 HR.out
    clear c1 c2
    obtain ⟨x0, x1, x2, x3⟩ := HX.out.1
    obtain ⟨y0, y1, y2, y3⟩ := HY.out.1
    go_enter Tryz.func185, Tryz.ntmps185
    go_wp2_with fail
    refine (HN1.out _).mono ?_
    rintro e w6 ⟨rfl, hb6⟩
    have E6 := hid (Ext.of_below (S := fun _ => False) hb6)
    have HB6 := hid (below_ext HBZ.out E6.out (by simp; omega))
    obtain ⟨⟨c0, c1, c2, c3⟩, _⟩ := blk4 (E6.out.heap HB.out id)
    obtain ⟨⟨z0, z1, z2, z3⟩, f0, f1, f2, f3⟩ := blk4 (E6.out.heap HR.out id)
    have hz6 : w.heap.size + 1 < w6.heap.size := World.block_lt_of_cell? _ _ z0
    clear hb6 c1 c2
    have HX6 := hid (HX.out.ext E6.out)
    obtain ⟨x0, x1, x2, x3⟩ := HX6.out.1
    have HY6 := hid (HY.out.ext E6.out)
    obtain ⟨y0, y1, y2, y3⟩ := HY6.out.1
    cases r1 with
    | true =>
      go_wp2_with fail
      obtain ⟨W, hW, u0, u1, u2, u3, hg, eW⟩ := set4_row (a0 := .int .i64 8) (a1 := .int .i64 0) (a2 := .string ⟨#[]⟩) (a3 := .slice (some ⟨w6.heap.size, 0, none⟩) 1 1) (o := .cells #[.int .i64 xo, .int .i64 xn, .string xs, .slice xp xa.len xc] 28) z0 z1 z2 z3
      rw [hW]
      exact bodyPost_ret (v := .tuple #[.agg #[.int .i64 8, .int .i64 0, .string ⟨#[]⟩, .slice (some ⟨w6.heap.size, 0, none⟩) 1 1], .bool true]) (by simp [results, Tryz.results185, go_sem, u0, u1, u2, u3]) rfl (not_got (HX6.out.ext_s eW HFa.out) hg (by omega) HR6.out (below_at HB6.out eW (by omega) (by omega)))
    | false =>
      go_wp2_with fail
      refine (HN2.out _).mono ?_
      rintro e w7 ⟨rfl, hb7⟩
      have E7 := hid (E6.out.trans (Ext.of_below (S := fun _ => False) hb7))
      have HB7 := hid (below_ext HBZ.out E7.out (by simp; omega))
      obtain ⟨⟨c0, c1, c2, c3⟩, _⟩ := blk4 (E7.out.heap HB.out id)
      obtain ⟨⟨z0, z1, z2, z3⟩, f0, f1, f2, f3⟩ := blk4 (E7.out.heap HR.out id)
      have hz7 : w.heap.size + 1 < w7.heap.size := World.block_lt_of_cell? _ _ z0
      clear hb7 c1 c2
      have HX7 := hid (HX.out.ext E7.out)
      obtain ⟨x0, x1, x2, x3⟩ := HX7.out.1
      have HY7 := hid (HY.out.ext E7.out)
      obtain ⟨y0, y1, y2, y3⟩ := HY7.out.1
      cases r2 with
      | true =>
        go_wp2_with fail
        obtain ⟨W, hW, u0, u1, u2, u3, hg, eW⟩ := set4_row (a0 := .int .i64 8) (a1 := .int .i64 0) (a2 := .string ⟨#[]⟩) (a3 := .slice (some ⟨w7.heap.size, 0, none⟩) 1 1) (o := .cells #[.int .i64 yo, .int .i64 yn, .string ys, .slice yp ya.len yc] 28) z0 z1 z2 z3
        rw [hW]
        exact bodyPost_ret (v := .tuple #[.agg #[.int .i64 8, .int .i64 0, .string ⟨#[]⟩, .slice (some ⟨w7.heap.size, 0, none⟩) 1 1], .bool true]) (by simp [results, Tryz.results185, go_sem, u0, u1, u2, u3]) rfl (not_got (HY7.out.ext_s eW HFa.out) hg (by omega) HR6.out (below_at HB7.out eW (by omega) (by omega)))
      | false =>
        go_wp2_with fail
        obtain ⟨W, hW, u0, u1, u2, u3, eW⟩ := set4_all (a0 := .int .i64 0) (a1 := .int .i64 0) (a2 := .string ⟨#[]⟩) (a3 := .slice none 0 0) z0 z1 z2 z3
        rw [hW]
        exact bodyPost_ret (v := .tuple #[.agg #[.int .i64 0, .int .i64 0, .string ⟨#[]⟩, .slice none 0 0], .bool false]) (by simp [results, Tryz.results185, go_sem, u0, u1, u2, u3]) rfl (none_got HR6.out (below_at HB7.out eW (by omega) (by omega)))
  · have e7 : (op == 7) = false := by simpa using h7
    by_cases h8 : op = 8
    · have hal : a.len = 1 := by
        have h := hs.1.2.2
        subst h8; simp [ar] at h; omega
      obtain ⟨b, o, xo, xn, xs, xa, xp, xc, xf, rfl, ha, hx⟩ := args_one HP.out hal
      have HX := hid hx
      have HA := hid ha
      have e8 : (op == 8) = true := by simp [h8]
      have hn0 : 0 < a.len := by omega
      have hi0 : (0 : Int) < a.len := by omega
      have hr6 : rule6 op a = if (xo == 8 && opF xa == 8) = true then some (xa.take 1) else none := by
        rw [h8, ha]; rfl
      have HR6 := hid hr6
      have HSx := hid (show (F.cons xo xn xs xa .nil).Small by have h := hs.2.1; rw [ha] at h; exact h)
      clear hx ha hs hal hr6 h8 h7
      obtain ⟨⟨c0, c1, c2, c3⟩, _⟩ := blk4 HB.out
      obtain ⟨⟨z0, z1, z2, z3⟩, f0, f1, f2, f3⟩ := blk4 HR.out
      clear c1 c2
      obtain ⟨x0, x1, x2, x3⟩ := HX.out.1
      by_cases hx8 : xo = 8
      · have ex : (xo == 8) = true := by simp [hx8]
        have hxl : xa.len = 1 := by
          have h := HSx.out.1.2.2
          subst hx8; simp [ar] at h; omega
        obtain ⟨b', o', zo, zn, zs, za, zp, zc, zf, rfl, ha2, hzz⟩ := args_one HX.out.2.2.2.1 hxl
        have HZ := hid (show Arg _ fa b' o' zo zn zs za zp zc zf from ⟨hzz.1, hzz.2.1, hzz.2.2.1, hzz.2.2.2.1, fun x hx => HX.out.2.2.2.2.1 x (hzz.2.2.2.2.1 x hx), HX.out.2.2.2.2.1 b' hzz.2.2.2.2.2⟩)
        have hR2 := HR6.out
        rw [ex, Bool.true_and, ha2] at hR2
        have HR7 := hid (show rule6 op a = if (zo == 8) = true then some (F.cons zo zn zs za .nil) else none from hR2)
        have hm0 : 0 < xa.len := by omega
        have hj0 : (0 : Int) < xa.len := by omega
        obtain ⟨q0, q1, q2, q3⟩ := HZ.out.1
        clear hx8 hxl hzz ha2 hR2 HR6
        by_cases hz8 : zo = 8
        · have ez : (zo == 8) = true := by simp [hz8]
          have HO := hid (show rule6 op a = if true = true then some (F.cons zo zn zs za .nil) else none by rw [HR7.out, ez])
          clear hz8
          go_enter Tryz.func185, Tryz.ntmps185
          go_wp2_with fail
          exact bodyPost_ret (v := .tuple #[.agg #[.int .i64 zo, .int .i64 zn, .string zs, .slice zp za.len zc], .bool true]) (by simp [results, Tryz.results185, go_sem]) rfl (arg_got (yes := true) (HZ.out.ext_s (alloc_other _ _ _ (by simp)) HFa.out) HO.out ((alloc_below w _).alloc (by simp) _))
        · have ez : (zo == 8) = false := by simpa using hz8
          have HO := hid (show rule6 op a = none by rw [HR7.out, ez]; rfl)
          clear hz8
          go_enter Tryz.func185, Tryz.ntmps185
          go_wp2_with fail
          exact bodyPost_ret (v := .tuple #[.agg #[.int .i64 0, .int .i64 0, .string ⟨#[]⟩, .slice none 0 0], .bool false]) (by simp [results, Tryz.results185, go_sem]) rfl (none_got HO.out HBZ.out)
      · have ex : (xo == 8) = false := by simpa using hx8
        have HO := hid (show rule6 op a = none by rw [HR6.out, ex]; rfl)
        clear hx8
        go_enter Tryz.func185, Tryz.ntmps185
        go_wp2_with fail
        exact bodyPost_ret (v := .tuple #[.agg #[.int .i64 0, .int .i64 0, .string ⟨#[]⟩, .slice none 0 0], .bool false]) (by simp [results, Tryz.results185, go_sem]) rfl (none_got HO.out HBZ.out)
    · have e8 : (op == 8) = false := by simpa using h8
      have HO := hid (show rule6 op a = none by unfold rule6; rw [e7, e8]; rfl)
      clear h8 h7
      obtain ⟨⟨c0, c1, c2, c3⟩, _⟩ := blk4 HB.out
      obtain ⟨⟨z0, z1, z2, z3⟩, f0, f1, f2, f3⟩ := blk4 HR.out
      clear c1 c2
      go_enter Tryz.func185, Tryz.ntmps185
      go_wp2_with fail
      exact bodyPost_ret (v := .tuple #[.agg #[.int .i64 0, .int .i64 0, .string ⟨#[]⟩, .slice none 0 0], .bool false]) (by simp [results, Tryz.results185, go_sem]) rfl (none_got HO.out HBZ.out)
end Go.Proofs.YtkgciohebloffaaGreat
/- What the rules make is an expression in form, and a smaller one; so applying them ends. -/
namespace Go.Proofs.YtkgciohebloffaaGreat
open Go.RowKit

theorem F.small_take : ∀ (k : Nat) {f : F}, f.Small → (f.take k).Small
  | 0, _, _ => trivial
  | _ + 1, .nil, h => h
  | k + 1, .cons _ _ _ _ _, h => ⟨h.1, h.2.1, F.small_take k h.2.2⟩
theorem F.small_app : ∀ {f g : F}, f.Small → g.Small → (f.app g).Small
  | .nil, _, _, h => h
  | .cons _ _ _ _ _, _, h, k => ⟨h.1, h.2.1, F.small_app h.2.2 k⟩
/-- A single expression that is in form, of at most k nodes. -/
def F.Fine (g : F) (k : Nat) : Prop := (∃ op n s a, g = .cons op n s a .nil) ∧ g.Small ∧ g.Fits ∧ g.size ≤ k
theorem fine_take {f : F} (hs : f.Small) (hf : f.Fits) (h : 1 ≤ f.len) : (f.take 1).Fine f.size := by
  refine ⟨?_, F.small_take 1 hs, F.fits_take 1 hf, F.size_take 1 f⟩
  cases f with
  | nil => simp [F.len] at h
  | cons op n s a r => exact ⟨op, n, s, a, rfl⟩
theorem F.Fine.mono {g : F} {k m : Nat} (h : g.Fine k) (hk : k ≤ m) : g.Fine m := ⟨h.1, h.2.1, h.2.2.1, Nat.le_trans h.2.2.2 hk⟩
theorem fine_at (i : Nat) {f : F} (hs : f.Small) (hf : f.Fits) (h : i + 1 ≤ f.len) : ((f.drop i).take 1).Fine f.size :=
  (fine_take (F.small_drop i hs) (F.fits_drop i hf) (by rw [F.len_drop]; omega)).mono (F.size_drop i f)
theorem fine_num {v : Int} (h : V999 v) (k : Nat) (hk : 1 ≤ k) : (numF v).Fine k := by
  obtain ⟨h0, h1⟩ := h
  refine ⟨⟨1, v, ⟨#[]⟩, .nil, rfl⟩, ⟨⟨by omega, by omega, by simp [F.len, ar]⟩, trivial, trivial⟩, ⟨by omega, by omega, by decide, trivial, trivial⟩, by simp [numF, F.size]; omega⟩
theorem numsF_in : ∀ {a : F}, a.Small → ∀ x ∈ numsF a, V999 x
  | .nil, _, x, hx => by simp [numsF] at hx
  | .cons _ n _ _ r, h, x, hx => by
    simp only [numsF, List.mem_cons] at hx
    rcases hx with rfl | hx
    · exact h.1.2.1
    · exact numsF_in h.2.2 x hx
theorem len_size {f : F} (h : 1 ≤ f.len) : 1 ≤ f.size := Nat.le_trans h (F.len_le_size f)
theorem size_drop1 (f : F) (h : 2 ≤ f.len) : (f.take 1).size + 1 ≤ f.size ∧ ((f.drop 1).take 1).size + 1 ≤ f.size := by
  cases f with
  | nil => simp [F.len] at h
  | cons op n s a r =>
    have h1 : 1 ≤ r.len := by simp only [F.len] at h; omega
    have h2 := len_size h1
    have h3 := F.size_take 1 r
    simp only [F.take, F.drop, F.size] at *
    omega
theorem fine_not {f : F} {k : Nat} (hs : f.Small) (hf : f.Fits) (h : 1 ≤ f.len) (hk : (f.take 1).size + 1 ≤ k) : (notF f).Fine k := by
  have h1 := fine_take hs hf h
  refine ⟨⟨8, 0, ⟨#[]⟩, f.take 1, rfl⟩, ⟨⟨by omega, by omega, ?_⟩, h1.2.1, trivial⟩, ⟨by omega, by omega, by decide, h1.2.2.1, trivial⟩, by simp [notF, F.size]; omega⟩
  rw [F.len_take, show min 1 f.len = 1 by omega]; rfl

section
variable {op n : Int} {s : ByteArray} {a g : F} (hs : (F.cons op n s a .nil).Small) (hf : (F.cons op n s a .nil).Fits)
include hs hf
omit hf in
theorem rule1_fine (h : rule1 op a = some g) : g.Fine a.size := by
  unfold rule1 at h
  split at h
  · cases h
  · injection h with h
    subst h
    rename_i hc
    have h1 : 1 ≤ a.len := by
      rcases Nat.eq_zero_or_pos a.len with h0 | h0
      · simp [h0] at hc
      · exact h0
    exact fine_num (comp_in (numsF_in hs.2.1)) _ (len_size h1)
theorem rule2_fine (h : rule2 op a = some g) : g.Fine a.size := by
  have hal := hs.1.2.2
  unfold rule2 at h
  split at h
  · injection h with h; subst h
    rename_i hc
    refine fine_take hs.2.1 hf.2.2.2.1 ?_
    simp at hc
    rcases hc with ⟨h | h, _⟩ | ⟨h, _⟩ <;> subst h <;> simp [ar] at hal <;> omega
  · split at h
    · injection h with h; subst h
      rename_i hc
      refine fine_at 1 hs.2.1 hf.2.2.2.1 ?_
      simp at hc
      rcases hc with ⟨h, _⟩ | ⟨h, _⟩ <;> subst h <;> simp [ar] at hal <;> omega
    · split at h
      · injection h with h; subst h
        rename_i hc
        refine fine_num ⟨by omega, by omega⟩ _ (len_size ?_)
        simp at hc
        have h := hc.1
        subst h; simp [ar] at hal; omega
      · cases h
theorem rule3_fine (h : rule3 op a = some g) : g.Fine a.size := by
  have hal := hs.1.2.2
  unfold rule3 at h
  split at h
  · injection h with h; subst h
    rename_i hc
    refine fine_num ?_ _ (len_size ?_)
    · split <;> exact ⟨by omega, by omega⟩
    · simp at hc
      rcases hc.1 with (h | h) | h <;> subst h <;> simp [ar] at hal <;> omega
  · cases h
theorem rule4_fine (h : rule4 op a = some g) : g.Fine a.size := by
  have hal := hs.1.2.2
  unfold rule4 at h
  split at h
  · injection h with h; subst h
    rename_i hc
    refine fine_num ⟨by omega, by omega⟩ _ (len_size ?_)
    simp at hc
    have h := hc.1
    subst h; simp [ar] at hal; omega
  · cases h
theorem rule5_fine (h : rule5 op a = some g) : g.Fine a.size := by
  have hal := hs.1.2.2
  unfold rule5 at h
  split at h
  · cases h
  · rename_i hc
    have h9 : op = 9 := by simpa using hc
    have hl : a.len = 3 := by rw [h9] at hal; simp [ar] at hal; omega
    split at h
    · injection h with h; subst h; exact fine_at 2 hs.2.1 hf.2.2.2.1 (by omega)
    · split at h
      · injection h with h; subst h; exact fine_at 1 hs.2.1 hf.2.2.2.1 (by omega)
      · cases h
theorem rule6_fine (h : rule6 op a = some g) : g.Fine a.size := by
  have hal := hs.1.2.2
  have hsa := hs.2.1
  have hfa := hf.2.2.2.1
  unfold rule6 at h
  split at h
  · injection h with h; subst h
    rename_i hc
    simp at hc
    have h7 := hc.1
    have hl : a.len = 2 := by rw [h7] at hal; simp [ar] at hal; omega
    exact fine_not hsa hfa (by omega) (size_drop1 a (by omega)).1
  · split at h
    · injection h with h; subst h
      rename_i hc
      simp at hc
      have h7 := hc.1
      have hl : a.len = 2 := by rw [h7] at hal; simp [ar] at hal; omega
      exact fine_not (F.small_drop 1 hsa) (F.fits_drop 1 hfa) (by rw [F.len_drop]; omega) (size_drop1 a (by omega)).2
    · split at h
      · injection h with h; subst h
        rename_i hc
        simp at hc
        cases a with
        | nil => have h8 := hc.1.2; simp [opF] at h8
        | cons o1 n1 s1 a1 r1 =>
          have h8 : o1 = 8 := hc.1.2
          have hl : a1.len = 1 := by have := hsa.1.2.2; rw [h8] at this; simp [ar] at this; omega
          exact (fine_take hsa.2.1 hfa.2.2.2.1 (by omega)).mono (by simp only [F.size]; omega)
      · cases h
theorem rule_fine (h : ruleF op a = some g) : g.Fine a.size := by
  have pick : ∀ (x y : Option F), x.or y = some g → x = some g ∨ y = some g := fun x y h => by
    cases x with
    | none => right; simpa using h
    | some z => left; simpa using h
  unfold ruleF at h
  rcases pick _ _ h with h | h1
  · exact rule1_fine hs h
  rcases pick _ _ h1 with h | h2
  · exact rule2_fine hs hf h
  rcases pick _ _ h2 with h | h3
  · exact rule3_fine hs hf h
  rcases pick _ _ h3 with h | h4
  · exact rule4_fine hs hf h
  rcases pick _ _ h4 with h | h5
  · exact rule5_fine hs hf h
  · exact rule6_fine hs hf h5
end

theorem fix_fine : ∀ (k m : Nat) {f : F}, f.Fine m → (fixF k f).Fine m
  | 0, _, _, h => h
  | k + 1, m, .nil, h => h
  | k + 1, m, .cons op n s a r, h => by
    rw [fixF]
    cases hr : ruleF op a with
    | none => exact h
    | some g =>
      obtain ⟨⟨op', n', s', a', e⟩, hs, hf, hz⟩ := h
      injection e with _ _ _ _ e5
      subst e5
      simp only [F.size] at hz
      exact fix_fine k m ((rule_fine hs hf hr).mono (by omega))
/-- An expression, simplified. -/
def simE (op n : Int) (s : ByteArray) (a : F) : F := fixF (a.size + 2) (.cons op n s (simF a) .nil)
theorem simF_cons (op n : Int) (s : ByteArray) (a r : F) : simF (.cons op n s a r) = (simE op n s a).app (simF r) := rfl
theorem sim_ok : ∀ {f : F}, f.Small → f.Fits → (simF f).Small ∧ (simF f).Fits ∧ (simF f).len = f.len ∧ (simF f).size ≤ f.size
  | .nil, _, _ => ⟨trivial, trivial, rfl, Nat.le_refl _⟩
  | .cons op n s a r, hs, hf => by
    obtain ⟨a1, a2, a3, a4⟩ := sim_ok hs.2.1 hf.2.2.2.1
    obtain ⟨r1, r2, r3, r4⟩ := sim_ok hs.2.2 hf.2.2.2.2
    have h : (simE op n s a).Fine (a.size + 1) := fix_fine _ _ ⟨⟨op, n, s, simF a, rfl⟩, ⟨⟨hs.1.1, hs.1.2.1, by rw [a3]; exact hs.1.2.2⟩, a1, trivial⟩, ⟨hf.1, hf.2.1, hf.2.2.1, a2, trivial⟩, by simp only [F.size]; omega⟩
    rw [simF_cons]
    refine ⟨F.small_app h.2.1 r1, F.fits_app h.2.2.1 r2, ?_, ?_⟩
    · obtain ⟨op', n', s', a', e⟩ := h.1
      rw [e, F.len_app, r3]; simp only [F.len]; omega
    · rw [F.size_app]; have := h.2.2.2; simp only [F.size]; omega
theorem simE_fine {op n : Int} {s : ByteArray} {a : F} (hs : (F.cons op n s a .nil).Small) (hf : (F.cons op n s a .nil).Fits) : (F.cons op n s (simF a) .nil).Small ∧ (F.cons op n s (simF a) .nil).Fits ∧ (simF a).len = a.len ∧ (simF a).size ≤ a.size := by
  obtain ⟨a1, a2, a3, a4⟩ := sim_ok hs.2.1 hf.2.2.2.1
  exact ⟨⟨⟨hs.1.1, hs.1.2.1, by rw [a3]; exact hs.1.2.2⟩, a1, trivial⟩, ⟨hf.1, hf.2.1, hf.2.2.1, a2, trivial⟩, a3, a4⟩
/-- A round of the loop over the rules. -/
theorem fix_round {k : Nat} {op n : Int} {s : ByteArray} {a : F} (hk : a.size + 1 < k) : ∃ j, k = j + 1 ∧ fixF k (.cons op n s a .nil) = match ruleF op a with | none => .cons op n s a .nil | some g => fixF j g := by
  obtain ⟨j, rfl⟩ : ∃ j, k = j + 1 := ⟨k - 1, by omega⟩
  exact ⟨j, rfl, rfl⟩
end Go.Proofs.YtkgciohebloffaaGreat
