/- Texts joined: RRul2. -/
import Derived.Test.YtkgciohebloffaaGreatJS44
import Derived.Test.YtkgciohebloffaaGreatJS12
import Derived.Deep.RegionHeld3
import Derived.Deep.RegionLaw
import Derived.Deep.RegionWith
/- Rule 2, the reference's. (Made by tools/gen/rulr.py.) -/
namespace Go.Proofs.YtkgciohebloffaaGreat
open Go.RowKit

set_option maxRecDepth 100000 in
set_option maxHeartbeats 4000000 in
theorem r_rule2 (op n : Int) (s : ByteArray) (a : F) (p : Option Addr) (c : Nat) (fa : List Nat) (w : World) (hs : (F.cons op n s a .nil).Small) (hp : RdP w a p fa) (hac : a.len ≤ c) (hc : c ≤ 9223372036854775807) (fb : Nat) (hfb : w.cell? ⟨fb, 0, none⟩ = some (.func (.func 123) #[] #[])) :
    Calls Tryz.prog 127 #[.int .i64 op, .slice p a.len c, .pointer (some ⟨fb, 0, none⟩)] w (GotRule fa (rule2 op a) w) := by
  have EZ := hid ((Ext.refl (S := fun _ => False) w).alloc (.cells #[.int .i64 0, .int .i64 0, .string ⟨#[]⟩, .slice none 0 0] 28))
  have HR := hid (heap_new w (.cells #[.int .i64 0, .int .i64 0, .string ⟨#[]⟩, .slice none 0 0] 28))
  have HP := hid (hp.ext EZ.out (fun _ _ => id))
  have hcI : (c : Int) ≤ 9223372036854775807 := by omega
  have hacI : (a.len : Int) ≤ c := by omega
  have HBZ := hid (alloc_below w (.cells #[.int .i64 0, .int .i64 0, .string ⟨#[]⟩, .slice none 0 0] 28))
  have HFa := hid (show ∀ x ∈ fa, ¬ (x = w.heap.size) from fun x hx e => by have := hp.lt x hx; omega)
  clear hp
  have k0 := EZ.out.cell_some hfb id
  have HFB := hid k0
  have hfl : fb < w.heap.size := World.block_lt_of_cell? _ _ hfb
  clear hfb
  by_cases h345 : op = 3 ∨ op = 4 ∨ op = 5
  · have hal : a.len = 2 := by
      have h := hs.1.2.2
      rcases h345 with h' | h' | h' <;> (subst h'; simp [ar] at h; omega)
    obtain ⟨b, o, xo, xn, xs, xa, xp, xc, xf, yo, yn, ys, ya, yp, yc, yf, rfl, ha, hx, hy⟩ := args_two HP.out hal
    have HX := hid hx
    have HY := hid hy
    have HA := hid ha
    have hn0 : 0 < a.len := by omega
    have hi0 : (0 : Int) < a.len := by omega
    have hn1 : 1 < a.len := by omega
    have hi1 : (1 : Int) < a.len := by omega
    have hr2 : rule2 op a = if ((op == 3 || op == 4) && (yo == 1 && yn == 0) || op == 5 && (yo == 1 && yn == 1)) = true then some (F.cons xo xn xs xa .nil) else if (op == 3 && (xo == 1 && xn == 0) || op == 5 && (xo == 1 && xn == 1)) = true then some (F.cons yo yn ys ya .nil) else if (op == 5 && ((xo == 1 && xn == 0) || (yo == 1 && yn == 0))) = true then some (numF 0) else none := by
      rw [ha]; rfl
    have HX0 := hid (fun w' => r_isN xo xn xs xp xa.len xc 0 w')
    have HX1 := hid (fun w' => r_isN xo xn xs xp xa.len xc 1 w')
    have HY0 := hid (fun w' => r_isN yo yn ys yp ya.len yc 0 w')
    have HY1 := hid (fun w' => r_isN yo yn ys yp ya.len yc 1 w')
    have HR2 := hid hr2
    generalize (xo == 1 && xn == 0) = bx0 at HX0 HR2
    generalize (xo == 1 && xn == 1) = bx1 at HX1 HR2
    generalize (yo == 1 && yn == 0) = by0 at HY0 HR2
    generalize (yo == 1 && yn == 1) = by1 at HY1 HR2
    clear hx hy ha hs hr2 hal
    obtain ⟨⟨z0, z1, z2, z3⟩, f0, f1, f2, f3⟩ := blk4 HR.out
    obtain ⟨x0, x1, x2, x3⟩ := HX.out.1
    obtain ⟨y0, y1, y2, y3⟩ := HY.out.1
    by_cases h3 : op = 3
    · skip
      have e3 : (op == 3) = true := by simp [h3]
      have e4 : (op == 4) = false := by simp [h3]
      have e5 : (op == 5) = false := by simp [h3]
      have hfst : amg [3, 4] op = true := by simp only [amg, e3, e4]; rfl
      have HFst := hid hfst
      clear hfst
      clear h3 h345
      go_enter Tryz.func127, Tryz.ntmps127
      go_wp2_with fail
      refine (r_first op _ _ _ [3, 4] (w.heap.size + 1) 0 2 _ (ints_two (by have h := heap_new (w.alloc (.cells #[.int .i64 0, .int .i64 0, .string ⟨#[]⟩, .slice none 0 0] 28)) (.cells #[.int .i64 3, .int .i64 4] 3); rwa [show (w.alloc (.cells #[.int .i64 0, .int .i64 0, .string ⟨#[]⟩, .slice none 0 0] 28)).heap.size = w.heap.size + 1 by simp] at h)) (by simp)).mono ?_
      rintro e w6 ⟨rfl, rfl⟩
      have E6 := hid ((Ext.refl (S := fun _ => False) (w.alloc (.cells #[.int .i64 0, .int .i64 0, .string ⟨#[]⟩, .slice none 0 0] 28))).alloc (.cells #[.int .i64 3, .int .i64 4] 3))
      rw [HFst.out]
      generalize (w.alloc (.cells #[.int .i64 0, .int .i64 0, .string ⟨#[]⟩, .slice none 0 0] 28)).alloc (.cells #[.int .i64 3, .int .i64 4] 3) = w6 at *
      have HB6 := hid (below_ext HBZ.out E6.out (by simp))
      obtain ⟨⟨z0, z1, z2, z3⟩, f0, f1, f2, f3⟩ := blk4 (E6.out.heap HR.out id)
      have hz6 : w.heap.size < w6.heap.size := World.block_lt_of_cell? _ _ z0
      have HX6 := hid (HX.out.ext E6.out)
      obtain ⟨x0, x1, x2, x3⟩ := HX6.out.1
      have HY6 := hid (HY.out.ext E6.out)
      obtain ⟨y0, y1, y2, y3⟩ := HY6.out.1
      go_wp2_with fail
      refine (HY0.out _).mono ?_
      rintro e w7 ⟨rfl, hb7⟩
      have E7 := hid (E6.out.trans (Ext.of_below (S := fun _ => False) hb7))
      have HB7 := hid (below_ext HBZ.out E7.out (by simp))
      obtain ⟨⟨z0, z1, z2, z3⟩, f0, f1, f2, f3⟩ := blk4 (E7.out.heap HR.out id)
      have hz7 : w.heap.size < w7.heap.size := World.block_lt_of_cell? _ _ z0
      clear hb7
      have HX7 := hid (HX.out.ext E7.out)
      obtain ⟨x0, x1, x2, x3⟩ := HX7.out.1
      have HY7 := hid (HY.out.ext E7.out)
      obtain ⟨y0, y1, y2, y3⟩ := HY7.out.1
      cases by0 with
      | true =>
        have HO := hid (show rule2 op a = if true = true then some (F.cons xo xn xs xa .nil) else none by have h := HR2.out; rw [e3, e4, e5] at h; first | exact h | simpa using h)
        go_wp2_with fail
        obtain ⟨W, hW, u0, u1, u2, u3, eW⟩ := set4_all (a0 := .int .i64 xo) (a1 := .int .i64 xn) (a2 := .string xs) (a3 := .slice xp xa.len xc) z0 z1 z2 z3
        rw [hW]
        exact bodyPost_ret (v := .tuple #[.agg #[.int .i64 xo, .int .i64 xn, .string xs, .slice xp xa.len xc], .bool true]) (by simp [results, Tryz.results127, go_sem, u0, u1, u2, u3]) rfl (arg_got (yes := true) (HX7.out.ext_s eW HFa.out) HO.out (below_at HB7.out eW (by omega) (by omega)))
      | false =>
        go_wp2_with fail
        refine (HX0.out _).mono ?_
        rintro e w8 ⟨rfl, hb8⟩
        have E8 := hid (E7.out.trans (Ext.of_below (S := fun _ => False) hb8))
        have HB8 := hid (below_ext HBZ.out E8.out (by simp))
        obtain ⟨⟨z0, z1, z2, z3⟩, f0, f1, f2, f3⟩ := blk4 (E8.out.heap HR.out id)
        have hz8 : w.heap.size < w8.heap.size := World.block_lt_of_cell? _ _ z0
        clear hb8
        have HX8 := hid (HX.out.ext E8.out)
        obtain ⟨x0, x1, x2, x3⟩ := HX8.out.1
        have HY8 := hid (HY.out.ext E8.out)
        obtain ⟨y0, y1, y2, y3⟩ := HY8.out.1
        cases bx0 with
        | true =>
          have HO := hid (show rule2 op a = if true = true then some (F.cons yo yn ys ya .nil) else none by have h := HR2.out; rw [e3, e4, e5] at h; first | exact h | simpa using h)
          go_wp2_with fail
          obtain ⟨W, hW, u0, u1, u2, u3, eW⟩ := set4_all (a0 := .int .i64 yo) (a1 := .int .i64 yn) (a2 := .string ys) (a3 := .slice yp ya.len yc) z0 z1 z2 z3
          rw [hW]
          exact bodyPost_ret (v := .tuple #[.agg #[.int .i64 yo, .int .i64 yn, .string ys, .slice yp ya.len yc], .bool true]) (by simp [results, Tryz.results127, go_sem, u0, u1, u2, u3]) rfl (arg_got (yes := true) (HY8.out.ext_s eW HFa.out) HO.out (below_at HB8.out eW (by omega) (by omega)))
        | false =>
          have HO := hid (show rule2 op a = none by have h := HR2.out; rw [e3, e4, e5] at h; first | exact h | simpa using h)
          go_wp2_with fail
          obtain ⟨W, hW, u0, u1, u2, u3, eW⟩ := set4_all (a0 := .int .i64 0) (a1 := .int .i64 0) (a2 := .string ⟨#[]⟩) (a3 := .slice none 0 0) z0 z1 z2 z3
          rw [hW]
          exact bodyPost_ret (v := .tuple #[.agg #[.int .i64 0, .int .i64 0, .string ⟨#[]⟩, .slice none 0 0], .bool false]) (by simp [results, Tryz.results127, go_sem, u0, u1, u2, u3]) rfl (none_got HO.out (below_at HB8.out eW (by omega) (by omega)))
    by_cases h4 : op = 4
    · skip
      have e3 : (op == 3) = false := by simp [h4]
      have e4 : (op == 4) = true := by simp [h4]
      have e5 : (op == 5) = false := by simp [h4]
      have hfst : amg [3, 4] op = true := by simp only [amg, e3, e4]; rfl
      have HFst := hid hfst
      clear hfst
      clear h3 h4 h345
      go_enter Tryz.func127, Tryz.ntmps127
      go_wp2_with fail
      refine (r_first op _ _ _ [3, 4] (w.heap.size + 1) 0 2 _ (ints_two (by have h := heap_new (w.alloc (.cells #[.int .i64 0, .int .i64 0, .string ⟨#[]⟩, .slice none 0 0] 28)) (.cells #[.int .i64 3, .int .i64 4] 3); rwa [show (w.alloc (.cells #[.int .i64 0, .int .i64 0, .string ⟨#[]⟩, .slice none 0 0] 28)).heap.size = w.heap.size + 1 by simp] at h)) (by simp)).mono ?_
      rintro e w6 ⟨rfl, rfl⟩
      have E6 := hid ((Ext.refl (S := fun _ => False) (w.alloc (.cells #[.int .i64 0, .int .i64 0, .string ⟨#[]⟩, .slice none 0 0] 28))).alloc (.cells #[.int .i64 3, .int .i64 4] 3))
      rw [HFst.out]
      generalize (w.alloc (.cells #[.int .i64 0, .int .i64 0, .string ⟨#[]⟩, .slice none 0 0] 28)).alloc (.cells #[.int .i64 3, .int .i64 4] 3) = w6 at *
      have HB6 := hid (below_ext HBZ.out E6.out (by simp))
      obtain ⟨⟨z0, z1, z2, z3⟩, f0, f1, f2, f3⟩ := blk4 (E6.out.heap HR.out id)
      have hz6 : w.heap.size < w6.heap.size := World.block_lt_of_cell? _ _ z0
      have HX6 := hid (HX.out.ext E6.out)
      obtain ⟨x0, x1, x2, x3⟩ := HX6.out.1
      have HY6 := hid (HY.out.ext E6.out)
      obtain ⟨y0, y1, y2, y3⟩ := HY6.out.1
      go_wp2_with fail
      refine (HY0.out _).mono ?_
      rintro e w7 ⟨rfl, hb7⟩
      have E7 := hid (E6.out.trans (Ext.of_below (S := fun _ => False) hb7))
      have HB7 := hid (below_ext HBZ.out E7.out (by simp))
      obtain ⟨⟨z0, z1, z2, z3⟩, f0, f1, f2, f3⟩ := blk4 (E7.out.heap HR.out id)
      have hz7 : w.heap.size < w7.heap.size := World.block_lt_of_cell? _ _ z0
      clear hb7
      have HX7 := hid (HX.out.ext E7.out)
      obtain ⟨x0, x1, x2, x3⟩ := HX7.out.1
      have HY7 := hid (HY.out.ext E7.out)
      obtain ⟨y0, y1, y2, y3⟩ := HY7.out.1
      cases by0 with
      | true =>
        have HO := hid (show rule2 op a = if true = true then some (F.cons xo xn xs xa .nil) else none by have h := HR2.out; rw [e3, e4, e5] at h; first | exact h | simpa using h)
        go_wp2_with fail
        obtain ⟨W, hW, u0, u1, u2, u3, eW⟩ := set4_all (a0 := .int .i64 xo) (a1 := .int .i64 xn) (a2 := .string xs) (a3 := .slice xp xa.len xc) z0 z1 z2 z3
        rw [hW]
        exact bodyPost_ret (v := .tuple #[.agg #[.int .i64 xo, .int .i64 xn, .string xs, .slice xp xa.len xc], .bool true]) (by simp [results, Tryz.results127, go_sem, u0, u1, u2, u3]) rfl (arg_got (yes := true) (HX7.out.ext_s eW HFa.out) HO.out (below_at HB7.out eW (by omega) (by omega)))
      | false =>
        have HO := hid (show rule2 op a = none by have h := HR2.out; rw [e3, e4, e5] at h; first | exact h | simpa using h)
        go_wp2_with fail
        obtain ⟨W, hW, u0, u1, u2, u3, eW⟩ := set4_all (a0 := .int .i64 0) (a1 := .int .i64 0) (a2 := .string ⟨#[]⟩) (a3 := .slice none 0 0) z0 z1 z2 z3
        rw [hW]
        exact bodyPost_ret (v := .tuple #[.agg #[.int .i64 0, .int .i64 0, .string ⟨#[]⟩, .slice none 0 0], .bool false]) (by simp [results, Tryz.results127, go_sem, u0, u1, u2, u3]) rfl (none_got HO.out (below_at HB7.out eW (by omega) (by omega)))
    have h5 : op = 5 := by omega
    have e3 : (op == 3) = false := by simp [h5]
    have e4 : (op == 4) = false := by simp [h5]
    have e5 : (op == 5) = true := by simp [h5]
    have hfst : amg [3, 4] op = false := by simp only [amg, e3, e4]; rfl
    have HFst := hid hfst
    clear hfst
    clear h3 h4 h5 h345
    go_enter Tryz.func127, Tryz.ntmps127
    go_wp2_with fail
    refine (r_first op _ _ _ [3, 4] (w.heap.size + 1) 0 2 _ (ints_two (by have h := heap_new (w.alloc (.cells #[.int .i64 0, .int .i64 0, .string ⟨#[]⟩, .slice none 0 0] 28)) (.cells #[.int .i64 3, .int .i64 4] 3); rwa [show (w.alloc (.cells #[.int .i64 0, .int .i64 0, .string ⟨#[]⟩, .slice none 0 0] 28)).heap.size = w.heap.size + 1 by simp] at h)) (by simp)).mono ?_
    rintro e w6 ⟨rfl, rfl⟩
    have E6 := hid ((Ext.refl (S := fun _ => False) (w.alloc (.cells #[.int .i64 0, .int .i64 0, .string ⟨#[]⟩, .slice none 0 0] 28))).alloc (.cells #[.int .i64 3, .int .i64 4] 3))
    rw [HFst.out]
    generalize (w.alloc (.cells #[.int .i64 0, .int .i64 0, .string ⟨#[]⟩, .slice none 0 0] 28)).alloc (.cells #[.int .i64 3, .int .i64 4] 3) = w6 at *
    have HB6 := hid (below_ext HBZ.out E6.out (by simp))
    obtain ⟨⟨z0, z1, z2, z3⟩, f0, f1, f2, f3⟩ := blk4 (E6.out.heap HR.out id)
    have hz6 : w.heap.size < w6.heap.size := World.block_lt_of_cell? _ _ z0
    have HX6 := hid (HX.out.ext E6.out)
    obtain ⟨x0, x1, x2, x3⟩ := HX6.out.1
    have HY6 := hid (HY.out.ext E6.out)
    obtain ⟨y0, y1, y2, y3⟩ := HY6.out.1
    go_wp2_with fail
    refine (HY1.out _).mono ?_
    rintro e w7 ⟨rfl, hb7⟩
    have E7 := hid (E6.out.trans (Ext.of_below (S := fun _ => False) hb7))
    have HB7 := hid (below_ext HBZ.out E7.out (by simp))
    obtain ⟨⟨z0, z1, z2, z3⟩, f0, f1, f2, f3⟩ := blk4 (E7.out.heap HR.out id)
    have hz7 : w.heap.size < w7.heap.size := World.block_lt_of_cell? _ _ z0
    clear hb7
    have HX7 := hid (HX.out.ext E7.out)
    obtain ⟨x0, x1, x2, x3⟩ := HX7.out.1
    have HY7 := hid (HY.out.ext E7.out)
    obtain ⟨y0, y1, y2, y3⟩ := HY7.out.1
    cases by1 with
    | true =>
      have HO := hid (show rule2 op a = if true = true then some (F.cons xo xn xs xa .nil) else none by have h := HR2.out; rw [e3, e4, e5] at h; first | exact h | simpa using h)
      go_wp2_with fail
      obtain ⟨W, hW, u0, u1, u2, u3, eW⟩ := set4_all (a0 := .int .i64 xo) (a1 := .int .i64 xn) (a2 := .string xs) (a3 := .slice xp xa.len xc) z0 z1 z2 z3
      rw [hW]
      exact bodyPost_ret (v := .tuple #[.agg #[.int .i64 xo, .int .i64 xn, .string xs, .slice xp xa.len xc], .bool true]) (by simp [results, Tryz.results127, go_sem, u0, u1, u2, u3]) rfl (arg_got (yes := true) (HX7.out.ext_s eW HFa.out) HO.out (below_at HB7.out eW (by omega) (by omega)))
    | false =>
      go_wp2_with fail
      refine (HX1.out _).mono ?_
      rintro e w8 ⟨rfl, hb8⟩
      have E8 := hid (E7.out.trans (Ext.of_below (S := fun _ => False) hb8))
      have HB8 := hid (below_ext HBZ.out E8.out (by simp))
      obtain ⟨⟨z0, z1, z2, z3⟩, f0, f1, f2, f3⟩ := blk4 (E8.out.heap HR.out id)
      have hz8 : w.heap.size < w8.heap.size := World.block_lt_of_cell? _ _ z0
      clear hb8
      have HX8 := hid (HX.out.ext E8.out)
      obtain ⟨x0, x1, x2, x3⟩ := HX8.out.1
      have HY8 := hid (HY.out.ext E8.out)
      obtain ⟨y0, y1, y2, y3⟩ := HY8.out.1
      cases bx1 with
      | true =>
        have HO := hid (show rule2 op a = if true = true then some (F.cons yo yn ys ya .nil) else none by have h := HR2.out; rw [e3, e4, e5] at h; first | exact h | simpa using h)
        go_wp2_with fail
        obtain ⟨W, hW, u0, u1, u2, u3, eW⟩ := set4_all (a0 := .int .i64 yo) (a1 := .int .i64 yn) (a2 := .string ys) (a3 := .slice yp ya.len yc) z0 z1 z2 z3
        rw [hW]
        exact bodyPost_ret (v := .tuple #[.agg #[.int .i64 yo, .int .i64 yn, .string ys, .slice yp ya.len yc], .bool true]) (by simp [results, Tryz.results127, go_sem, u0, u1, u2, u3]) rfl (arg_got (yes := true) (HY8.out.ext_s eW HFa.out) HO.out (below_at HB8.out eW (by omega) (by omega)))
      | false =>
        go_wp2_with fail
        refine (HX0.out _).mono ?_
        rintro e w9 ⟨rfl, hb9⟩
        have E9 := hid (E8.out.trans (Ext.of_below (S := fun _ => False) hb9))
        have HB9 := hid (below_ext HBZ.out E9.out (by simp))
        obtain ⟨⟨z0, z1, z2, z3⟩, f0, f1, f2, f3⟩ := blk4 (E9.out.heap HR.out id)
        have hz9 : w.heap.size < w9.heap.size := World.block_lt_of_cell? _ _ z0
        clear hb9
        have HX9 := hid (HX.out.ext E9.out)
        obtain ⟨x0, x1, x2, x3⟩ := HX9.out.1
        have HY9 := hid (HY.out.ext E9.out)
        obtain ⟨y0, y1, y2, y3⟩ := HY9.out.1
        cases bx0 with
        | true =>
          have HO := hid (show rule2 op a = if true = true then some (numF 0) else none by have h := HR2.out; rw [e3, e4, e5] at h; first | exact h | simpa using h)
          go_wp2_with fail
          refine (r_num 0 _).mono ?_
          rintro e w10 ⟨rfl, hb10⟩
          have E10 := hid (E9.out.trans (Ext.of_below (S := fun _ => False) hb10))
          have HB10 := hid (below_ext HBZ.out E10.out (by simp))
          obtain ⟨⟨z0, z1, z2, z3⟩, f0, f1, f2, f3⟩ := blk4 (E10.out.heap HR.out id)
          have hz10 : w.heap.size < w10.heap.size := World.block_lt_of_cell? _ _ z0
          clear hb10
          go_wp2_with fail
          obtain ⟨W, hW, u0, u1, u2, u3, eW⟩ := set4_all (a0 := .int .i64 1) (a1 := .int .i64 0) (a2 := .string ⟨#[]⟩) (a3 := .slice none 0 0) z0 z1 z2 z3
          rw [hW]
          exact bodyPost_ret (v := .tuple #[.agg #[.int .i64 1, .int .i64 0, .string ⟨#[]⟩, .slice none 0 0], .bool true]) (by simp [results, Tryz.results127, go_sem, u0, u1, u2, u3]) rfl (num_got (eq := true) HO.out (below_at HB10.out eW (by omega) (by omega)))
        | false =>
          go_wp2_with fail
          refine (HY0.out _).mono ?_
          rintro e w10 ⟨rfl, hb10⟩
          have E10 := hid (E9.out.trans (Ext.of_below (S := fun _ => False) hb10))
          have HB10 := hid (below_ext HBZ.out E10.out (by simp))
          obtain ⟨⟨z0, z1, z2, z3⟩, f0, f1, f2, f3⟩ := blk4 (E10.out.heap HR.out id)
          have hz10 : w.heap.size < w10.heap.size := World.block_lt_of_cell? _ _ z0
          clear hb10
          have HX10 := hid (HX.out.ext E10.out)
          obtain ⟨x0, x1, x2, x3⟩ := HX10.out.1
          have HY10 := hid (HY.out.ext E10.out)
          obtain ⟨y0, y1, y2, y3⟩ := HY10.out.1
          cases by0 with
          | true =>
            have HO := hid (show rule2 op a = if true = true then some (numF 0) else none by have h := HR2.out; rw [e3, e4, e5] at h; first | exact h | simpa using h)
            go_wp2_with fail
            refine (r_num 0 _).mono ?_
            rintro e w11 ⟨rfl, hb11⟩
            have E11 := hid (E10.out.trans (Ext.of_below (S := fun _ => False) hb11))
            have HB11 := hid (below_ext HBZ.out E11.out (by simp))
            obtain ⟨⟨z0, z1, z2, z3⟩, f0, f1, f2, f3⟩ := blk4 (E11.out.heap HR.out id)
            have hz11 : w.heap.size < w11.heap.size := World.block_lt_of_cell? _ _ z0
            clear hb11
            go_wp2_with fail
            obtain ⟨W, hW, u0, u1, u2, u3, eW⟩ := set4_all (a0 := .int .i64 1) (a1 := .int .i64 0) (a2 := .string ⟨#[]⟩) (a3 := .slice none 0 0) z0 z1 z2 z3
            rw [hW]
            exact bodyPost_ret (v := .tuple #[.agg #[.int .i64 1, .int .i64 0, .string ⟨#[]⟩, .slice none 0 0], .bool true]) (by simp [results, Tryz.results127, go_sem, u0, u1, u2, u3]) rfl (num_got (eq := true) HO.out (below_at HB11.out eW (by omega) (by omega)))
          | false =>
            have HO := hid (show rule2 op a = none by have h := HR2.out; rw [e3, e4, e5] at h; first | exact h | simpa using h)
            go_wp2_with fail
            obtain ⟨W, hW, u0, u1, u2, u3, eW⟩ := set4_all (a0 := .int .i64 0) (a1 := .int .i64 0) (a2 := .string ⟨#[]⟩) (a3 := .slice none 0 0) z0 z1 z2 z3
            rw [hW]
            exact bodyPost_ret (v := .tuple #[.agg #[.int .i64 0, .int .i64 0, .string ⟨#[]⟩, .slice none 0 0], .bool false]) (by simp [results, Tryz.results127, go_sem, u0, u1, u2, u3]) rfl (none_got HO.out (below_at HB10.out eW (by omega) (by omega)))
  · have h3 : op ≠ 3 := fun h => h345 (.inl h)
    have h4 : op ≠ 4 := fun h => h345 (.inr (.inl h))
    have h5 : op ≠ 5 := fun h => h345 (.inr (.inr h))
    have e3 : (op == 3) = false := by simpa using h3
    have e4 : (op == 4) = false := by simpa using h4
    have e5 : (op == 5) = false := by simpa using h5
    have hfst : amg [3, 4] op = false := by simp only [amg, e3, e4]; rfl
    have HFst := hid hfst
    clear hfst
    have HO := hid (show rule2 op a = none by unfold rule2; rw [e3, e4, e5]; rfl)
    clear h3 h4 h5 h345 hs
    obtain ⟨⟨z0, z1, z2, z3⟩, f0, f1, f2, f3⟩ := blk4 HR.out
    go_enter Tryz.func127, Tryz.ntmps127
    go_wp2_with fail
    refine (r_first op _ _ _ [3, 4] (w.heap.size + 1) 0 2 _ (ints_two (by have h := heap_new (w.alloc (.cells #[.int .i64 0, .int .i64 0, .string ⟨#[]⟩, .slice none 0 0] 28)) (.cells #[.int .i64 3, .int .i64 4] 3); rwa [show (w.alloc (.cells #[.int .i64 0, .int .i64 0, .string ⟨#[]⟩, .slice none 0 0] 28)).heap.size = w.heap.size + 1 by simp] at h)) (by simp)).mono ?_
    rintro e w6 ⟨rfl, rfl⟩
    have E6 := hid ((Ext.refl (S := fun _ => False) (w.alloc (.cells #[.int .i64 0, .int .i64 0, .string ⟨#[]⟩, .slice none 0 0] 28))).alloc (.cells #[.int .i64 3, .int .i64 4] 3))
    rw [HFst.out]
    generalize (w.alloc (.cells #[.int .i64 0, .int .i64 0, .string ⟨#[]⟩, .slice none 0 0] 28)).alloc (.cells #[.int .i64 3, .int .i64 4] 3) = w6 at *
    have HB6 := hid (below_ext HBZ.out E6.out (by simp))
    obtain ⟨⟨z0, z1, z2, z3⟩, f0, f1, f2, f3⟩ := blk4 (E6.out.heap HR.out id)
    have hz6 : w.heap.size < w6.heap.size := World.block_lt_of_cell? _ _ z0
    go_wp2_with fail
    obtain ⟨W, hW, u0, u1, u2, u3, eW⟩ := set4_all (a0 := .int .i64 0) (a1 := .int .i64 0) (a2 := .string ⟨#[]⟩) (a3 := .slice none 0 0) z0 z1 z2 z3
    rw [hW]
    exact bodyPost_ret (v := .tuple #[.agg #[.int .i64 0, .int .i64 0, .string ⟨#[]⟩, .slice none 0 0], .bool false]) (by simp [results, Tryz.results127, go_sem, u0, u1, u2, u3]) rfl (none_got HO.out (below_at HB6.out eW (by omega) (by omega)))
end Go.Proofs.YtkgciohebloffaaGreat
