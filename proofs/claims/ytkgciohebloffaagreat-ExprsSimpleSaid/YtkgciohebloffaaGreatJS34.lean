/- Texts joined: VRul25. -/
import Derived.Test.YtkgciohebloffaaGreatJS25
import Derived.Test.YtkgciohebloffaaGreatJS22
import Derived.Deep.RegionHeld3
import Derived.Deep.RegionLaw
import Derived.Deep.RegionWith
/- neutral, the program's, at an operator. (Made by tools/gen/rul2.py.) -/
namespace Go.Proofs.YtkgciohebloffaaGreat
open Go.RowKit

set_option maxRecDepth 100000 in
set_option maxHeartbeats 4000000 in
theorem v_neutral5 (op n : Int) (s : ByteArray) (a : F) (p : Option Addr) (c : Nat) (fa : List Nat) (w : World) (hp : RdP w a p fa) (hac : a.len ≤ c) (hc : c ≤ 9223372036854775807) (hal : a.len = 2) (e3 : (op == 3) = false) (e4 : (op == 4) = false) (e5 : (op == 5) = true) :
    Calls Tryz.prog 181 #[.agg #[.int .i64 op, .int .i64 n, .string s, .slice p a.len c]] w (GotRule fa (rule2 op a) w) := by
  have EZ := hid (((Ext.refl (S := fun _ => False) w).alloc (.cells #[.int .i64 op, .int .i64 n, .string s, .slice p a.len c] 28)).alloc (.cells #[.int .i64 0, .int .i64 0, .string ⟨#[]⟩, .slice none 0 0] 28))
  obtain ⟨HB, HR⟩ : Hid (((w.alloc (.cells #[.int .i64 op, .int .i64 n, .string s, .slice p a.len c] 28)).alloc (.cells #[.int .i64 0, .int .i64 0, .string ⟨#[]⟩, .slice none 0 0] 28)).heap[w.heap.size]? = some (.cells #[.int .i64 op, .int .i64 n, .string s, .slice p a.len c] 28 (0, 0))) ∧ Hid (((w.alloc (.cells #[.int .i64 op, .int .i64 n, .string s, .slice p a.len c] 28)).alloc (.cells #[.int .i64 0, .int .i64 0, .string ⟨#[]⟩, .slice none 0 0] 28)).heap[w.heap.size + 1]? = some (.cells #[.int .i64 0, .int .i64 0, .string ⟨#[]⟩, .slice none 0 0] 28 (0, 0))) := by
    have h1 := heap_new w (.cells #[.int .i64 op, .int .i64 n, .string s, .slice p a.len c] 28)
    have h2 := heap_new (w.alloc (.cells #[.int .i64 op, .int .i64 n, .string s, .slice p a.len c] 28)) (.cells #[.int .i64 0, .int .i64 0, .string ⟨#[]⟩, .slice none 0 0] 28)
    rw [show (w.alloc (.cells #[.int .i64 op, .int .i64 n, .string s, .slice p a.len c] 28)).heap.size = w.heap.size + 1 by simp] at h2
    exact ⟨hid (((Ext.refl (S := fun _ => False) _).alloc _).heap h1 id), hid h2⟩
  have HP := hid (hp.ext EZ.out (fun _ _ => id))
  have hcI : (c : Int) ≤ 9223372036854775807 := by omega
  have hacI : (a.len : Int) ≤ c := by omega
  have HBZ := hid (show Below w.heap.size w ((w.alloc (.cells #[.int .i64 op, .int .i64 n, .string s, .slice p a.len c] 28)).alloc (.cells #[.int .i64 0, .int .i64 0, .string ⟨#[]⟩, .slice none 0 0] 28)) from (alloc_below w _).alloc (by simp) _)
  have HLt := hid (show ∀ x ∈ fa, x < w.heap.size from hp.lt)
  have HPw := hid hp
  have HFa := hid (show ∀ x ∈ fa, ¬ (x = w.heap.size + 1) from fun x hx e => by have := hp.lt x hx; omega)
  clear hp
  have hnl : ((a.len : Int) != 2) = false := by simp; omega
  obtain ⟨b, o, xo, xn, xs, xa, xp, xc, xf, yo, yn, ys, ya, yp, yc, yf, rfl, ha, hx, hy⟩ := args_two HPw.out hal
  have HX := hid hx
  have HY := hid hy
  have HA := hid ha
  have hn0 : 0 < a.len := by omega
  have hi0 : (0 : Int) < a.len := by omega
  have hn1 : 1 < a.len := by omega
  have hi1 : (1 : Int) < a.len := by omega
  have hr2 : rule2 op a = if ((op == 3 || op == 4) && (yo == 1 && yn == 0) || op == 5 && (yo == 1 && yn == 1)) = true then some (F.cons xo xn xs xa .nil) else if (op == 3 && (xo == 1 && xn == 0) || op == 5 && (xo == 1 && xn == 1)) = true then some (F.cons yo yn ys ya .nil) else if (op == 5 && ((xo == 1 && xn == 0) || (yo == 1 && yn == 0))) = true then some (numF 0) else none := by
    rw [ha]; rfl
  rw [e3, e4, e5] at hr2
  have HY1 := hid (fun w' => v_isNumber yo yn ys yp ya.len yc 1 w')
  have HX1 := hid (fun w' => v_isNumber xo xn xs xp xa.len xc 1 w')
  have HX0 := hid (fun w' => v_isNumber xo xn xs xp xa.len xc 0 w')
  have HY0 := hid (fun w' => v_isNumber yo yn ys yp ya.len yc 0 w')
  have HR2 := hid hr2
  generalize (yo == 1 && yn == 1) = by1 at HY1 HR2
  generalize (xo == 1 && xn == 1) = bx1 at HX1 HR2
  generalize (xo == 1 && xn == 0) = bx0 at HX0 HR2
  generalize (yo == 1 && yn == 0) = by0 at HY0 HR2
  clear hx hy ha hr2 hal
  have hbw : b < w.heap.size := HLt.out b HX.out.2.2.2.2.2
  have hbw1 : b < w.heap.size + 1 := by omega
  have hbw2 : b < w.heap.size + 1 + 1 := by omega
  have hbw3 : b < w.heap.size + 1 + 1 + 1 := by omega
  have hbn : b ≠ w.heap.size := by omega
  have hbn1 : b ≠ w.heap.size + 1 := by omega
  have hbn2 : b ≠ w.heap.size + 1 + 1 := by omega
  have hbn3 : b ≠ w.heap.size + 1 + 1 + 1 := by omega
  obtain ⟨x0, x1, x2, x3⟩ := HX.out.1
  obtain ⟨y0, y1, y2, y3⟩ := HY.out.1
  clear HP HB HR EZ HBZ
  go_enter Tryz.func181, Tryz.ntmps181
  go_wp2_with fail
  go_region
  all_goals clear hbw hbw1 hbw2 hbw3 hbn hbn1 hbn2 hbn3 x0 x1 x2 x3 y0 y1 y2 y3
  · obtain ⟨w5, hw5, hw1, hw2, hw3, hw4, he5⟩ := four_new w #[.int .i64 op, .int .i64 n, .string s, .slice (some ⟨b, o, none⟩) a.len c] #[.int .i64 0, .int .i64 0, .string ⟨#[]⟩, .slice none 0 0] #[.int .i64 xo, .int .i64 xn, .string xs, .slice xp xa.len xc] #[.int .i64 yo, .int .i64 yn, .string ys, .slice yp ya.len yc] 28
    rw [hw5]
    have HB5 := hid hw1
    have HR5 := hid hw2
    have HXB := hid hw3
    have HYB := hid hw4
    have E5w := hid he5
    have E5 := hid (Ext.refl (S := fun _ => False) w5)
    have HBW := hid (he5.below (Below.refl w.heap.size w) (fun _ _ => id))
    have hz5 : w.heap.size + 1 < w5.heap.size := by
      obtain ⟨⟨z0, _⟩, _⟩ := blk4 hw2
      exact World.block_lt_of_cell? _ _ z0
    clear hw5 hw1 hw2 hw3 hw4 he5
    obtain ⟨⟨c0, c1, c2, c3⟩, _⟩ := blk4 (E5.out.heap HB5.out id)
    obtain ⟨⟨z0, z1, z2, z3⟩, f0, f1, f2, f3⟩ := blk4 (E5.out.heap HR5.out id)
    obtain ⟨⟨p0, p1, p2, p3⟩, _⟩ := blk4 (E5.out.heap HXB.out id)
    obtain ⟨⟨q0, q1, q2, q3⟩, _⟩ := blk4 (E5.out.heap HYB.out id)
    clear c1 c2 c3
    go_wp2_with fail
    refine (HY1.out _).mono ?_
    rintro e w7 ⟨rfl, hb7⟩
    have E7 := hid (E5.out.trans (Ext.of_below (S := fun _ => False) hb7))
    have HB7 := hid (below_ext HBW.out E7.out (by omega))
    clear hb7
    obtain ⟨⟨c0, c1, c2, c3⟩, _⟩ := blk4 (E7.out.heap HB5.out id)
    obtain ⟨⟨z0, z1, z2, z3⟩, f0, f1, f2, f3⟩ := blk4 (E7.out.heap HR5.out id)
    obtain ⟨⟨p0, p1, p2, p3⟩, _⟩ := blk4 (E7.out.heap HXB.out id)
    obtain ⟨⟨q0, q1, q2, q3⟩, _⟩ := blk4 (E7.out.heap HYB.out id)
    clear c1 c2 c3
    have hz7 : w.heap.size + 1 < w7.heap.size := World.block_lt_of_cell? _ _ z0
    cases by1 with
    | true =>
      have HO := hid (show rule2 op a = if true = true then some (F.cons xo xn xs xa .nil) else none by first | exact HR2.out | (have h := HR2.out; simpa using h))
      go_wp2_with fail
      obtain ⟨W, hW, u0, u1, u2, u3, eW⟩ := set4_all (a0 := .int .i64 xo) (a1 := .int .i64 xn) (a2 := .string xs) (a3 := .slice xp xa.len xc) z0 z1 z2 z3
      rw [hW]
      exact bodyPost_ret (v := .tuple #[.agg #[.int .i64 xo, .int .i64 xn, .string xs, .slice xp xa.len xc], .bool true]) (by simp [results, Tryz.results181, go_sem, u0, u1, u2, u3]) rfl (arg_got (yes := true) ((hid (HX.out.ext (E5w.out.trans E7.out))).out.ext_s eW HFa.out) HO.out (below_at HB7.out eW (by omega) (by omega)))
    | false =>
      go_wp2_with fail
      refine (HX1.out _).mono ?_
      rintro e w8 ⟨rfl, hb8⟩
      have E8 := hid (E7.out.trans (Ext.of_below (S := fun _ => False) hb8))
      have HB8 := hid (below_ext HBW.out E8.out (by omega))
      clear hb8
      obtain ⟨⟨c0, c1, c2, c3⟩, _⟩ := blk4 (E8.out.heap HB5.out id)
      obtain ⟨⟨z0, z1, z2, z3⟩, f0, f1, f2, f3⟩ := blk4 (E8.out.heap HR5.out id)
      obtain ⟨⟨p0, p1, p2, p3⟩, _⟩ := blk4 (E8.out.heap HXB.out id)
      obtain ⟨⟨q0, q1, q2, q3⟩, _⟩ := blk4 (E8.out.heap HYB.out id)
      clear c1 c2 c3
      have hz8 : w.heap.size + 1 < w8.heap.size := World.block_lt_of_cell? _ _ z0
      cases bx1 with
      | true =>
        have HO := hid (show rule2 op a = if true = true then some (F.cons yo yn ys ya .nil) else none by first | exact HR2.out | (have h := HR2.out; simpa using h))
        go_wp2_with fail
        obtain ⟨W, hW, u0, u1, u2, u3, eW⟩ := set4_all (a0 := .int .i64 yo) (a1 := .int .i64 yn) (a2 := .string ys) (a3 := .slice yp ya.len yc) z0 z1 z2 z3
        rw [hW]
        exact bodyPost_ret (v := .tuple #[.agg #[.int .i64 yo, .int .i64 yn, .string ys, .slice yp ya.len yc], .bool true]) (by simp [results, Tryz.results181, go_sem, u0, u1, u2, u3]) rfl (arg_got (yes := true) ((hid (HY.out.ext (E5w.out.trans E8.out))).out.ext_s eW HFa.out) HO.out (below_at HB8.out eW (by omega) (by omega)))
      | false =>
        go_wp2_with fail
        refine (HX0.out _).mono ?_
        rintro e w9 ⟨rfl, hb9⟩
        have E9 := hid (E8.out.trans (Ext.of_below (S := fun _ => False) hb9))
        have HB9 := hid (below_ext HBW.out E9.out (by omega))
        clear hb9
        obtain ⟨⟨c0, c1, c2, c3⟩, _⟩ := blk4 (E9.out.heap HB5.out id)
        obtain ⟨⟨z0, z1, z2, z3⟩, f0, f1, f2, f3⟩ := blk4 (E9.out.heap HR5.out id)
        obtain ⟨⟨p0, p1, p2, p3⟩, _⟩ := blk4 (E9.out.heap HXB.out id)
        obtain ⟨⟨q0, q1, q2, q3⟩, _⟩ := blk4 (E9.out.heap HYB.out id)
        clear c1 c2 c3
        have hz9 : w.heap.size + 1 < w9.heap.size := World.block_lt_of_cell? _ _ z0
        cases bx0 with
        | true =>
          have HO := hid (show rule2 op a = if true = true then some (numF 0) else none by first | exact HR2.out | (have h := HR2.out; simpa using h))
          go_wp2_with fail
          refine (v_number 0 _).mono ?_
          rintro e w10 ⟨rfl, hb10⟩
          have E10 := hid (E9.out.trans (Ext.of_below (S := fun _ => False) hb10))
          have HB10 := hid (below_ext HBW.out E10.out (by omega))
          clear hb10
          obtain ⟨⟨c0, c1, c2, c3⟩, _⟩ := blk4 (E10.out.heap HB5.out id)
          obtain ⟨⟨z0, z1, z2, z3⟩, f0, f1, f2, f3⟩ := blk4 (E10.out.heap HR5.out id)
          obtain ⟨⟨p0, p1, p2, p3⟩, _⟩ := blk4 (E10.out.heap HXB.out id)
          obtain ⟨⟨q0, q1, q2, q3⟩, _⟩ := blk4 (E10.out.heap HYB.out id)
          clear c1 c2 c3
          have hz10 : w.heap.size + 1 < w10.heap.size := World.block_lt_of_cell? _ _ z0
          go_wp2_with fail
          obtain ⟨W, hW, u0, u1, u2, u3, eW⟩ := set4_all (a0 := .int .i64 1) (a1 := .int .i64 0) (a2 := .string ⟨#[]⟩) (a3 := .slice none 0 0) z0 z1 z2 z3
          rw [hW]
          exact bodyPost_ret (v := .tuple #[.agg #[.int .i64 1, .int .i64 0, .string ⟨#[]⟩, .slice none 0 0], .bool true]) (by simp [results, Tryz.results181, go_sem, u0, u1, u2, u3]) rfl (num_got (eq := true) HO.out (below_at HB10.out eW (by omega) (by omega)))
        | false =>
          go_wp2_with fail
          refine (HY0.out _).mono ?_
          rintro e w10 ⟨rfl, hb10⟩
          have E10 := hid (E9.out.trans (Ext.of_below (S := fun _ => False) hb10))
          have HB10 := hid (below_ext HBW.out E10.out (by omega))
          clear hb10
          obtain ⟨⟨c0, c1, c2, c3⟩, _⟩ := blk4 (E10.out.heap HB5.out id)
          obtain ⟨⟨z0, z1, z2, z3⟩, f0, f1, f2, f3⟩ := blk4 (E10.out.heap HR5.out id)
          obtain ⟨⟨p0, p1, p2, p3⟩, _⟩ := blk4 (E10.out.heap HXB.out id)
          obtain ⟨⟨q0, q1, q2, q3⟩, _⟩ := blk4 (E10.out.heap HYB.out id)
          clear c1 c2 c3
          have hz10 : w.heap.size + 1 < w10.heap.size := World.block_lt_of_cell? _ _ z0
          cases by0 with
          | true =>
            have HO := hid (show rule2 op a = if true = true then some (numF 0) else none by first | exact HR2.out | (have h := HR2.out; simpa using h))
            go_wp2_with fail
            refine (v_number 0 _).mono ?_
            rintro e w11 ⟨rfl, hb11⟩
            have E11 := hid (E10.out.trans (Ext.of_below (S := fun _ => False) hb11))
            have HB11 := hid (below_ext HBW.out E11.out (by omega))
            clear hb11
            obtain ⟨⟨c0, c1, c2, c3⟩, _⟩ := blk4 (E11.out.heap HB5.out id)
            obtain ⟨⟨z0, z1, z2, z3⟩, f0, f1, f2, f3⟩ := blk4 (E11.out.heap HR5.out id)
            obtain ⟨⟨p0, p1, p2, p3⟩, _⟩ := blk4 (E11.out.heap HXB.out id)
            obtain ⟨⟨q0, q1, q2, q3⟩, _⟩ := blk4 (E11.out.heap HYB.out id)
            clear c1 c2 c3
            have hz11 : w.heap.size + 1 < w11.heap.size := World.block_lt_of_cell? _ _ z0
            go_wp2_with fail
            obtain ⟨W, hW, u0, u1, u2, u3, eW⟩ := set4_all (a0 := .int .i64 1) (a1 := .int .i64 0) (a2 := .string ⟨#[]⟩) (a3 := .slice none 0 0) z0 z1 z2 z3
            rw [hW]
            exact bodyPost_ret (v := .tuple #[.agg #[.int .i64 1, .int .i64 0, .string ⟨#[]⟩, .slice none 0 0], .bool true]) (by simp [results, Tryz.results181, go_sem, u0, u1, u2, u3]) rfl (num_got (eq := true) HO.out (below_at HB11.out eW (by omega) (by omega)))
          | false =>
            have HO := hid (show rule2 op a = none by first | exact HR2.out | (have h := HR2.out; simpa using h))
            go_wp2_with fail
            obtain ⟨W, hW, u0, u1, u2, u3, eW⟩ := set4_all (a0 := .int .i64 0) (a1 := .int .i64 0) (a2 := .string ⟨#[]⟩) (a3 := .slice none 0 0) z0 z1 z2 z3
            rw [hW]
            exact bodyPost_ret (v := .tuple #[.agg #[.int .i64 0, .int .i64 0, .string ⟨#[]⟩, .slice none 0 0], .bool false]) (by simp [results, Tryz.results181, go_sem, u0, u1, u2, u3]) rfl (none_got HO.out (below_at HB10.out eW (by omega) (by omega)))
  · obtain ⟨w5, hw5, hw1, hw2, hw3, hw4, he5⟩ := four_new w #[.int .i64 op, .int .i64 n, .string s, .slice (some ⟨b, o, none⟩) a.len c] #[.int .i64 0, .int .i64 0, .string ⟨#[]⟩, .slice none 0 0] #[.int .i64 yo, .int .i64 yn, .string ys, .slice yp ya.len yc] #[.int .i64 xo, .int .i64 xn, .string xs, .slice xp xa.len xc] 28
    rw [hw5]
    have HB5 := hid hw1
    have HR5 := hid hw2
    have HXB := hid hw4
    have HYB := hid hw3
    have E5w := hid he5
    have E5 := hid (Ext.refl (S := fun _ => False) w5)
    have HBW := hid (he5.below (Below.refl w.heap.size w) (fun _ _ => id))
    have hz5 : w.heap.size + 1 < w5.heap.size := by
      obtain ⟨⟨z0, _⟩, _⟩ := blk4 hw2
      exact World.block_lt_of_cell? _ _ z0
    clear hw5 hw1 hw2 hw3 hw4 he5
    obtain ⟨⟨c0, c1, c2, c3⟩, _⟩ := blk4 (E5.out.heap HB5.out id)
    obtain ⟨⟨z0, z1, z2, z3⟩, f0, f1, f2, f3⟩ := blk4 (E5.out.heap HR5.out id)
    obtain ⟨⟨p0, p1, p2, p3⟩, _⟩ := blk4 (E5.out.heap HXB.out id)
    obtain ⟨⟨q0, q1, q2, q3⟩, _⟩ := blk4 (E5.out.heap HYB.out id)
    clear c1 c2 c3
    go_wp2_with fail
    refine (HY1.out _).mono ?_
    rintro e w7 ⟨rfl, hb7⟩
    have E7 := hid (E5.out.trans (Ext.of_below (S := fun _ => False) hb7))
    have HB7 := hid (below_ext HBW.out E7.out (by omega))
    clear hb7
    obtain ⟨⟨c0, c1, c2, c3⟩, _⟩ := blk4 (E7.out.heap HB5.out id)
    obtain ⟨⟨z0, z1, z2, z3⟩, f0, f1, f2, f3⟩ := blk4 (E7.out.heap HR5.out id)
    obtain ⟨⟨p0, p1, p2, p3⟩, _⟩ := blk4 (E7.out.heap HXB.out id)
    obtain ⟨⟨q0, q1, q2, q3⟩, _⟩ := blk4 (E7.out.heap HYB.out id)
    clear c1 c2 c3
    have hz7 : w.heap.size + 1 < w7.heap.size := World.block_lt_of_cell? _ _ z0
    cases by1 with
    | true =>
      have HO := hid (show rule2 op a = if true = true then some (F.cons xo xn xs xa .nil) else none by first | exact HR2.out | (have h := HR2.out; simpa using h))
      go_wp2_with fail
      obtain ⟨W, hW, u0, u1, u2, u3, eW⟩ := set4_all (a0 := .int .i64 xo) (a1 := .int .i64 xn) (a2 := .string xs) (a3 := .slice xp xa.len xc) z0 z1 z2 z3
      rw [hW]
      exact bodyPost_ret (v := .tuple #[.agg #[.int .i64 xo, .int .i64 xn, .string xs, .slice xp xa.len xc], .bool true]) (by simp [results, Tryz.results181, go_sem, u0, u1, u2, u3]) rfl (arg_got (yes := true) ((hid (HX.out.ext (E5w.out.trans E7.out))).out.ext_s eW HFa.out) HO.out (below_at HB7.out eW (by omega) (by omega)))
    | false =>
      go_wp2_with fail
      refine (HX1.out _).mono ?_
      rintro e w8 ⟨rfl, hb8⟩
      have E8 := hid (E7.out.trans (Ext.of_below (S := fun _ => False) hb8))
      have HB8 := hid (below_ext HBW.out E8.out (by omega))
      clear hb8
      obtain ⟨⟨c0, c1, c2, c3⟩, _⟩ := blk4 (E8.out.heap HB5.out id)
      obtain ⟨⟨z0, z1, z2, z3⟩, f0, f1, f2, f3⟩ := blk4 (E8.out.heap HR5.out id)
      obtain ⟨⟨p0, p1, p2, p3⟩, _⟩ := blk4 (E8.out.heap HXB.out id)
      obtain ⟨⟨q0, q1, q2, q3⟩, _⟩ := blk4 (E8.out.heap HYB.out id)
      clear c1 c2 c3
      have hz8 : w.heap.size + 1 < w8.heap.size := World.block_lt_of_cell? _ _ z0
      cases bx1 with
      | true =>
        have HO := hid (show rule2 op a = if true = true then some (F.cons yo yn ys ya .nil) else none by first | exact HR2.out | (have h := HR2.out; simpa using h))
        go_wp2_with fail
        obtain ⟨W, hW, u0, u1, u2, u3, eW⟩ := set4_all (a0 := .int .i64 yo) (a1 := .int .i64 yn) (a2 := .string ys) (a3 := .slice yp ya.len yc) z0 z1 z2 z3
        rw [hW]
        exact bodyPost_ret (v := .tuple #[.agg #[.int .i64 yo, .int .i64 yn, .string ys, .slice yp ya.len yc], .bool true]) (by simp [results, Tryz.results181, go_sem, u0, u1, u2, u3]) rfl (arg_got (yes := true) ((hid (HY.out.ext (E5w.out.trans E8.out))).out.ext_s eW HFa.out) HO.out (below_at HB8.out eW (by omega) (by omega)))
      | false =>
        go_wp2_with fail
        refine (HX0.out _).mono ?_
        rintro e w9 ⟨rfl, hb9⟩
        have E9 := hid (E8.out.trans (Ext.of_below (S := fun _ => False) hb9))
        have HB9 := hid (below_ext HBW.out E9.out (by omega))
        clear hb9
        obtain ⟨⟨c0, c1, c2, c3⟩, _⟩ := blk4 (E9.out.heap HB5.out id)
        obtain ⟨⟨z0, z1, z2, z3⟩, f0, f1, f2, f3⟩ := blk4 (E9.out.heap HR5.out id)
        obtain ⟨⟨p0, p1, p2, p3⟩, _⟩ := blk4 (E9.out.heap HXB.out id)
        obtain ⟨⟨q0, q1, q2, q3⟩, _⟩ := blk4 (E9.out.heap HYB.out id)
        clear c1 c2 c3
        have hz9 : w.heap.size + 1 < w9.heap.size := World.block_lt_of_cell? _ _ z0
        cases bx0 with
        | true =>
          have HO := hid (show rule2 op a = if true = true then some (numF 0) else none by first | exact HR2.out | (have h := HR2.out; simpa using h))
          go_wp2_with fail
          refine (v_number 0 _).mono ?_
          rintro e w10 ⟨rfl, hb10⟩
          have E10 := hid (E9.out.trans (Ext.of_below (S := fun _ => False) hb10))
          have HB10 := hid (below_ext HBW.out E10.out (by omega))
          clear hb10
          obtain ⟨⟨c0, c1, c2, c3⟩, _⟩ := blk4 (E10.out.heap HB5.out id)
          obtain ⟨⟨z0, z1, z2, z3⟩, f0, f1, f2, f3⟩ := blk4 (E10.out.heap HR5.out id)
          obtain ⟨⟨p0, p1, p2, p3⟩, _⟩ := blk4 (E10.out.heap HXB.out id)
          obtain ⟨⟨q0, q1, q2, q3⟩, _⟩ := blk4 (E10.out.heap HYB.out id)
          clear c1 c2 c3
          have hz10 : w.heap.size + 1 < w10.heap.size := World.block_lt_of_cell? _ _ z0
          go_wp2_with fail
          obtain ⟨W, hW, u0, u1, u2, u3, eW⟩ := set4_all (a0 := .int .i64 1) (a1 := .int .i64 0) (a2 := .string ⟨#[]⟩) (a3 := .slice none 0 0) z0 z1 z2 z3
          rw [hW]
          exact bodyPost_ret (v := .tuple #[.agg #[.int .i64 1, .int .i64 0, .string ⟨#[]⟩, .slice none 0 0], .bool true]) (by simp [results, Tryz.results181, go_sem, u0, u1, u2, u3]) rfl (num_got (eq := true) HO.out (below_at HB10.out eW (by omega) (by omega)))
        | false =>
          go_wp2_with fail
          refine (HY0.out _).mono ?_
          rintro e w10 ⟨rfl, hb10⟩
          have E10 := hid (E9.out.trans (Ext.of_below (S := fun _ => False) hb10))
          have HB10 := hid (below_ext HBW.out E10.out (by omega))
          clear hb10
          obtain ⟨⟨c0, c1, c2, c3⟩, _⟩ := blk4 (E10.out.heap HB5.out id)
          obtain ⟨⟨z0, z1, z2, z3⟩, f0, f1, f2, f3⟩ := blk4 (E10.out.heap HR5.out id)
          obtain ⟨⟨p0, p1, p2, p3⟩, _⟩ := blk4 (E10.out.heap HXB.out id)
          obtain ⟨⟨q0, q1, q2, q3⟩, _⟩ := blk4 (E10.out.heap HYB.out id)
          clear c1 c2 c3
          have hz10 : w.heap.size + 1 < w10.heap.size := World.block_lt_of_cell? _ _ z0
          cases by0 with
          | true =>
            have HO := hid (show rule2 op a = if true = true then some (numF 0) else none by first | exact HR2.out | (have h := HR2.out; simpa using h))
            go_wp2_with fail
            refine (v_number 0 _).mono ?_
            rintro e w11 ⟨rfl, hb11⟩
            have E11 := hid (E10.out.trans (Ext.of_below (S := fun _ => False) hb11))
            have HB11 := hid (below_ext HBW.out E11.out (by omega))
            clear hb11
            obtain ⟨⟨c0, c1, c2, c3⟩, _⟩ := blk4 (E11.out.heap HB5.out id)
            obtain ⟨⟨z0, z1, z2, z3⟩, f0, f1, f2, f3⟩ := blk4 (E11.out.heap HR5.out id)
            obtain ⟨⟨p0, p1, p2, p3⟩, _⟩ := blk4 (E11.out.heap HXB.out id)
            obtain ⟨⟨q0, q1, q2, q3⟩, _⟩ := blk4 (E11.out.heap HYB.out id)
            clear c1 c2 c3
            have hz11 : w.heap.size + 1 < w11.heap.size := World.block_lt_of_cell? _ _ z0
            go_wp2_with fail
            obtain ⟨W, hW, u0, u1, u2, u3, eW⟩ := set4_all (a0 := .int .i64 1) (a1 := .int .i64 0) (a2 := .string ⟨#[]⟩) (a3 := .slice none 0 0) z0 z1 z2 z3
            rw [hW]
            exact bodyPost_ret (v := .tuple #[.agg #[.int .i64 1, .int .i64 0, .string ⟨#[]⟩, .slice none 0 0], .bool true]) (by simp [results, Tryz.results181, go_sem, u0, u1, u2, u3]) rfl (num_got (eq := true) HO.out (below_at HB11.out eW (by omega) (by omega)))
          | false =>
            have HO := hid (show rule2 op a = none by first | exact HR2.out | (have h := HR2.out; simpa using h))
            go_wp2_with fail
            obtain ⟨W, hW, u0, u1, u2, u3, eW⟩ := set4_all (a0 := .int .i64 0) (a1 := .int .i64 0) (a2 := .string ⟨#[]⟩) (a3 := .slice none 0 0) z0 z1 z2 z3
            rw [hW]
            exact bodyPost_ret (v := .tuple #[.agg #[.int .i64 0, .int .i64 0, .string ⟨#[]⟩, .slice none 0 0], .bool false]) (by simp [results, Tryz.results181, go_sem, u0, u1, u2, u3]) rfl (none_got HO.out (below_at HB10.out eW (by omega) (by omega)))
end Go.Proofs.YtkgciohebloffaaGreat
