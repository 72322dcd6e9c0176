/- Texts joined: RRul6, RRules. -/
import Derived.Test.YtkgciohebloffaaGreatJS44
import Derived.Test.YtkgciohebloffaaGreatJS12
import Derived.Deep.RegionHeld3
import Derived.Deep.RegionLaw
import Derived.Deep.RegionWith
import Derived.Test.YtkgciohebloffaaGreatJS45
import Derived.Test.YtkgciohebloffaaGreatJS46
import Derived.Test.YtkgciohebloffaaGreatJS47
import Derived.Test.YtkgciohebloffaaGreatJS38
import Derived.Laws.EntriesVeiled
/- Rule 6, the reference's. (Made by tools/gen/rulr.py.) -/
namespace Go.Proofs.YtkgciohebloffaaGreat
open Go.RowKit

set_option maxRecDepth 100000 in
set_option maxHeartbeats 4000000 in
theorem r_rule6 (op n : Int) (s : ByteArray) (a : F) (p : Option Addr) (c : Nat) (fa : List Nat) (w : World) (hs : (F.cons op n s a .nil).Small) (hp : RdP w a p fa) (hac : a.len ≤ c) (hc : c ≤ 9223372036854775807) :
    Calls Tryz.prog 132 #[.int .i64 op, .slice p a.len c] w (GotRule fa (rule6 op a) w) := by
  have EZ := hid ((Ext.refl (S := fun _ => False) w).alloc (.cells #[.int .i64 0, .int .i64 0, .string ⟨#[]⟩, .slice none 0 0] 28))
  have HR := hid (heap_new w (.cells #[.int .i64 0, .int .i64 0, .string ⟨#[]⟩, .slice none 0 0] 28))
  have HP := hid (hp.ext EZ.out (fun _ _ => id))
  have hcI : (c : Int) ≤ 9223372036854775807 := by omega
  have hacI : (a.len : Int) ≤ c := by omega
  have HBZ := hid (alloc_below w (.cells #[.int .i64 0, .int .i64 0, .string ⟨#[]⟩, .slice none 0 0] 28))
  have HFa := hid (show ∀ x ∈ fa, ¬ (x = w.heap.size) from fun x hx e => by have := hp.lt x hx; omega)
  clear hp
  by_cases h7 : op = 7
  · have hal : a.len = 2 := by
      have h := hs.1.2.2
      subst h7; simp [ar] at h; omega
    obtain ⟨b, o, xo, xn, xs, xa, xp, xc, xf, yo, yn, ys, ya, yp, yc, yf, rfl, ha, hx, hy⟩ := args_two HP.out hal
    have HX := hid hx
    have HY := hid hy
    have HA := hid ha
    have hn0 : 0 < a.len := by omega
    have hi0 : (0 : Int) < a.len := by omega
    have hn1 : 1 < a.len := by omega
    have hi1 : (1 : Int) < a.len := by omega
    have hr6 : rule6 op a = if (yo == 1 && yn == 0) = true then some (notF (F.cons xo xn xs xa .nil)) else if (xo == 1 && xn == 0) = true then some (notF (F.cons yo yn ys ya .nil)) else none := by
      rw [h7, ha]; rfl
    have HN1 := hid (fun w' => r_isN yo yn ys yp ya.len yc 0 w')
    have HN2 := hid (fun w' => r_isN xo xn xs xp xa.len xc 0 w')
    have HR6 := hid hr6
    generalize (yo == 1 && yn == 0) = r1 at HN1 HR6
    generalize (xo == 1 && xn == 0) = r2 at HN2 HR6
    have e7 : (op == 7) = true := by simp [h7]
    have e8 : (op == 8) = false := by simp [h7]
    clear hx hy ha hs hal hr6 h7
    obtain ⟨⟨z0, z1, z2, z3⟩, f0, f1, f2, f3⟩ := blk4 HR.out
    obtain ⟨x0, x1, x2, x3⟩ := HX.out.1
    obtain ⟨y0, y1, y2, y3⟩ := HY.out.1
    go_enter Tryz.func132, Tryz.ntmps132
    go_wp2_with fail
    refine (HN1.out _).mono ?_
    rintro e w6 ⟨rfl, hb6⟩
    have E6 := hid (Ext.of_below (S := fun _ => False) hb6)
    have HB6 := hid (below_ext HBZ.out E6.out (by simp))
    obtain ⟨⟨z0, z1, z2, z3⟩, f0, f1, f2, f3⟩ := blk4 (E6.out.heap HR.out id)
    have hz6 : w.heap.size < w6.heap.size := World.block_lt_of_cell? _ _ z0
    clear hb6
    have HX6 := hid (HX.out.ext E6.out)
    obtain ⟨x0, x1, x2, x3⟩ := HX6.out.1
    have HY6 := hid (HY.out.ext E6.out)
    obtain ⟨y0, y1, y2, y3⟩ := HY6.out.1
    cases r1 with
    | true =>
      go_wp2_with fail
      refine (r_not xo xn xs xp xa.len xc _).mono ?_
      rintro e w7 ⟨rfl, hg, hb7⟩
      have E7 := hid (E6.out.trans (Ext.of_below (S := fun _ => False) hb7))
      have HB7 := hid (below_ext HBZ.out E7.out (by simp))
      have HG := hid hg
      obtain ⟨⟨z0, z1, z2, z3⟩, f0, f1, f2, f3⟩ := blk4 (E7.out.heap HR.out id)
      have hz7 : w.heap.size < w7.heap.size := World.block_lt_of_cell? _ _ z0
      have HX7 := hid (HX.out.ext E7.out)
      clear hb7 hg
      go_wp2_with fail
      obtain ⟨W, hW, u0, u1, u2, u3, eW⟩ := set4_all (a0 := .int .i64 8) (a1 := .int .i64 0) (a2 := .string ⟨#[]⟩) (a3 := .slice (some ⟨w6.heap.size + 2, 0, none⟩) 1 1) z0 z1 z2 z3
      rw [hW]
      exact bodyPost_ret (v := .tuple #[.agg #[.int .i64 8, .int .i64 0, .string ⟨#[]⟩, .slice (some ⟨w6.heap.size + 2, 0, none⟩) 1 1], .bool true]) (by simp [results, Tryz.results132, go_sem, u0, u1, u2, u3]) rfl (not_got (HX7.out.ext_s eW HFa.out) (eW.heap HG.out (by omega)) (by omega) HR6.out (below_at HB7.out eW (by omega) (by omega)))
    | false =>
      go_wp2_with fail
      refine (HN2.out _).mono ?_
      rintro e w7 ⟨rfl, hb7⟩
      have E7 := hid (E6.out.trans (Ext.of_below (S := fun _ => False) hb7))
      have HB7 := hid (below_ext HBZ.out E7.out (by simp))
      obtain ⟨⟨z0, z1, z2, z3⟩, f0, f1, f2, f3⟩ := blk4 (E7.out.heap HR.out id)
      have hz7 : w.heap.size < w7.heap.size := World.block_lt_of_cell? _ _ z0
      clear hb7
      have HX7 := hid (HX.out.ext E7.out)
      obtain ⟨x0, x1, x2, x3⟩ := HX7.out.1
      have HY7 := hid (HY.out.ext E7.out)
      obtain ⟨y0, y1, y2, y3⟩ := HY7.out.1
      cases r2 with
      | true =>
        go_wp2_with fail
        refine (r_not yo yn ys yp ya.len yc _).mono ?_
        rintro e w8 ⟨rfl, hg, hb8⟩
        have E8 := hid (E7.out.trans (Ext.of_below (S := fun _ => False) hb8))
        have HB8 := hid (below_ext HBZ.out E8.out (by simp))
        have HG := hid hg
        obtain ⟨⟨z0, z1, z2, z3⟩, f0, f1, f2, f3⟩ := blk4 (E8.out.heap HR.out id)
        have hz8 : w.heap.size < w8.heap.size := World.block_lt_of_cell? _ _ z0
        have HY8 := hid (HY.out.ext E8.out)
        clear hb8 hg
        go_wp2_with fail
        obtain ⟨W, hW, u0, u1, u2, u3, eW⟩ := set4_all (a0 := .int .i64 8) (a1 := .int .i64 0) (a2 := .string ⟨#[]⟩) (a3 := .slice (some ⟨w7.heap.size + 2, 0, none⟩) 1 1) z0 z1 z2 z3
        rw [hW]
        exact bodyPost_ret (v := .tuple #[.agg #[.int .i64 8, .int .i64 0, .string ⟨#[]⟩, .slice (some ⟨w7.heap.size + 2, 0, none⟩) 1 1], .bool true]) (by simp [results, Tryz.results132, go_sem, u0, u1, u2, u3]) rfl (not_got (HY8.out.ext_s eW HFa.out) (eW.heap HG.out (by omega)) (by omega) HR6.out (below_at HB8.out eW (by omega) (by omega)))
      | false =>
        go_wp2_with fail
        obtain ⟨W, hW, u0, u1, u2, u3, eW⟩ := set4_all (a0 := .int .i64 0) (a1 := .int .i64 0) (a2 := .string ⟨#[]⟩) (a3 := .slice none 0 0) z0 z1 z2 z3
        rw [hW]
        exact bodyPost_ret (v := .tuple #[.agg #[.int .i64 0, .int .i64 0, .string ⟨#[]⟩, .slice none 0 0], .bool false]) (by simp [results, Tryz.results132, go_sem, u0, u1, u2, u3]) rfl (none_got HR6.out (below_at HB7.out eW (by omega) (by omega)))
  · have e7 : (op == 7) = false := by simpa using h7
    by_cases h8 : op = 8
    · have hal : a.len = 1 := by
        have h := hs.1.2.2
        subst h8; simp [ar] at h; omega
      obtain ⟨b, o, xo, xn, xs, xa, xp, xc, xf, rfl, ha, hx⟩ := args_one HP.out hal
      have HX := hid hx
      have HA := hid ha
      have e8 : (op == 8) = true := by simp [h8]
      have hn0 : 0 < a.len := by omega
      have hi0 : (0 : Int) < a.len := by omega
      have hr6 : rule6 op a = if (xo == 8 && opF xa == 8) = true then some (xa.take 1) else none := by
        rw [h8, ha]; rfl
      have HR6 := hid hr6
      have HSx := hid (show (F.cons xo xn xs xa .nil).Small by have h := hs.2.1; rw [ha] at h; exact h)
      clear hx ha hs hal hr6 h8 h7
      obtain ⟨⟨z0, z1, z2, z3⟩, f0, f1, f2, f3⟩ := blk4 HR.out
      obtain ⟨x0, x1, x2, x3⟩ := HX.out.1
      by_cases hx8 : xo = 8
      · have ex : (xo == 8) = true := by simp [hx8]
        have hxl : xa.len = 1 := by
          have h := HSx.out.1.2.2
          subst hx8; simp [ar] at h; omega
        obtain ⟨b', o', zo, zn, zs, za, zp, zc, zf, rfl, ha2, hzz⟩ := args_one HX.out.2.2.2.1 hxl
        have HZ := hid (show Arg _ fa b' o' zo zn zs za zp zc zf from ⟨hzz.1, hzz.2.1, hzz.2.2.1, hzz.2.2.2.1, fun x hx => HX.out.2.2.2.2.1 x (hzz.2.2.2.2.1 x hx), HX.out.2.2.2.2.1 b' hzz.2.2.2.2.2⟩)
        have hR2 := HR6.out
        rw [ex, Bool.true_and, ha2] at hR2
        have HR7 := hid (show rule6 op a = if (zo == 8) = true then some (F.cons zo zn zs za .nil) else none from hR2)
        have hm0 : 0 < xa.len := by omega
        have hj0 : (0 : Int) < xa.len := by omega
        obtain ⟨q0, q1, q2, q3⟩ := HZ.out.1
        clear hx8 hxl hzz ha2 hR2 HR6
        by_cases hz8 : zo = 8
        · have ez : (zo == 8) = true := by simp [hz8]
          have HO := hid (show rule6 op a = if true = true then some (F.cons zo zn zs za .nil) else none by rw [HR7.out, ez])
          clear hz8
          go_enter Tryz.func132, Tryz.ntmps132
          go_wp2_with fail
          exact bodyPost_ret (v := .tuple #[.agg #[.int .i64 zo, .int .i64 zn, .string zs, .slice zp za.len zc], .bool true]) (by simp [results, Tryz.results132, go_sem]) rfl (arg_got (yes := true) (HZ.out.ext_s (alloc_other _ _ _ rfl) HFa.out) HO.out (alloc_below w _))
        · have ez : (zo == 8) = false := by simpa using hz8
          have HO := hid (show rule6 op a = none by rw [HR7.out, ez]; rfl)
          clear hz8
          go_enter Tryz.func132, Tryz.ntmps132
          go_wp2_with fail
          exact bodyPost_ret (v := .tuple #[.agg #[.int .i64 0, .int .i64 0, .string ⟨#[]⟩, .slice none 0 0], .bool false]) (by simp [results, Tryz.results132, go_sem]) rfl (none_got HO.out HBZ.out)
      · have ex : (xo == 8) = false := by simpa using hx8
        have HO := hid (show rule6 op a = none by rw [HR6.out, ex]; rfl)
        clear hx8
        go_enter Tryz.func132, Tryz.ntmps132
        go_wp2_with fail
        exact bodyPost_ret (v := .tuple #[.agg #[.int .i64 0, .int .i64 0, .string ⟨#[]⟩, .slice none 0 0], .bool false]) (by simp [results, Tryz.results132, go_sem]) rfl (none_got HO.out HBZ.out)
    · have e8 : (op == 8) = false := by simpa using h8
      have HO := hid (show rule6 op a = none by unfold rule6; rw [e7, e8]; rfl)
      clear h8 h7
      obtain ⟨⟨z0, z1, z2, z3⟩, f0, f1, f2, f3⟩ := blk4 HR.out
      go_enter Tryz.func132, Tryz.ntmps132
      go_wp2_with fail
      exact bodyPost_ret (v := .tuple #[.agg #[.int .i64 0, .int .i64 0, .string ⟨#[]⟩, .slice none 0 0], .bool false]) (by simp [results, Tryz.results132, go_sem]) rfl (none_got HO.out HBZ.out)
end Go.Proofs.YtkgciohebloffaaGreat
/- rules, the reference's: all rules in a row; a rule as a function value. -/
namespace Go.Proofs.YtkgciohebloffaaGreat
open Go.RowKit

theorem calls_eq {k : Nat} {xs ys : Array Value} {w : World} {Q : Ending → World → Prop} (e : xs = ys) (h : Calls Tryz.prog k ys w Q) : Calls Tryz.prog k xs w Q := by rw [e]; exact h
set_option maxRecDepth 100000 in
theorem rules_ok (w : World) (T1 T2 T3 : TypeId) : RulesOk (((w.alloc (.cells #[.func (.func 122) #[] #[]] T1)).alloc (.cells #[.func (.func 123) #[] #[]] T2)).alloc (.cells #[.func (.func 125) #[] #[], .func (.func 127) #[] #[.pointer (some ⟨w.heap.size + 1, 0, none⟩)], .func (.func 129) #[] #[.pointer (some ⟨w.heap.size + 1, 0, none⟩), .pointer (some ⟨w.heap.size, 0, none⟩)], .func (.func 130) #[] #[], .func (.func 131) #[] #[], .func (.func 132) #[] #[]] T3)) (w.heap.size + 2) := by
  have E : ∀ (v : World) (o : Obj), Ext (fun _ => False) v (v.alloc o) := fun v o => (Ext.refl v).alloc o
  have h1 := heap_new w (.cells #[.func (.func 122) #[] #[]] T1)
  have h2 := heap_new (w.alloc (.cells #[.func (.func 122) #[] #[]] T1)) (.cells #[.func (.func 123) #[] #[]] T2)
  have h3 := heap_new ((w.alloc (.cells #[.func (.func 122) #[] #[]] T1)).alloc (.cells #[.func (.func 123) #[] #[]] T2)) (.cells #[.func (.func 125) #[] #[], .func (.func 127) #[] #[.pointer (some ⟨w.heap.size + 1, 0, none⟩)], .func (.func 129) #[] #[.pointer (some ⟨w.heap.size + 1, 0, none⟩), .pointer (some ⟨w.heap.size, 0, none⟩)], .func (.func 130) #[] #[], .func (.func 131) #[] #[], .func (.func 132) #[] #[]] T3)
  rw [show (w.alloc (.cells #[.func (.func 122) #[] #[]] T1)).heap.size = w.heap.size + 1 by simp] at h2
  rw [show ((w.alloc (.cells #[.func (.func 122) #[] #[]] T1)).alloc (.cells #[.func (.func 123) #[] #[]] T2)).heap.size = w.heap.size + 2 by simp] at h3
  have g1 := (E _ (.cells #[.func (.func 125) #[] #[], .func (.func 127) #[] #[.pointer (some ⟨w.heap.size + 1, 0, none⟩)], .func (.func 129) #[] #[.pointer (some ⟨w.heap.size + 1, 0, none⟩), .pointer (some ⟨w.heap.size, 0, none⟩)], .func (.func 130) #[] #[], .func (.func 131) #[] #[], .func (.func 132) #[] #[]] T3)).heap ((E _ (.cells #[.func (.func 123) #[] #[]] T2)).heap h1 id) id
  have g2 := (E _ (.cells #[.func (.func 125) #[] #[], .func (.func 127) #[] #[.pointer (some ⟨w.heap.size + 1, 0, none⟩)], .func (.func 129) #[] #[.pointer (some ⟨w.heap.size + 1, 0, none⟩), .pointer (some ⟨w.heap.size, 0, none⟩)], .func (.func 130) #[] #[], .func (.func 131) #[] #[], .func (.func 132) #[] #[]] T3)).heap h2 id
  generalize (((w.alloc (.cells #[.func (.func 122) #[] #[]] T1)).alloc (.cells #[.func (.func 123) #[] #[]] T2)).alloc (.cells #[.func (.func 125) #[] #[], .func (.func 127) #[] #[.pointer (some ⟨w.heap.size + 1, 0, none⟩)], .func (.func 129) #[] #[.pointer (some ⟨w.heap.size + 1, 0, none⟩), .pointer (some ⟨w.heap.size, 0, none⟩)], .func (.func 130) #[] #[], .func (.func 131) #[] #[], .func (.func 132) #[] #[]] T3)) = W3 at *
  have d1 : W3.cell? ⟨w.heap.size, 0, none⟩ = some (.func (.func 122) #[] #[]) := by rw [cell_of_row _ _ _ _ _ _ g1]; rfl
  have d2 : W3.cell? ⟨w.heap.size + 1, 0, none⟩ = some (.func (.func 123) #[] #[]) := by rw [cell_of_row _ _ _ _ _ _ g2]; rfl
  have k1 : ∀ W', Ext (fun _ => False) W3 W' → W'.cell? ⟨w.heap.size, 0, none⟩ = some (.func (.func 122) #[] #[]) := fun W' e => e.cell_some d1 id
  have k2 : ∀ W', Ext (fun _ => False) W3 W' → W'.cell? ⟨w.heap.size + 1, 0, none⟩ = some (.func (.func 123) #[] #[]) := fun W' e => e.cell_some d2 id
  intro k hk
  match k, hk with
  | 0, _ => exact ⟨_, by rw [cell_of_row _ _ _ _ _ _ h3]; rfl, _, _, rfl, enters_of Tryz.func125 (by kernel_rfl) rfl, fun op n s a p c fa W' e hs hp g1 g2 => calls_eq (by simp) (r_rule1 op n s a p c fa W' hs hp g1 g2)⟩
  | 1, _ => exact ⟨_, by rw [cell_of_row _ _ _ _ _ _ h3]; rfl, _, _, rfl, enters_of Tryz.func127 (by kernel_rfl) rfl, fun op n s a p c fa W' e hs hp g1 g2 => calls_eq (by simp) (r_rule2 op n s a p c fa W' hs hp g1 g2 (w.heap.size + 1) (k2 W' e))⟩
  | 2, _ => exact ⟨_, by rw [cell_of_row _ _ _ _ _ _ h3]; rfl, _, _, rfl, enters_of Tryz.func129 (by kernel_rfl) rfl, fun op n s a p c fa W' e hs hp g1 g2 => calls_eq (by simp) (r_rule3 op n s a p c fa W' hs hp g1 g2 (w.heap.size + 1) w.heap.size (k2 W' e) (k1 W' e))⟩
  | 3, _ => exact ⟨_, by rw [cell_of_row _ _ _ _ _ _ h3]; rfl, _, _, rfl, enters_of Tryz.func130 (by kernel_rfl) rfl, fun op n s a p c fa W' e hs hp g1 g2 => calls_eq (by simp) (r_rule4 op n s a p c fa W' hs hp g1 g2)⟩
  | 4, _ => exact ⟨_, by rw [cell_of_row _ _ _ _ _ _ h3]; rfl, _, _, rfl, enters_of Tryz.func131 (by kernel_rfl) rfl, fun op n s a p c fa W' e hs hp g1 g2 => calls_eq (by simp) (r_rule5 op n s a p c fa W' hs hp g1 g2)⟩
  | 5, _ => exact ⟨_, by rw [cell_of_row _ _ _ _ _ _ h3]; rfl, _, _, rfl, enters_of Tryz.func132 (by kernel_rfl) rfl, fun op n s a p c fa W' e hs hp g1 g2 => calls_eq (by simp) (r_rule6 op n s a p c fa W' hs hp g1 g2)⟩

set_option maxHeartbeats 1000000 in
theorem r_rules : RulesSaid := by
  intro w
  have hmf : ∀ (fn : Fn) (first cap : Array Value) (w : World), (Instr.makeFunc fn first cap).run Tryz.prog w = .ok (.func fn first cap) w := fun _ _ _ _ => rfl
  go_enter Tryz.func76, Tryz.ntmps76
  go_wp2_with fail
  go_ret
  exact ⟨⟨w.heap.size + 2, rfl, rules_ok w _ _ _⟩, ((alloc_below w _).alloc (by simp) _).alloc (by simp; omega) _⟩
end Go.Proofs.YtkgciohebloffaaGreat
