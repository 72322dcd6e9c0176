/- Texts joined: RRul3, RRul4, RRul5. -/
import Derived.Test.YtkgciohebloffaaGreatJS44
import Derived.Test.YtkgciohebloffaaGreatJS12
import Derived.Deep.RegionHeld3
import Derived.Deep.RegionLaw
import Derived.Deep.RegionWith
/- Rule 3 and the two functions that the rules share, the reference's; all rules, in a row. -/
namespace Go.Proofs.YtkgciohebloffaaGreat
open Go.RowKit

theorem r_first3 (op : Int) (q : Option Addr) (k c : Nat) (x y z : Int) (g cc : Nat) (w : World) (hat : IntsAt w g 0 [x, y, z]) :
    Calls Tryz.prog 123 #[.int .i64 op, .slice q k c, .slice (some ⟨g, 0, none⟩) 3 cc] w fun e w' => e = .returned (.bool (amg [x, y, z] op)) ∧ w = w' := r_first op q k c [x, y, z] g 0 cc w hat (by simp)

set_option maxRecDepth 100000 in
set_option maxHeartbeats 4000000 in
theorem r_same (a : F) (p : Option Addr) (c : Nat) (fa : List Nat) (w : World) (hal : a.len = 2) (hp : RdP w a p fa) (hac : a.len ≤ c) (hc : c ≤ 9223372036854775807) :
    Calls Tryz.prog 122 #[.slice p a.len c] w fun e w' => e = .returned (.bool (eqF a (a.drop 1))) ∧ Below w.heap.size w w' := by
  obtain ⟨b, o, xo, xn, xs, xa, xp, xc, xf, yo, yn, ys, ya, yp, yc, yf, rfl, ha, hx, hy⟩ := args_two hp hal
  have HX := hid hx
  have HY := hid hy
  have hn0 : 0 < a.len := by omega
  have hi0 : (0 : Int) < a.len := by omega
  have hn1 : 1 < a.len := by omega
  have hi1 : (1 : Int) < a.len := by omega
  have hcI : (c : Int) ≤ 9223372036854775807 := by omega
  have hacI : (a.len : Int) ≤ c := by omega
  have h2 : ((a.len : Int) == 2) = true := by simp; omega
  have HEq := hid (show eqF a (a.drop 1) = sameE xo xn xs xa yo yn ys ya by rw [ha]; rfl)
  have HEQ := hid (fun w' (h1 : RdP w' xa xp xf) (h2 : RdP w' ya yp yf) => q_SameExpr (xa.size + 1) xo xn xs xa xp xc xf yo yn ys ya yp yc yf w' (by omega) h1 h2 HX.out.2.1 HX.out.2.2.1 HY.out.2.1 HY.out.2.2.1)
  generalize sameE xo xn xs xa yo yn ys ya = r at HEQ HEq
  have E0 := hid ((Ext.refl (S := fun _ => False) w).drew)
  obtain ⟨x0, x1, x2, x3⟩ := HX.out.1
  obtain ⟨y0, y1, y2, y3⟩ := HY.out.1
  obtain ⟨x0d, x1d, x2d, x3d⟩ := (HX.out.ext E0.out).1
  obtain ⟨y0d, y1d, y2d, y3d⟩ := (HY.out.ext E0.out).1
  clear hx hy ha hal hp
  go_enter Tryz.func122, Tryz.ntmps122
  go_wp2_with fail
  first
    | (go_region_law (first
        | (go_simp; go_at_call 31; refine (HEQ.out _ (HX.out.ext E0.out).2.2.2.1 (HY.out.ext E0.out).2.2.2.1).mono ?_; rintro e w7 ⟨rfl, hb7⟩; have E7 := hid (E0.out.trans (Ext.of_below (S := fun _ => False) hb7)); clear hb7)))
    | fail "the region"
  all_goals
    go_wp2_with fail
    go_ret
    exact ⟨ret_bool HEq.out.symm, E7.out.below (Below.refl _ _) (fun _ _ => id)⟩

set_option maxRecDepth 100000 in
set_option maxHeartbeats 4000000 in
theorem r_rule3 (op n : Int) (s : ByteArray) (a : F) (p : Option Addr) (c : Nat) (fa : List Nat) (w : World) (hs : (F.cons op n s a .nil).Small) (hp : RdP w a p fa) (hac : a.len ≤ c) (hc : c ≤ 9223372036854775807) (fb sb : Nat) (hfb : w.cell? ⟨fb, 0, none⟩ = some (.func (.func 123) #[] #[])) (hsb : w.cell? ⟨sb, 0, none⟩ = some (.func (.func 122) #[] #[])) :
    Calls Tryz.prog 129 #[.int .i64 op, .slice p a.len c, .pointer (some ⟨fb, 0, none⟩), .pointer (some ⟨sb, 0, none⟩)] w (GotRule fa (rule3 op a) w) := by
  have EZ := hid ((Ext.refl (S := fun _ => False) w).alloc (.cells #[.int .i64 0, .int .i64 0, .string ⟨#[]⟩, .slice none 0 0] 28))
  have HR := hid (heap_new w (.cells #[.int .i64 0, .int .i64 0, .string ⟨#[]⟩, .slice none 0 0] 28))
  have E0 := hid EZ.out.drew
  have HP := hid hp
  have HFB := hid hfb
  have HSB := hid hsb
  have k0 := E0.out.cell_some hfb id
  have k1 := E0.out.cell_some hsb id
  have hcI : (c : Int) ≤ 9223372036854775807 := by omega
  have hacI : (a.len : Int) ≤ c := by omega
  have HBZ := hid (alloc_below w (.cells #[.int .i64 0, .int .i64 0, .string ⟨#[]⟩, .slice none 0 0] 28))
  obtain ⟨⟨z0d, z1d, z2d, z3d⟩, f0d, f1d, f2d, f3d⟩ := blk4 (show (w.alloc (.cells #[.int .i64 0, .int .i64 0, .string ⟨#[]⟩, .slice none 0 0] 28)).drew.heap[w.heap.size]? = _ from HR.out)
  have E8 := hid ((Ext.refl (S := fun _ => False) w).alloc (.cells #[.int .i64 0, .int .i64 0, .string ⟨#[]⟩, .slice none 0 0] 28))
  have E9 := hid ((Ext.refl (S := fun _ => False) (w.alloc (.cells #[.int .i64 0, .int .i64 0, .string ⟨#[]⟩, .slice none 0 0] 28))).drew)
  have HRow := hid (show ((w.alloc (.cells #[.int .i64 0, .int .i64 0, .string ⟨#[]⟩, .slice none 0 0] 28)).alloc (.cells #[.int .i64 4, .int .i64 6, .int .i64 7] 3)).drew.heap[w.heap.size + 1]? = some (.cells #[.int .i64 4, .int .i64 6, .int .i64 7] 3 (0, 0)) from by have h := heap_new (w.alloc (.cells #[.int .i64 0, .int .i64 0, .string ⟨#[]⟩, .slice none 0 0] 28)) (.cells #[.int .i64 4, .int .i64 6, .int .i64 7] 3); rwa [show (w.alloc (.cells #[.int .i64 0, .int .i64 0, .string ⟨#[]⟩, .slice none 0 0] 28)).heap.size = w.heap.size + 1 by simp] at h)
  have E9r := hid (((Ext.refl (S := fun _ => False) (w.alloc (.cells #[.int .i64 0, .int .i64 0, .string ⟨#[]⟩, .slice none 0 0] 28))).alloc (.cells #[.int .i64 4, .int .i64 6, .int .i64 7] 3)).drew)
  have HL := hid (And.intro hac hc)
  have HKeep := hid (show ∀ w', Ext (fun _ => False) w w' → w'.cell? ⟨fb, 0, none⟩ = some (.func (.func 123) #[] #[]) ∧ w'.cell? ⟨sb, 0, none⟩ = some (.func (.func 122) #[] #[]) from fun w' e => ⟨e.cell_some HFB.out id, e.cell_some HSB.out id⟩)
  have HTr := hid (fun w' => r_truth_e' op 7 w')
  clear hp hfb hsb
  by_cases h7 : op = 7
  · have hal : a.len = 2 := by
      have h := hs.1.2.2
      subst h7; simp [ar] at h; omega
    have HAl := hid hal
    have e7 : (op == 7) = true := by simp [h7]
    have HFst := hid (show amg [4, 6, 7] op = true by subst h7; rfl)
    have ht : tr (op = 7) = 1 := by unfold tr; rw [if_pos h7]
    rw [e7, ht] at HTr
    have HO := hid (show rule3 op a = if eqF a (a.drop 1) = true then some (numF 1) else none by subst h7; rfl)
    clear hs hal h7 ht
    go_enter Tryz.func129, Tryz.ntmps129
    go_wp2_with fail
    go_region_held3 (fun w' => w'.cell? ⟨fb, 0, none⟩ = some (.func (.func 123) #[] #[]) ∧ w'.cell? ⟨sb, 0, none⟩ = some (.func (.func 122) #[] #[]))
      (first
        | (with_reducible exact HKeep.out _ (set4_ext (E8.out.trans G7.out) (.inr (Nat.le_refl _))))
        | (with_reducible exact HKeep.out _ (E8.out.trans G7.out))
        | (with_reducible exact HKeep.out _ ((E8.out.trans G7.out).alloc _))
        | (with_reducible exact HKeep.out _ (E8.out.trans G5.out))
        | (with_reducible exact HKeep.out _ ((E8.out.trans G5.out).alloc _))
        | (with_reducible exact HKeep.out _ (E8.out.trans E9.out))
        | (with_reducible exact HKeep.out _ ((E8.out.trans E9.out).alloc _))
        | (with_reducible exact HKeep.out _ (E8.out.trans E9r.out))
        | (go_keep; done))
      (first
        | (go_at_call 112; refine (HTr.out _).mono ?_; rintro e w4 ⟨rfl, rfl⟩)
        | (go_at_call 126; refine (r_num 1 _).mono ?_; rintro e w5 ⟨rfl, hb5⟩; have F5 := hid (Ext.of_below (S := fun _ => False) hb5); (first | (with_reducible have G5 := hid (E9.out.trans F5.out); have HI5 := hid (show IntsAt (w5.alloc (.cells #[.int .i64 4, .int .i64 6, .int .i64 7] 3)) w5.heap.size 0 [4, 6, 7] from ints_three (heap_alloc_new w5 _)); have H6 := hid (G5.out.alloc (.cells #[.int .i64 4, .int .i64 6, .int .i64 7] 3))) | (with_reducible have G5 := hid (E9r.out.trans F5.out); have HI5 := hid (show IntsAt w5 (w.heap.size + 1) 0 [4, 6, 7] from ints_three (F5.out.heap HRow.out id)); have H6 := G5)); have HP6 := hid (HP.out.ext (E8.out.trans H6.out) (fun _ _ => id)); clear hb5)
        | (go_at_call 123; (with_reducible refine (r_first3 op _ _ _ 4 6 7 _ 3 _ HI5.out).mono ?_); rintro e w6 ⟨rfl, rfl⟩; rw [HFst.out])
        | (go_at_call 122; (with_reducible refine (r_same a p c fa _ HAl.out HP6.out HL.out.1 HL.out.2).mono ?_); rintro e w7 ⟨rfl, hb7⟩; have G7 := hid (H6.out.trans (Ext.of_below (S := fun _ => False) hb7)); clear hb7; obtain ⟨⟨z0g, z1g, z2g, z3g⟩, f0g, f1g, f2g, f3g⟩ := blk4 (G7.out.heap HR.out id)))
    all_goals
      obtain ⟨W, hW, u0, u1, u2, u3, eW⟩ := set4_all (a0 := .int .i64 1) (a1 := .int .i64 1) (a2 := .string ⟨#[]⟩) (a3 := .slice none 0 0) z0g z1g z2g z3g
      have hz7 : w.heap.size < w7.heap.size := World.block_lt_of_cell? _ _ z0g
      rw [hW]
      go_wp2_with fail
      exact bodyPost_ret (v := .tuple #[.agg #[.int .i64 1, .int .i64 1, .string ⟨#[]⟩, .slice none 0 0], .bool (eqF a (a.drop 1))]) (by simp [results, Tryz.results129, go_sem, u0, u1, u2, u3]) rfl (num_got (eq := eqF a (a.drop 1)) HO.out (below_at (below_ext HBZ.out G7.out (by simp)) eW (by omega) (by omega)))
  have e7 : (op == 7) = false := by simpa using h7
  have ht : tr (op = 7) = 0 := by unfold tr; rw [if_neg h7]
  rw [e7, ht] at HTr
  by_cases h46 : op = 4 ∨ op = 6
  · have hal : a.len = 2 := by
      have h := hs.1.2.2
      rcases h46 with h' | h' <;> (subst h'; simp [ar] at h; omega)
    have HAl := hid hal
    have HFst := hid (show amg [4, 6, 7] op = true by rcases h46 with h' | h' <;> (subst h'; rfl))
    have HO := hid (show rule3 op a = if eqF a (a.drop 1) = true then some (numF 0) else none by rcases h46 with h' | h' <;> (subst h'; rfl))
    clear hs hal h7 ht h46
    go_enter Tryz.func129, Tryz.ntmps129
    go_wp2_with fail
    go_region_held3 (fun w' => w'.cell? ⟨fb, 0, none⟩ = some (.func (.func 123) #[] #[]) ∧ w'.cell? ⟨sb, 0, none⟩ = some (.func (.func 122) #[] #[]))
      (first
        | (with_reducible exact HKeep.out _ (set4_ext (E8.out.trans G7.out) (.inr (Nat.le_refl _))))
        | (with_reducible exact HKeep.out _ (E8.out.trans G7.out))
        | (with_reducible exact HKeep.out _ ((E8.out.trans G7.out).alloc _))
        | (with_reducible exact HKeep.out _ (E8.out.trans G5.out))
        | (with_reducible exact HKeep.out _ ((E8.out.trans G5.out).alloc _))
        | (with_reducible exact HKeep.out _ (E8.out.trans E9.out))
        | (with_reducible exact HKeep.out _ ((E8.out.trans E9.out).alloc _))
        | (with_reducible exact HKeep.out _ (E8.out.trans E9r.out))
        | (go_keep; done))
      (first
        | (go_at_call 112; refine (HTr.out _).mono ?_; rintro e w4 ⟨rfl, rfl⟩)
        | (go_at_call 126; refine (r_num 0 _).mono ?_; rintro e w5 ⟨rfl, hb5⟩; have F5 := hid (Ext.of_below (S := fun _ => False) hb5); (first | (with_reducible have G5 := hid (E9.out.trans F5.out); have HI5 := hid (show IntsAt (w5.alloc (.cells #[.int .i64 4, .int .i64 6, .int .i64 7] 3)) w5.heap.size 0 [4, 6, 7] from ints_three (heap_alloc_new w5 _)); have H6 := hid (G5.out.alloc (.cells #[.int .i64 4, .int .i64 6, .int .i64 7] 3))) | (with_reducible have G5 := hid (E9r.out.trans F5.out); have HI5 := hid (show IntsAt w5 (w.heap.size + 1) 0 [4, 6, 7] from ints_three (F5.out.heap HRow.out id)); have H6 := G5)); have HP6 := hid (HP.out.ext (E8.out.trans H6.out) (fun _ _ => id)); clear hb5)
        | (go_at_call 123; (with_reducible refine (r_first3 op _ _ _ 4 6 7 _ 3 _ HI5.out).mono ?_); rintro e w6 ⟨rfl, rfl⟩; rw [HFst.out])
        | (go_at_call 122; (with_reducible refine (r_same a p c fa _ HAl.out HP6.out HL.out.1 HL.out.2).mono ?_); rintro e w7 ⟨rfl, hb7⟩; have G7 := hid (H6.out.trans (Ext.of_below (S := fun _ => False) hb7)); clear hb7; obtain ⟨⟨z0g, z1g, z2g, z3g⟩, f0g, f1g, f2g, f3g⟩ := blk4 (G7.out.heap HR.out id)))
    all_goals
      obtain ⟨W, hW, u0, u1, u2, u3, eW⟩ := set4_all (a0 := .int .i64 1) (a1 := .int .i64 0) (a2 := .string ⟨#[]⟩) (a3 := .slice none 0 0) z0g z1g z2g z3g
      have hz7 : w.heap.size < w7.heap.size := World.block_lt_of_cell? _ _ z0g
      rw [hW]
      go_wp2_with fail
      exact bodyPost_ret (v := .tuple #[.agg #[.int .i64 1, .int .i64 0, .string ⟨#[]⟩, .slice none 0 0], .bool (eqF a (a.drop 1))]) (by simp [results, Tryz.results129, go_sem, u0, u1, u2, u3]) rfl (num_got (eq := eqF a (a.drop 1)) HO.out (below_at (below_ext HBZ.out G7.out (by simp)) eW (by omega) (by omega)))
  · have e4 : (op == 4) = false := by simp; exact fun h => h46 (.inl h)
    have e6 : (op == 6) = false := by simp; exact fun h => h46 (.inr h)
    have HFst := hid (show amg [4, 6, 7] op = false by simp only [amg, e4, e6, e7]; rfl)
    have HO := hid (show rule3 op a = if false = true then some (numF 0) else none by unfold rule3; rw [e4, e6, e7]; rfl)
    have k0w := HFB.out
    have hfw : fb < w.heap.size := World.block_lt_of_cell? _ _ HFB.out
    have hfw1 : fb < w.heap.size + 1 := by omega
    have hfn : fb ≠ w.heap.size := by omega
    have hfn1 : fb ≠ w.heap.size + 1 := by omega
    clear hs h7 ht h46
    go_enter Tryz.func129, Tryz.ntmps129
    go_wp2_with fail
    first
      | (go_region_law (first
          | (go_simp; go_at_call 112; refine (HTr.out _).mono ?_; rintro e w4 ⟨rfl, rfl⟩)
          | (go_simp; go_at_call 126; refine (r_num 0 _).mono ?_; rintro e w5 ⟨rfl, hb5⟩; have F5 := hid (Ext.of_below (S := fun _ => False) hb5); (first | (with_reducible have G5 := hid (E9.out.trans F5.out); have HI5 := hid (show IntsAt (w5.alloc (.cells #[.int .i64 4, .int .i64 6, .int .i64 7] 3)) w5.heap.size 0 [4, 6, 7] from ints_three (heap_alloc_new w5 _))) | (with_reducible have G5 := hid (E9r.out.trans F5.out); have HI5 := hid (show IntsAt w5 (w.heap.size + 1) 0 [4, 6, 7] from ints_three (F5.out.heap HRow.out id)))); have k0e := (E8.out.trans G5.out).cell_some HFB.out id; obtain ⟨⟨z0g, z1g, z2g, z3g⟩, f0g, f1g, f2g, f3g⟩ := blk4 (G5.out.heap HR.out id); have hfb5 : fb < w5.heap.size := World.block_lt_of_cell? _ _ k0e; have hzz5 : w.heap.size < w5.heap.size := World.block_lt_of_cell? _ _ z0g; clear hb5)
          | (go_simp; go_at_call 123; (with_reducible refine (r_first3 op _ _ _ 4 6 7 _ 3 _ HI5.out).mono ?_); rintro e w6 ⟨rfl, rfl⟩; rw [HFst.out])))
      | fail "the region"
    all_goals
      go_wp2_with fail
      first
        | (obtain ⟨W, hW, u0, u1, u2, u3, eW⟩ := set4_all (a0 := .int .i64 1) (a1 := .int .i64 0) (a2 := .string ⟨#[]⟩) (a3 := .slice none 0 0) z0g z1g z2g z3g
           rw [hW]
           exact bodyPost_ret (v := .tuple #[.agg #[.int .i64 1, .int .i64 0, .string ⟨#[]⟩, .slice none 0 0], .bool false]) (by simp [results, Tryz.results129, go_sem, u0, u1, u2, u3]) rfl (num_got (eq := false) HO.out (below_at (below_ext HBZ.out G5.out (by simp)) eW (by omega) (by omega))))
        | (obtain ⟨W, hW, u0, u1, u2, u3, _, eW⟩ := set4_row (a0 := .int .i64 1) (a1 := .int .i64 0) (a2 := .string ⟨#[]⟩) (a3 := .slice none 0 0) (o := .cells #[.int .i64 4, .int .i64 6, .int .i64 7] 3) z0g z1g z2g z3g
           rw [hW]
           exact bodyPost_ret (v := .tuple #[.agg #[.int .i64 1, .int .i64 0, .string ⟨#[]⟩, .slice none 0 0], .bool false]) (by simp [results, Tryz.results129, go_sem, u0, u1, u2, u3]) rfl (num_got (eq := false) HO.out (below_at (below_ext HBZ.out G5.out (by simp)) eW (by omega) (by omega))))
end Go.Proofs.YtkgciohebloffaaGreat
/- Rule 4, the reference's. (Made by tools/gen/rulr.py.) -/
namespace Go.Proofs.YtkgciohebloffaaGreat
open Go.RowKit

set_option maxRecDepth 100000 in
set_option maxHeartbeats 4000000 in
theorem r_rule4 (op n : Int) (s : ByteArray) (a : F) (p : Option Addr) (c : Nat) (fa : List Nat) (w : World) (hs : (F.cons op n s a .nil).Small) (hp : RdP w a p fa) (hac : a.len ≤ c) (hc : c ≤ 9223372036854775807) :
    Calls Tryz.prog 130 #[.int .i64 op, .slice p a.len c] w (GotRule fa (rule4 op a) w) := by
  have EZ := hid ((Ext.refl (S := fun _ => False) w).alloc (.cells #[.int .i64 0, .int .i64 0, .string ⟨#[]⟩, .slice none 0 0] 28))
  have HR := hid (heap_new w (.cells #[.int .i64 0, .int .i64 0, .string ⟨#[]⟩, .slice none 0 0] 28))
  have HP := hid (hp.ext EZ.out (fun _ _ => id))
  have hcI : (c : Int) ≤ 9223372036854775807 := by omega
  have hacI : (a.len : Int) ≤ c := by omega
  have HBZ := hid (alloc_below w (.cells #[.int .i64 0, .int .i64 0, .string ⟨#[]⟩, .slice none 0 0] 28))
  have HFa := hid (show ∀ x ∈ fa, ¬ (x = w.heap.size) from fun x hx e => by have := hp.lt x hx; omega)
  clear hp
  by_cases h6 : op = 6
  · have hal : a.len = 2 := by
      have h := hs.1.2.2
      subst h6; simp [ar] at h; omega
    obtain ⟨b, o, xo, xn, xs, xa, xp, xc, xf, yo, yn, ys, ya, yp, yc, yf, rfl, ha, hx, hy⟩ := args_two HP.out hal
    have HX := hid hx
    have HY := hid hy
    have HA := hid ha
    have hn0 : 0 < a.len := by omega
    have hi0 : (0 : Int) < a.len := by omega
    have hn1 : 1 < a.len := by omega
    have hi1 : (1 : Int) < a.len := by omega
    have hr4 : rule4 op a = if ((yo == 1 && yn == 0) || (xo == 1 && xn == 999)) = true then some (numF 0) else none := by
      rw [h6, ha]; rfl
    have HN1 := hid (fun w' => r_isN yo yn ys yp ya.len yc 0 w')
    have HN2 := hid (fun w' => r_isN xo xn xs xp xa.len xc 999 w')
    have HR4 := hid hr4
    generalize (yo == 1 && yn == 0) = r1 at HN1 HR4
    generalize (xo == 1 && xn == 999) = r2 at HN2 HR4
    have e6 : (op == 6) = true := by simp [h6]
    clear hx hy ha hs hal hr4 h6
    obtain ⟨⟨z0, z1, z2, z3⟩, f0, f1, f2, f3⟩ := blk4 HR.out
    obtain ⟨x0, x1, x2, x3⟩ := HX.out.1
    obtain ⟨y0, y1, y2, y3⟩ := HY.out.1
    go_enter Tryz.func130, Tryz.ntmps130
    go_wp2_with fail
    refine (r_num 0 _).mono ?_
    rintro e w6 ⟨rfl, hb6⟩
    have E6 := hid (Ext.of_below (S := fun _ => False) hb6)
    have HB6 := hid (below_ext HBZ.out E6.out (by simp))
    obtain ⟨⟨z0, z1, z2, z3⟩, f0, f1, f2, f3⟩ := blk4 (E6.out.heap HR.out id)
    have hz6 : w.heap.size < w6.heap.size := World.block_lt_of_cell? _ _ z0
    clear hb6
    have HX6 := hid (HX.out.ext E6.out)
    obtain ⟨x0, x1, x2, x3⟩ := HX6.out.1
    have HY6 := hid (HY.out.ext E6.out)
    obtain ⟨y0, y1, y2, y3⟩ := HY6.out.1
    go_wp2_with fail
    refine (HN1.out _).mono ?_
    rintro e w7 ⟨rfl, hb7⟩
    have E7 := hid (E6.out.trans (Ext.of_below (S := fun _ => False) hb7))
    have HB7 := hid (below_ext HBZ.out E7.out (by simp))
    obtain ⟨⟨z0, z1, z2, z3⟩, f0, f1, f2, f3⟩ := blk4 (E7.out.heap HR.out id)
    have hz7 : w.heap.size < w7.heap.size := World.block_lt_of_cell? _ _ z0
    clear hb7
    have HX7 := hid (HX.out.ext E7.out)
    obtain ⟨x0, x1, x2, x3⟩ := HX7.out.1
    have HY7 := hid (HY.out.ext E7.out)
    obtain ⟨y0, y1, y2, y3⟩ := HY7.out.1
    cases r1 with
    | true =>
      go_wp2_with fail
      obtain ⟨W, hW, u0, u1, u2, u3, eW⟩ := set4_all (a0 := .int .i64 1) (a1 := .int .i64 0) (a2 := .string ⟨#[]⟩) (a3 := .slice none 0 0) z0 z1 z2 z3
      rw [hW]
      exact bodyPost_ret (v := .tuple #[.agg #[.int .i64 1, .int .i64 0, .string ⟨#[]⟩, .slice none 0 0], .bool true]) (by simp [results, Tryz.results130, go_sem, u0, u1, u2, u3]) rfl (num_got (eq := true) HR4.out (below_at HB7.out eW (by omega) (by omega)))
    | false =>
      go_wp2_with fail
      refine (HN2.out _).mono ?_
      rintro e w8 ⟨rfl, hb8⟩
      have E8 := hid (E7.out.trans (Ext.of_below (S := fun _ => False) hb8))
      have HB8 := hid (below_ext HBZ.out E8.out (by simp))
      obtain ⟨⟨z0, z1, z2, z3⟩, f0, f1, f2, f3⟩ := blk4 (E8.out.heap HR.out id)
      have hz8 : w.heap.size < w8.heap.size := World.block_lt_of_cell? _ _ z0
      clear hb8
      have HX8 := hid (HX.out.ext E8.out)
      obtain ⟨x0, x1, x2, x3⟩ := HX8.out.1
      have HY8 := hid (HY.out.ext E8.out)
      obtain ⟨y0, y1, y2, y3⟩ := HY8.out.1
      go_wp2_with fail
      obtain ⟨W, hW, u0, u1, u2, u3, eW⟩ := set4_all (a0 := .int .i64 1) (a1 := .int .i64 0) (a2 := .string ⟨#[]⟩) (a3 := .slice none 0 0) z0 z1 z2 z3
      rw [hW]
      exact bodyPost_ret (v := .tuple #[.agg #[.int .i64 1, .int .i64 0, .string ⟨#[]⟩, .slice none 0 0], .bool r2]) (by simp [results, Tryz.results130, go_sem, u0, u1, u2, u3]) rfl (num_got (eq := r2) (by have h := HR4.out; rwa [Bool.false_or] at h) (below_at HB8.out eW (by omega) (by omega)))
  · have e6 : (op == 6) = false := by simpa using h6
    have HO := hid (show rule4 op a = if false = true then some (numF 0) else none by unfold rule4; rw [e6]; rfl)
    clear h6
    obtain ⟨⟨z0, z1, z2, z3⟩, f0, f1, f2, f3⟩ := blk4 HR.out
    go_enter Tryz.func130, Tryz.ntmps130
    go_wp2_with fail
    refine (r_num 0 _).mono ?_
    rintro e w6 ⟨rfl, hb6⟩
    have E6 := hid (Ext.of_below (S := fun _ => False) hb6)
    have HB6 := hid (below_ext HBZ.out E6.out (by simp))
    obtain ⟨⟨z0, z1, z2, z3⟩, f0, f1, f2, f3⟩ := blk4 (E6.out.heap HR.out id)
    have hz6 : w.heap.size < w6.heap.size := World.block_lt_of_cell? _ _ z0
    clear hb6
    go_wp2_with fail
    obtain ⟨W, hW, u0, u1, u2, u3, eW⟩ := set4_all (a0 := .int .i64 1) (a1 := .int .i64 0) (a2 := .string ⟨#[]⟩) (a3 := .slice none 0 0) z0 z1 z2 z3
    rw [hW]
    exact bodyPost_ret (v := .tuple #[.agg #[.int .i64 1, .int .i64 0, .string ⟨#[]⟩, .slice none 0 0], .bool false]) (by simp [results, Tryz.results130, go_sem, u0, u1, u2, u3]) rfl (num_got (eq := false) HO.out (below_at HB6.out eW (by omega) (by omega)))
end Go.Proofs.YtkgciohebloffaaGreat
/- Rule 5, the reference's. (Made by tools/gen/rulr.py.) -/
namespace Go.Proofs.YtkgciohebloffaaGreat
open Go.RowKit

set_option maxRecDepth 100000 in
set_option maxHeartbeats 4000000 in
theorem r_rule5 (op n : Int) (s : ByteArray) (a : F) (p : Option Addr) (c : Nat) (fa : List Nat) (w : World) (hs : (F.cons op n s a .nil).Small) (hp : RdP w a p fa) (hac : a.len ≤ c) (hc : c ≤ 9223372036854775807) :
    Calls Tryz.prog 131 #[.int .i64 op, .slice p a.len c] w (GotRule fa (rule5 op a) w) := by
  have EZ := hid ((Ext.refl (S := fun _ => False) w).alloc (.cells #[.int .i64 0, .int .i64 0, .string ⟨#[]⟩, .slice none 0 0] 28))
  have HR := hid (heap_new w (.cells #[.int .i64 0, .int .i64 0, .string ⟨#[]⟩, .slice none 0 0] 28))
  have HP := hid (hp.ext EZ.out (fun _ _ => id))
  have hcI : (c : Int) ≤ 9223372036854775807 := by omega
  have hacI : (a.len : Int) ≤ c := by omega
  have HBZ := hid (alloc_below w (.cells #[.int .i64 0, .int .i64 0, .string ⟨#[]⟩, .slice none 0 0] 28))
  have HFa := hid (show ∀ x ∈ fa, ¬ (x = w.heap.size) from fun x hx e => by have := hp.lt x hx; omega)
  clear hp
  by_cases h9 : op = 9
  · have hal : a.len = 3 := by
      have h := hs.1.2.2
      subst h9; simp [ar] at h; omega
    obtain ⟨b, o, xo, xn, xs, xa, xp, xc, xf, yo, yn, ys, ya, yp, yc, yf, vo, vn, vs, va, vp, vc, vf, rfl, ha, hx, hy, hv⟩ := args_three HP.out hal
    have HX := hid hx
    have HY := hid hy
    have HV := hid hv
    have HA := hid ha
    have hn0 : 0 < a.len := by omega
    have hi0 : (0 : Int) < a.len := by omega
    have hn1 : 1 < a.len := by omega
    have hi1 : (1 : Int) < a.len := by omega
    have hn2 : 2 < a.len := by omega
    have hi2 : (2 : Int) < a.len := by omega
    have hr5 : rule5 op a = if (xo == 1 && xn == 0) = true then some (F.cons vo vn vs va .nil) else if (xo == 1 || sameE yo yn ys ya vo vn vs va) = true then some (F.cons yo yn ys ya .nil) else none := by
      rw [h9, ha]; rfl
    have HEQ := hid (fun w' (h1 : RdP w' ya yp yf) (h2 : RdP w' va vp vf) => q_SameExpr (ya.size + 1) yo yn ys ya yp yc yf vo vn vs va vp vc vf w' (by omega) h1 h2 HY.out.2.1 HY.out.2.2.1 HV.out.2.1 HV.out.2.2.1)
    have HR5 := hid hr5
    generalize sameE yo yn ys ya vo vn vs va = r2 at HEQ HR5
    have e9 : (op != 9) = false := by simp [h9]
    clear hx hy hv ha hs hal hr5 h9
    obtain ⟨⟨z0, z1, z2, z3⟩, f0, f1, f2, f3⟩ := blk4 HR.out
    obtain ⟨x0, x1, x2, x3⟩ := HX.out.1
    obtain ⟨y0, y1, y2, y3⟩ := HY.out.1
    obtain ⟨v0, v1, v2, v3⟩ := HV.out.1
    by_cases hx1 : xo = 1
    · have ex : (xo == 1) = true := by simp [hx1]
      clear hx1
      by_cases hx0 : xn = 0
      · have e0 : (xn == 0) = true := by simp [hx0]
        have HO := hid (show rule5 op a = if true = true then some (F.cons vo vn vs va .nil) else none by rw [HR5.out, ex, e0]; rfl)
        have ht1 : tr (xn = 0) = 1 := by unfold tr; rw [if_pos hx0]
        have HTr := hid (fun w' => r_truth_e' xn 0 w')
        rw [ht1] at HTr
        rw [e0] at HTr
        clear hx0 ht1
        go_enter Tryz.func131, Tryz.ntmps131
        go_wp2_with fail
        refine (HTr.out _).mono ?_
        rintro e w6 ⟨rfl, rfl⟩
        go_wp2_with fail
        exact bodyPost_ret (v := .tuple #[.agg #[.int .i64 vo, .int .i64 vn, .string vs, .slice vp va.len vc], .bool true]) (by simp [results, Tryz.results131, go_sem]) rfl (arg_got (yes := true) (HV.out.ext_s (alloc_other _ _ _ rfl) HFa.out) HO.out (alloc_below w _))
      · have e0 : (xn == 0) = false := by simpa using hx0
        have HO := hid (show rule5 op a = if true = true then some (F.cons yo yn ys ya .nil) else none by rw [HR5.out, ex, e0]; rfl)
        have ht1 : tr (xn = 0) = 0 := by unfold tr; rw [if_neg hx0]
        have HTr := hid (fun w' => r_truth_e' xn 0 w')
        rw [ht1] at HTr
        rw [e0] at HTr
        clear hx0 ht1
        go_enter Tryz.func131, Tryz.ntmps131
        go_wp2_with fail
        refine (HTr.out _).mono ?_
        rintro e w6 ⟨rfl, rfl⟩
        go_wp2_with fail
        exact bodyPost_ret (v := .tuple #[.agg #[.int .i64 yo, .int .i64 yn, .string ys, .slice yp ya.len yc], .bool true]) (by simp [results, Tryz.results131, go_sem]) rfl (arg_got (yes := true) (HY.out.ext_s (alloc_other _ _ _ rfl) HFa.out) HO.out (alloc_below w _))
    · have ex : (xo == 1) = false := by simpa using hx1
      have HO := hid (show rule5 op a = if r2 = true then some (F.cons yo yn ys ya .nil) else none by rw [HR5.out, ex]; rfl)
      clear hx1
      obtain ⟨⟨z0d, z1d, z2d, z3d⟩, f0d, f1d, f2d, f3d⟩ := blk4 (show (w.alloc (.cells #[.int .i64 0, .int .i64 0, .string ⟨#[]⟩, .slice none 0 0] 28)).drew.heap[w.heap.size]? = _ from HR.out)
      have E0 := hid ((Ext.refl (S := fun _ => False) (w.alloc (.cells #[.int .i64 0, .int .i64 0, .string ⟨#[]⟩, .slice none 0 0] 28))).drew)
      obtain ⟨x0d, x1d, x2d, x3d⟩ := (HX.out.ext E0.out).1
      obtain ⟨y0d, y1d, y2d, y3d⟩ := (HY.out.ext E0.out).1
      obtain ⟨v0d, v1d, v2d, v3d⟩ := (HV.out.ext E0.out).1
      go_enter Tryz.func131, Tryz.ntmps131
      go_wp2_with fail
      first
        | (go_region_law (first
            | (go_simp; go_at_call 31; refine (HEQ.out _ (HY.out.ext E0.out).2.2.2.1 (HV.out.ext E0.out).2.2.2.1).mono ?_; rintro e w7 ⟨rfl, hb7⟩; have E7 := hid (E0.out.trans (Ext.of_below (S := fun _ => False) hb7)); have HB7 := hid (below_ext HBZ.out E7.out (by simp)); clear hb7; obtain ⟨⟨z0e, z1e, z2e, z3e⟩, f0e, f1e, f2e, f3e⟩ := blk4 (E7.out.heap HR.out id); obtain ⟨x0e, x1e, x2e, x3e⟩ := (HX.out.ext E7.out).1; obtain ⟨y0e, y1e, y2e, y3e⟩ := (HY.out.ext E7.out).1; obtain ⟨v0e, v1e, v2e, v3e⟩ := (HV.out.ext E7.out).1)))
        | fail "the region"
      all_goals
        obtain ⟨W, hW, u0, u1, u2, u3, eW⟩ := set4_all (a0 := .int .i64 yo) (a1 := .int .i64 yn) (a2 := .string ys) (a3 := .slice yp ya.len yc) z0e z1e z2e z3e
        have hz7 : w.heap.size < w7.heap.size := World.block_lt_of_cell? _ _ z0e
        go_wp2_with fail
        rw [hW]
        exact bodyPost_ret (v := .tuple #[.agg #[.int .i64 yo, .int .i64 yn, .string ys, .slice yp ya.len yc], .bool r2]) (by simp [results, Tryz.results131, go_sem, u0, u1, u2, u3]) rfl (arg_got (yes := r2) ((HY.out.ext E7.out).ext_s eW HFa.out) HO.out (below_at HB7.out eW (by omega) (by omega)))
  · have e9 : (op != 9) = true := by simpa using h9
    have HO := hid (show rule5 op a = none by unfold rule5; rw [e9]; rfl)
    clear h9
    obtain ⟨⟨z0, z1, z2, z3⟩, f0, f1, f2, f3⟩ := blk4 HR.out
    go_enter Tryz.func131, Tryz.ntmps131
    go_wp2_with fail
    exact bodyPost_ret (v := .tuple #[.agg #[.int .i64 0, .int .i64 0, .string ⟨#[]⟩, .slice none 0 0], .bool false]) (by simp [results, Tryz.results131, go_sem]) rfl (none_got HO.out HBZ.out)
end Go.Proofs.YtkgciohebloffaaGreat
