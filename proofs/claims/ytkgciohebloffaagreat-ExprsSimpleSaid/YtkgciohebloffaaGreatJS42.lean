/- Texts joined: VPutT, VSimpT. -/
import Derived.Test.YtkgciohebloffaaGreatJS41
import Derived.Test.YtkgciohebloffaaGreatJS21
import Derived.Test.YtkgciohebloffaaGreatJS12
import Derived.BigQuiet
import Derived.Deep.RegionHeld3
import Derived.Test.YtkgciohebloffaaGreatJS39
/- checkBoth, Put, the program's. -/
namespace Go.Proofs.YtkgciohebloffaaGreat
open Go.RowKit

def nilE : F := .cons 0 0 ⟨#[]⟩ .nil .nil
def bothE (e f : Int) : Int := if e ≠ 0 then e else f
set_option maxHeartbeats 2000000 in
theorem v_checkBoth (op n : Int) (s : ByteArray) (a : F) (p : Option Addr) (c : Nat) (fa : List Nat) (bo bn : Int) (bs : ByteArray) (ba : F) (bp : Option Addr) (bc : Nat) (bf : List Nat) (w : World) (h1 : RdP w a p fa) (h2 : a.len ≤ c) (h3 : c ≤ 9223372036854775807) (h4 : (F.cons op n s a .nil).Fits) (g1 : RdP w ba bp bf) (g2 : ba.len ≤ bc) (g3 : bc ≤ 9223372036854775807) (g4 : (F.cons bo bn bs ba .nil).Fits) :
    Calls Tryz.prog 71 #[.agg #[.int .i64 op, .int .i64 n, .string s, .slice p a.len c], .agg #[.int .i64 bo, .int .i64 bn, .string bs, .slice bp ba.len bc]] w fun e w' => e = .returned (.int .i64 (bothE (errE op n s a 1) (errE bo bn bs ba 1))) ∧ Below w.heap.size w w' := by
  have EZ := hid (((Ext.refl (S := fun _ => False) w).alloc (.cells #[.int .i64 op, .int .i64 n, .string s, .slice p a.len c] 28)).alloc (.cells #[.int .i64 bo, .int .i64 bn, .string bs, .slice bp ba.len bc] 28))
  have HX := hid (And.intro (h1.ext EZ.out (fun _ _ => id)) (And.intro (g1.ext EZ.out (fun _ _ => id)) (And.intro h4 g4)))
  have HY := hid (show ((w.alloc (.cells #[.int .i64 op, .int .i64 n, .string s, .slice p a.len c] 28)).alloc (.cells #[.int .i64 bo, .int .i64 bn, .string bs, .slice bp ba.len bc] 28)).heap[w.heap.size + 1]? = some (.cells #[.int .i64 bo, .int .i64 bn, .string bs, .slice bp ba.len bc] 28 (0, 0)) by
    have h2 := heap_new (w.alloc (.cells #[.int .i64 op, .int .i64 n, .string s, .slice p a.len c] 28)) (.cells #[.int .i64 bo, .int .i64 bn, .string bs, .slice bp ba.len bc] 28)
    rwa [show (w.alloc (.cells #[.int .i64 op, .int .i64 n, .string s, .slice p a.len c] 28)).heap.size = w.heap.size + 1 by simp] at h2)
  have HBZ := hid (show Below w.heap.size w _ from EZ.out.below (Below.refl _ _) (fun _ _ => id))
  clear h1 h4 g1 g4
  go_enter Tryz.func71, Tryz.ntmps71
  go_wp2_with fail
  refine (p_CheckExpr op n s a p c fa _ HX.out.1 h2 h3 HX.out.2.2.1).mono ?_
  rintro e w3 ⟨rfl, hb3⟩
  have E3 := hid (Ext.of_below (S := fun _ => False) hb3)
  have HB3 := hid (below_ext HBZ.out E3.out (by simp; omega))
  obtain ⟨⟨y0, y1, y2, y3⟩, _⟩ := blk4 (E3.out.heap HY.out id)
  clear hb3
  generalize hge : errE op n s a 1 = er
  have GE := hid hge
  clear hge
  by_cases he : er = 0
  · subst he
    go_wp2_with fail
    refine (p_CheckExpr bo bn bs ba bp bc bf _ (HX.out.2.1.ext E3.out (fun _ _ => id)) g2 g3 HX.out.2.2.2).mono ?_
    rintro e w4 ⟨rfl, hb4⟩
    have HB4 := hid (below_ext HB3.out (Ext.of_below hb4) (by have := HB3.out.size; omega))
    clear hb4
    have HE := hid (show bothE (errE op n s a 1) (errE bo bn bs ba 1) = errE bo bn bs ba 1 by rw [GE.out]; unfold bothE; rw [if_neg (by simp)])
    go_wp2_with fail
    go_ret
    exact ⟨ret_int HE.out.symm, HB4.out⟩
  · have hne : (er != 0) = true := by simpa using he
    have HE := hid (show bothE (errE op n s a 1) (errE bo bn bs ba 1) = er by rw [GE.out]; unfold bothE; rw [if_pos he])
    clear he
    go_wp2_with fail
    go_ret
    exact ⟨ret_int HE.out.symm, HB3.out⟩

/-- What Put answers. -/
def putAns (nm : ByteArray) (bo bn : Int) (bs : ByteArray) (ba : F) (op n : Int) (s : ByteArray) (a : F) : F × Int :=
  if bothE (errE op n s a 1) (errE bo bn bs ba 1) ≠ 0 then (nilE, bothE (errE op n s a 1) (errE bo bn bs ba 1))
  else if nameB nm.data.toList = false then (nilE, 5)
  else if 20 < dpE nm (dpE ⟨#[]⟩ 0 bo bs ba) op s a then (nilE, 2) else (putE nm (.cons bo bn bs ba .nil) op n s a, 0)
def GotErr (ans : F × Int) (w : World) (e : Ending) (w' : World) : Prop :=
  (∃ (op n : Int) (s : ByteArray) (a : F) (p : Option Addr) (c : Nat) (fa : List Nat), e = .returned (.tuple #[.agg #[.int .i64 op, .int .i64 n, .string s, .slice p a.len c], .int .i64 ans.2]) ∧ ans.1 = .cons op n s a .nil ∧ RdP w' a p fa ∧ a.len ≤ c ∧ c ≤ 9223372036854775807 ∧ (∀ b ∈ fa, w.heap.size ≤ b)) ∧ Below w.heap.size w w'
theorem zero_err {ans : F × Int} {er : Int} {w w' : World} (h : ans = (nilE, er)) (hb : Below w.heap.size w w') : GotErr ans w (.returned (.tuple #[.agg #[.int .i64 0, .int .i64 0, .string ⟨#[]⟩, .slice none 0 0], .int .i64 er])) w' := by
  subst h
  exact ⟨⟨0, 0, ⟨#[]⟩, .nil, none, 0, [], rfl, rfl, .inl ⟨rfl, rfl⟩, Nat.le_refl _, by omega, by simp⟩, hb⟩

set_option maxRecDepth 100000 in
set_option maxHeartbeats 4000000 in
theorem v_Put (nm : ByteArray) (hnm : nm.size ≤ 9223372036854775807) (op n : Int) (s : ByteArray) (a : F) (p : Option Addr) (c : Nat) (fa : List Nat) (bo bn : Int) (bs : ByteArray) (ba : F) (bp : Option Addr) (bc : Nat) (bf : List Nat) (w : World) (hsa : a.size ≤ 900) (hsb : ba.size ≤ 900) (h1 : RdP w a p fa) (h2 : a.len ≤ c) (h3 : c ≤ 9223372036854775807) (h4 : (F.cons op n s a .nil).Fits) (g1 : RdP w ba bp bf) (g2 : ba.len ≤ bc) (g3 : bc ≤ 9223372036854775807) (g4 : (F.cons bo bn bs ba .nil).Fits) :
    Calls Tryz.prog 25 #[.agg #[.int .i64 op, .int .i64 n, .string s, .slice p a.len c], .string nm, .agg #[.int .i64 bo, .int .i64 bn, .string bs, .slice bp ba.len bc]] w (GotErr (putAns nm bo bn bs ba op n s a) w) := by
  obtain ⟨wz, hwz⟩ : ∃ wz, ((w.alloc (.cells #[.int .i64 op, .int .i64 n, .string s, .slice p a.len c] 28)).alloc (.cells #[.int .i64 bo, .int .i64 bn, .string bs, .slice bp ba.len bc] 28)).alloc (.cells #[.int .i64 0, .int .i64 0, .string ⟨#[]⟩, .slice none 0 0] 28) = wz := ⟨_, rfl⟩
  have E : ∀ (v : World) (o : Obj), Ext (fun _ => False) v (v.alloc o) := fun v o => (Ext.refl v).alloc o
  have k1 := heap_new w (.cells #[.int .i64 op, .int .i64 n, .string s, .slice p a.len c] 28)
  have k2 := heap_new (w.alloc (.cells #[.int .i64 op, .int .i64 n, .string s, .slice p a.len c] 28)) (.cells #[.int .i64 bo, .int .i64 bn, .string bs, .slice bp ba.len bc] 28)
  have k3 := heap_new ((w.alloc (.cells #[.int .i64 op, .int .i64 n, .string s, .slice p a.len c] 28)).alloc (.cells #[.int .i64 bo, .int .i64 bn, .string bs, .slice bp ba.len bc] 28)) (.cells #[.int .i64 0, .int .i64 0, .string ⟨#[]⟩, .slice none 0 0] 28)
  rw [show (w.alloc (.cells #[.int .i64 op, .int .i64 n, .string s, .slice p a.len c] 28)).heap.size = w.heap.size + 1 by simp] at k2
  rw [show ((w.alloc (.cells #[.int .i64 op, .int .i64 n, .string s, .slice p a.len c] 28)).alloc (.cells #[.int .i64 bo, .int .i64 bn, .string bs, .slice bp ba.len bc] 28)).heap.size = w.heap.size + 2 by simp] at k3
  have HA := hid ((E _ (.cells #[.int .i64 0, .int .i64 0, .string ⟨#[]⟩, .slice none 0 0] 28)).heap ((E _ (.cells #[.int .i64 bo, .int .i64 bn, .string bs, .slice bp ba.len bc] 28)).heap k1 id) id)
  have HY := hid ((E _ (.cells #[.int .i64 0, .int .i64 0, .string ⟨#[]⟩, .slice none 0 0] 28)).heap k2 id)
  have HZ := hid k3
  have EZ := hid (((E w (.cells #[.int .i64 op, .int .i64 n, .string s, .slice p a.len c] 28)).trans (E _ (.cells #[.int .i64 bo, .int .i64 bn, .string bs, .slice bp ba.len bc] 28))).trans (E _ (.cells #[.int .i64 0, .int .i64 0, .string ⟨#[]⟩, .slice none 0 0] 28)))
  rw [hwz] at HA HY HZ EZ
  have hzz : wz.heap.size = w.heap.size + 3 := by rw [← hwz]; simp
  have HX := hid (And.intro (h1.ext EZ.out (fun _ _ => id)) (And.intro (g1.ext EZ.out (fun _ _ => id)) (And.intro h4 g4)))
  have HBZ := hid (show Below w.heap.size w wz from EZ.out.below (Below.refl _ _) (fun _ _ => id))
  obtain ⟨⟨x0, x1, x2, x3⟩, _⟩ := blk4 HA.out
  obtain ⟨⟨y0, y1, y2, y3⟩, _⟩ := blk4 HY.out
  clear k1 k2 k3 E h1 h4 g1 g4
  go_enter Tryz.func25, Tryz.ntmps25
  go_wp2_with fail
  refine (v_checkBoth op n s a p c fa bo bn bs ba bp bc bf _ HX.out.1 h2 h3 HX.out.2.2.1 HX.out.2.1 g2 g3 HX.out.2.2.2).mono ?_
  rintro e w3 ⟨rfl, hb3⟩
  have E3 := hid (Ext.of_below (S := fun _ => False) hb3)
  have HB3 := hid (below_ext HBZ.out E3.out (by omega))
  have hz3 : w.heap.size + 3 ≤ w3.heap.size := by have := E3.out.size; omega
  clear hb3 hwz x0 x1 x2 x3 y0 y1 y2 y3
  obtain ⟨⟨x0, x1, x2, x3⟩, _⟩ := blk4 (E3.out.heap HA.out id)
  obtain ⟨⟨y0, y1, y2, y3⟩, _⟩ := blk4 (E3.out.heap HY.out id)
  obtain ⟨⟨z0, z1, z2, z3⟩, f0, f1, f2, f3⟩ := blk4 (E3.out.heap HZ.out id)
  generalize hge : bothE (errE op n s a 1) (errE bo bn bs ba 1) = er
  have GE := hid hge
  clear hge
  by_cases he : er = 0
  case neg =>
    have hne : (er != 0) = true := by simpa using he
    have HO := hid (show putAns nm bo bn bs ba op n s a = (nilE, er) by unfold putAns; rw [if_pos (by rw [GE.out]; exact he), GE.out])
    clear he
    go_wp2_with fail
    obtain ⟨W, hW, u0, u1, u2, u3, eW⟩ := set4_all (a0 := .int .i64 0) (a1 := .int .i64 0) (a2 := .string ⟨#[]⟩) (a3 := .slice none 0 0) z0 z1 z2 z3
    rw [hW]
    exact bodyPost_ret (v := .tuple #[.agg #[.int .i64 0, .int .i64 0, .string ⟨#[]⟩, .slice none 0 0], .int .i64 er]) (by simp [results, Tryz.results25, go_sem, u0, u1, u2, u3]) rfl (zero_err HO.out (below_at HB3.out eW (by omega) (by omega)))
  subst he
  cases hn : nameB nm.data.toList with
  | false =>
    have HO := hid (show putAns nm bo bn bs ba op n s a = (nilE, 5) by unfold putAns; rw [if_neg (by rw [GE.out]; simp), if_pos hn])
    have HN := hid hn
    clear hn
    go_wp2_with fail
    refine (p_isName nm false HN.out _ hnm).mono ?_
    rintro e w4 ⟨rfl, rfl⟩
    go_wp2_with fail
    obtain ⟨W, hW, u0, u1, u2, u3, eW⟩ := set4_all (a0 := .int .i64 0) (a1 := .int .i64 0) (a2 := .string ⟨#[]⟩) (a3 := .slice none 0 0) z0 z1 z2 z3
    rw [hW]
    exact bodyPost_ret (v := .tuple #[.agg #[.int .i64 0, .int .i64 0, .string ⟨#[]⟩, .slice none 0 0], .int .i64 5]) (by simp [results, Tryz.results25, go_sem, u0, u1, u2, u3]) rfl (zero_err HO.out (below_at HB3.out eW (by omega) (by omega)))
  | true =>
    have HO := hid (show putAns nm bo bn bs ba op n s a = if 20 < dpE nm (dpE ⟨#[]⟩ 0 bo bs ba) op s a then (nilE, 2) else (putE nm (.cons bo bn bs ba .nil) op n s a, 0) by unfold putAns; rw [if_neg (by rw [GE.out]; simp), if_neg (by rw [hn]; simp)])
    have HN := hid hn
    have HX3 := hid (And.intro (HX.out.1.ext E3.out (fun _ _ => id)) (HX.out.2.1.ext E3.out (fun _ _ => id)))
    have hd1 := dpE_in ⟨#[]⟩ 0 bo bs ba (by omega)
    have HD1 := hid (fun w' h => v_depth ⟨#[]⟩ 0 (by omega) (by omega) (ba.size + 1) bo bn bs ba bp bc bf w' (by omega) (by omega) h g2 g3)
    generalize dpE ⟨#[]⟩ 0 bo bs ba = d1 at *
    have hd2 := dpE_in nm d1 op s a hd1.1
    have HD2 := hid (fun w' h => v_depth nm d1 hd1.1 (by omega) (a.size + 1) op n s a p c fa w' (by omega) (by omega) h h2 h3)
    generalize dpE nm d1 op s a = d2 at *
    have hd21 := hd2.1
    have hd22 : d2 ≤ 3000 := by omega
    clear hn hd1 hd2
    go_wp2_with fail
    refine (p_isName nm true HN.out _ hnm).mono ?_
    rintro e w4 ⟨rfl, rfl⟩
    have HKeep := hid (show ∀ w', Ext (fun _ => False) wz w' → w'.cell? ⟨w.heap.size, 0, none⟩ = some (.int .i64 op) ∧ w'.cell? ⟨w.heap.size, 1, none⟩ = some (.int .i64 n) ∧ w'.cell? ⟨w.heap.size, 2, none⟩ = some (.string s) ∧ w'.cell? ⟨w.heap.size, 3, none⟩ = some (.slice p a.len c) ∧ w'.cell? ⟨w.heap.size + 1, 0, none⟩ = some (.int .i64 bo) ∧ w'.cell? ⟨w.heap.size + 1, 1, none⟩ = some (.int .i64 bn) ∧ w'.cell? ⟨w.heap.size + 1, 2, none⟩ = some (.string bs) ∧ w'.cell? ⟨w.heap.size + 1, 3, none⟩ = some (.slice bp ba.len bc) from fun w' e => by
      obtain ⟨⟨x0, x1, x2, x3⟩, _⟩ := blk4 (e.heap HA.out id)
      obtain ⟨⟨y0, y1, y2, y3⟩, _⟩ := blk4 (e.heap HY.out id)
      exact ⟨x0, x1, x2, x3, y0, y1, y2, y3⟩)
    have HP1 := hid (HX3.out.2.ext (Ext.refl (S := fun _ => False) w3).drew (fun _ _ => id))
    go_wp2_with fail
    go_region_held3 (fun w' => w'.cell? ⟨w.heap.size, 0, none⟩ = some (.int .i64 op) ∧ w'.cell? ⟨w.heap.size, 1, none⟩ = some (.int .i64 n) ∧ w'.cell? ⟨w.heap.size, 2, none⟩ = some (.string s) ∧ w'.cell? ⟨w.heap.size, 3, none⟩ = some (.slice p a.len c) ∧ w'.cell? ⟨w.heap.size + 1, 0, none⟩ = some (.int .i64 bo) ∧ w'.cell? ⟨w.heap.size + 1, 1, none⟩ = some (.int .i64 bn) ∧ w'.cell? ⟨w.heap.size + 1, 2, none⟩ = some (.string bs) ∧ w'.cell? ⟨w.heap.size + 1, 3, none⟩ = some (.slice bp ba.len bc))
      (first
        | (with_reducible exact HKeep.out _ E7.out)
        | (with_reducible exact HKeep.out _ E5.out)
        | (with_reducible exact HKeep.out _ E3.out.drew)
        | (go_keep; done))
      (first
        | (go_at_call 73; (with_reducible refine (HD1.out _ HP1.out).mono ?_); rintro e w5 ⟨rfl, hb5⟩; have E5 := hid (E3.out.drew.trans (Ext.of_below (S := fun _ => False) hb5)); have HP5 := hid (HX.out.1.ext E5.out (fun _ _ => id)); clear hb5)
        | (go_at_call 73; (with_reducible refine (HD2.out _ HP5.out).mono ?_); rintro e w7 ⟨rfl, hb7⟩; have E7 := hid (E5.out.trans (Ext.of_below (S := fun _ => False) hb7)); clear hb7))
    have HB7 := hid (below_ext HBZ.out E7.out (by omega))
    have hz7 : w.heap.size + 3 ≤ w7.heap.size := by have := E7.out.size; omega
    clear x0 x1 x2 x3 y0 y1 y2 y3 z0 z1 z2 z3 f0 f1 f2 f3 HKeep HP1 HP5 HD1 HD2
    obtain ⟨⟨x0, x1, x2, x3⟩, _⟩ := blk4 (E7.out.heap HA.out id)
    obtain ⟨⟨y0, y1, y2, y3⟩, _⟩ := blk4 (E7.out.heap HY.out id)
    obtain ⟨⟨z0, z1, z2, z3⟩, f0, f1, f2, f3⟩ := blk4 (E7.out.heap HZ.out id)
    by_cases hdp : 20 < d2
    · have HO2 := hid (show putAns nm bo bn bs ba op n s a = (nilE, 2) by rw [HO.out, if_pos hdp])
      have hdI : decide ((20 : Int) < d2) = true := by simpa using hdp
      go_wp2_with fail
      obtain ⟨W, hW, u0, u1, u2, u3, eW⟩ := set4_all (a0 := .int .i64 0) (a1 := .int .i64 0) (a2 := .string ⟨#[]⟩) (a3 := .slice none 0 0) z0 z1 z2 z3
      rw [hW]
      exact bodyPost_ret (v := .tuple #[.agg #[.int .i64 0, .int .i64 0, .string ⟨#[]⟩, .slice none 0 0], .int .i64 2]) (by simp [results, Tryz.results25, go_sem, u0, u1, u2, u3]) rfl (zero_err HO2.out (below_at HB7.out eW (by omega) (by omega)))
    · have HO2 := hid (show putAns nm bo bn bs ba op n s a = (putE nm (.cons bo bn bs ba .nil) op n s a, 0) by rw [HO.out, if_neg hdp])
      have hdI : decide ((20 : Int) < d2) = false := by simpa using hdp
      go_wp2_with fail
      refine (v_put nm bo bn bs ba (by omega) (a.size + 1) op n s a p c fa bp bc bf _ (by omega) (by omega) (HX.out.1.ext E7.out (fun _ _ => id)) h2 h3 (HX.out.2.1.ext E7.out (fun _ _ => id)) g2 g3).mono ?_
      clear x0 x1 x2 x3 y0 y1 y2 y3 z0 z1 z2 z3 f0 f1 f2 f3
      rintro e w9 ⟨⟨o1, n1, s1, a1, p1, c1, f1, rfl, m1, m2, m3, m4, m5⟩, hb9⟩
      have E9 := hid (E7.out.trans (Ext.of_below (S := fun _ => False) hb9))
      have HB9 := hid (below_ext HBZ.out E9.out (by omega))
      have hz9 : w.heap.size + 3 ≤ w9.heap.size := by have := E9.out.size; omega
      have HG := hid (And.intro m1 (And.intro m2 (And.intro m3 (And.intro m4 m5))))
      clear m1 m2 m3 m4 m5 hb9
      obtain ⟨⟨z0, z1, z2, z3⟩, r0, r1, r2, r3⟩ := blk4 (E9.out.heap HZ.out id)
      go_wp2_with fail
      obtain ⟨W, hW, u0, u1, u2, u3, eW⟩ := set4_all (a0 := .int .i64 o1) (a1 := .int .i64 n1) (a2 := .string s1) (a3 := .slice p1 a1.len c1) z0 z1 z2 z3
      rw [hW]
      exact bodyPost_ret (v := .tuple #[.agg #[.int .i64 o1, .int .i64 n1, .string s1, .slice p1 a1.len c1], .int .i64 0]) (by simp [results, Tryz.results25, go_sem, u0, u1, u2, u3]) rfl ⟨⟨o1, n1, s1, a1, p1, c1, f1, by rw [HO2.out], by rw [HO2.out]; exact HG.out.1, HG.out.2.1.ext eW (fun b hb e => by have := HG.out.2.2.2.2 b hb; omega), HG.out.2.2.1, HG.out.2.2.2.1, fun b hb => by have := HG.out.2.2.2.2 b hb; omega⟩, below_at HB9.out eW (by omega) (by omega)⟩
end Go.Proofs.YtkgciohebloffaaGreat
/- Simple, the program's, with the error of its argument. -/
namespace Go.Proofs.YtkgciohebloffaaGreat
open Go.RowKit

/-- What Simple answers. -/
def simAns (op n : Int) (s : ByteArray) (a : F) : F × Int := if errE op n s a 1 ≠ 0 then (nilE, errE op n s a 1) else (simE op n s a, 0)
set_option maxRecDepth 100000 in
set_option maxHeartbeats 4000000 in
theorem v_Simple (op n : Int) (s : ByteArray) (a : F) (p : Option Addr) (c : Nat) (fa : List Nat) (w : World) (hsa : a.size ≤ 1000) (h1 : RdP w a p fa) (h2 : a.len ≤ c) (h3 : c ≤ 9223372036854775807) (h4 : (F.cons op n s a .nil).Fits) :
    Calls Tryz.prog 24 #[.agg #[.int .i64 op, .int .i64 n, .string s, .slice p a.len c]] w (GotErr (simAns op n s a) w) := by
  have EZ := hid (((Ext.refl (S := fun _ => False) w).alloc (.cells #[.int .i64 op, .int .i64 n, .string s, .slice p a.len c] 28)).alloc (.cells #[.int .i64 0, .int .i64 0, .string ⟨#[]⟩, .slice none 0 0] 28))
  have HBZ := hid (show Below w.heap.size w _ from EZ.out.below (Below.refl _ _) (fun _ _ => id))
  obtain ⟨HB, HR⟩ : Hid ((((w.alloc (.cells #[.int .i64 op, .int .i64 n, .string s, .slice p a.len c] 28)).alloc (.cells #[.int .i64 0, .int .i64 0, .string ⟨#[]⟩, .slice none 0 0] 28))).heap[w.heap.size]? = some (.cells #[.int .i64 op, .int .i64 n, .string s, .slice p a.len c] 28 (0, 0))) ∧ Hid ((((w.alloc (.cells #[.int .i64 op, .int .i64 n, .string s, .slice p a.len c] 28)).alloc (.cells #[.int .i64 0, .int .i64 0, .string ⟨#[]⟩, .slice none 0 0] 28))).heap[w.heap.size + 1]? = some (.cells #[.int .i64 0, .int .i64 0, .string ⟨#[]⟩, .slice none 0 0] 28 (0, 0))) := by
    have h1 := heap_new w (.cells #[.int .i64 op, .int .i64 n, .string s, .slice p a.len c] 28)
    have h2 := heap_new (w.alloc (.cells #[.int .i64 op, .int .i64 n, .string s, .slice p a.len c] 28)) (.cells #[.int .i64 0, .int .i64 0, .string ⟨#[]⟩, .slice none 0 0] 28)
    rw [show (w.alloc (.cells #[.int .i64 op, .int .i64 n, .string s, .slice p a.len c] 28)).heap.size = w.heap.size + 1 by simp] at h2
    exact ⟨hid (((Ext.refl (S := fun _ => False) _).alloc _).heap h1 id), hid h2⟩
  have HX := hid (And.intro (h1.ext EZ.out (fun _ _ => id)) h4)
  clear h1 h4
  go_enter Tryz.func24, Tryz.ntmps24
  go_wp2_with fail
  refine (p_CheckExpr op n s a p c fa _ HX.out.1 h2 h3 HX.out.2).mono ?_
  rintro e w3 ⟨rfl, hb3⟩
  have E3 := hid (Ext.of_below (S := fun _ => False) hb3)
  have HB3 := hid (below_ext HBZ.out E3.out (by simp; omega))
  have hz3 : w.heap.size + 2 ≤ w3.heap.size := by have := E3.out.size; simp at this; omega
  obtain ⟨⟨x0, x1, x2, x3⟩, _⟩ := blk4 (E3.out.heap HB.out id)
  obtain ⟨⟨z0, z1, z2, z3⟩, r0, r1, r2, r3⟩ := blk4 (E3.out.heap HR.out id)
  clear hb3
  generalize hge : errE op n s a 1 = er
  have GE := hid hge
  clear hge
  by_cases he : er = 0
  case neg =>
    have hne : (er != 0) = true := by simpa using he
    have HO := hid (show simAns op n s a = (nilE, er) by unfold simAns; rw [if_pos (by rw [GE.out]; exact he), GE.out])
    clear he
    go_wp2_with fail
    obtain ⟨W, hW, u0, u1, u2, u3, eW⟩ := set4_all (a0 := .int .i64 0) (a1 := .int .i64 0) (a2 := .string ⟨#[]⟩) (a3 := .slice none 0 0) z0 z1 z2 z3
    rw [hW]
    exact bodyPost_ret (v := .tuple #[.agg #[.int .i64 0, .int .i64 0, .string ⟨#[]⟩, .slice none 0 0], .int .i64 er]) (by simp [results, Tryz.results24, go_sem, u0, u1, u2, u3]) rfl (zero_err HO.out (below_at HB3.out eW (by omega) (by omega)))
  subst he
  have HO := hid (show simAns op n s a = (simE op n s a, 0) by unfold simAns; rw [if_neg (by rw [GE.out]; simp)])
  go_wp2_with fail
  refine (v_simple (a.size + 1) op n s a p c fa _ (by omega) (by omega) (small_of_errE GE.out) HX.out.2 (HX.out.1.ext E3.out (fun _ _ => id)) h2 h3).mono ?_
  rintro e w5 ⟨⟨o1, n1, s1, a1, p1, c1, f1, rfl, m1, m2, m3, m4, m5⟩, hb5⟩
  have E5 := hid (E3.out.trans (Ext.of_below (S := fun _ => False) hb5))
  have HB5 := hid (below_ext HBZ.out E5.out (by simp; omega))
  have hz5 : w.heap.size + 2 ≤ w5.heap.size := by have := E5.out.size; simp at this; omega
  have HG := hid (And.intro m1 (And.intro m2 (And.intro m3 (And.intro m4 m5))))
  clear m1 m2 m3 m4 m5 hb5 x0 x1 x2 x3 z0 z1 z2 z3 r0 r1 r2 r3
  obtain ⟨⟨z0, z1, z2, z3⟩, r0, r1, r2, r3⟩ := blk4 (E5.out.heap HR.out id)
  go_wp2_with fail
  obtain ⟨W, hW, u0, u1, u2, u3, eW⟩ := set4_all (a0 := .int .i64 o1) (a1 := .int .i64 n1) (a2 := .string s1) (a3 := .slice p1 a1.len c1) z0 z1 z2 z3
  rw [hW]
  exact bodyPost_ret (v := .tuple #[.agg #[.int .i64 o1, .int .i64 n1, .string s1, .slice p1 a1.len c1], .int .i64 0]) (by simp [results, Tryz.results24, go_sem, u0, u1, u2, u3]) rfl ⟨⟨o1, n1, s1, a1, p1, c1, f1, by rw [HO.out], by rw [HO.out]; exact HG.out.1, HG.out.2.1.ext eW (fun b hb e => by have := HG.out.2.2.2.2 b hb; omega), HG.out.2.2.1, HG.out.2.2.2.1, fun b hb => by have := HG.out.2.2.2.2 b hb; omega⟩, below_at HB5.out eW (by omega) (by omega)⟩
end Go.Proofs.YtkgciohebloffaaGreat
