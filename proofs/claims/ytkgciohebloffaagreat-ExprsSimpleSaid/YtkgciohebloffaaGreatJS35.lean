/- Texts joined: VRul2E, VRul2, VEq. -/
import Derived.Test.YtkgciohebloffaaGreatJS25
import Derived.Test.YtkgciohebloffaaGreatJS22
import Derived.Deep.RegionHeld3
import Derived.Deep.RegionLaw
import Derived.Deep.RegionWith
import Derived.Test.YtkgciohebloffaaGreatJS33
import Derived.Test.YtkgciohebloffaaGreatJS34
import Derived.Test.YtkgciohebloffaaGreatJS12
/- neutral, the program's, at an operator. (Made by tools/gen/rul2.py.) -/
namespace Go.Proofs.YtkgciohebloffaaGreat
open Go.RowKit

set_option maxRecDepth 100000 in
set_option maxHeartbeats 4000000 in
theorem v_neutralE (op n : Int) (s : ByteArray) (a : F) (p : Option Addr) (c : Nat) (fa : List Nat) (w : World) (hp : RdP w a p fa) (hac : a.len ≤ c) (hc : c ≤ 9223372036854775807) (hal : a.len = 2) (e3 : (op == 3) = false) (e4 : (op == 4) = false) (e5 : (op == 5) = false) :
    Calls Tryz.prog 181 #[.agg #[.int .i64 op, .int .i64 n, .string s, .slice p a.len c]] w (GotRule fa (rule2 op a) w) := by
  have EZ := hid (((Ext.refl (S := fun _ => False) w).alloc (.cells #[.int .i64 op, .int .i64 n, .string s, .slice p a.len c] 28)).alloc (.cells #[.int .i64 0, .int .i64 0, .string ⟨#[]⟩, .slice none 0 0] 28))
  obtain ⟨HB, HR⟩ : Hid (((w.alloc (.cells #[.int .i64 op, .int .i64 n, .string s, .slice p a.len c] 28)).alloc (.cells #[.int .i64 0, .int .i64 0, .string ⟨#[]⟩, .slice none 0 0] 28)).heap[w.heap.size]? = some (.cells #[.int .i64 op, .int .i64 n, .string s, .slice p a.len c] 28 (0, 0))) ∧ Hid (((w.alloc (.cells #[.int .i64 op, .int .i64 n, .string s, .slice p a.len c] 28)).alloc (.cells #[.int .i64 0, .int .i64 0, .string ⟨#[]⟩, .slice none 0 0] 28)).heap[w.heap.size + 1]? = some (.cells #[.int .i64 0, .int .i64 0, .string ⟨#[]⟩, .slice none 0 0] 28 (0, 0))) := by
    have h1 := heap_new w (.cells #[.int .i64 op, .int .i64 n, .string s, .slice p a.len c] 28)
    have h2 := heap_new (w.alloc (.cells #[.int .i64 op, .int .i64 n, .string s, .slice p a.len c] 28)) (.cells #[.int .i64 0, .int .i64 0, .string ⟨#[]⟩, .slice none 0 0] 28)
    rw [show (w.alloc (.cells #[.int .i64 op, .int .i64 n, .string s, .slice p a.len c] 28)).heap.size = w.heap.size + 1 by simp] at h2
    exact ⟨hid (((Ext.refl (S := fun _ => False) _).alloc _).heap h1 id), hid h2⟩
  have HP := hid (hp.ext EZ.out (fun _ _ => id))
  have hcI : (c : Int) ≤ 9223372036854775807 := by omega
  have hacI : (a.len : Int) ≤ c := by omega
  have HBZ := hid (show Below w.heap.size w ((w.alloc (.cells #[.int .i64 op, .int .i64 n, .string s, .slice p a.len c] 28)).alloc (.cells #[.int .i64 0, .int .i64 0, .string ⟨#[]⟩, .slice none 0 0] 28)) from (alloc_below w _).alloc (by simp) _)
  have HLt := hid (show ∀ x ∈ fa, x < w.heap.size from hp.lt)
  have HPw := hid hp
  have HFa := hid (show ∀ x ∈ fa, ¬ (x = w.heap.size + 1) from fun x hx e => by have := hp.lt x hx; omega)
  clear hp
  have hnl : ((a.len : Int) != 2) = false := by simp; omega
  obtain ⟨b, o, xo, xn, xs, xa, xp, xc, xf, yo, yn, ys, ya, yp, yc, yf, rfl, ha, hx, hy⟩ := args_two HPw.out hal
  have HX := hid hx
  have HY := hid hy
  have HA := hid ha
  have hn0 : 0 < a.len := by omega
  have hi0 : (0 : Int) < a.len := by omega
  have hn1 : 1 < a.len := by omega
  have hi1 : (1 : Int) < a.len := by omega
  have hr2 : rule2 op a = if ((op == 3 || op == 4) && (yo == 1 && yn == 0) || op == 5 && (yo == 1 && yn == 1)) = true then some (F.cons xo xn xs xa .nil) else if (op == 3 && (xo == 1 && xn == 0) || op == 5 && (xo == 1 && xn == 1)) = true then some (F.cons yo yn ys ya .nil) else if (op == 5 && ((xo == 1 && xn == 0) || (yo == 1 && yn == 0))) = true then some (numF 0) else none := by
    rw [ha]; rfl
  rw [e3, e4, e5] at hr2
  have HR2 := hid hr2
  clear hx hy ha hr2 hal
  have hbw : b < w.heap.size := HLt.out b HX.out.2.2.2.2.2
  have hbw1 : b < w.heap.size + 1 := by omega
  have hbw2 : b < w.heap.size + 1 + 1 := by omega
  have hbw3 : b < w.heap.size + 1 + 1 + 1 := by omega
  have hbn : b ≠ w.heap.size := by omega
  have hbn1 : b ≠ w.heap.size + 1 := by omega
  have hbn2 : b ≠ w.heap.size + 1 + 1 := by omega
  have hbn3 : b ≠ w.heap.size + 1 + 1 + 1 := by omega
  obtain ⟨x0, x1, x2, x3⟩ := HX.out.1
  obtain ⟨y0, y1, y2, y3⟩ := HY.out.1
  clear HP HB HR EZ HBZ
  go_enter Tryz.func181, Tryz.ntmps181
  go_wp2_with fail
  go_region
  all_goals clear hbw hbw1 hbw2 hbw3 hbn hbn1 hbn2 hbn3 x0 x1 x2 x3 y0 y1 y2 y3
  · obtain ⟨w5, hw5, hw1, hw2, hw3, hw4, he5⟩ := four_new w #[.int .i64 op, .int .i64 n, .string s, .slice (some ⟨b, o, none⟩) a.len c] #[.int .i64 0, .int .i64 0, .string ⟨#[]⟩, .slice none 0 0] #[.int .i64 xo, .int .i64 xn, .string xs, .slice xp xa.len xc] #[.int .i64 yo, .int .i64 yn, .string ys, .slice yp ya.len yc] 28
    rw [hw5]
    have HB5 := hid hw1
    have HR5 := hid hw2
    have HXB := hid hw3
    have HYB := hid hw4
    have E5w := hid he5
    have E5 := hid (Ext.refl (S := fun _ => False) w5)
    have HBW := hid (he5.below (Below.refl w.heap.size w) (fun _ _ => id))
    have hz5 : w.heap.size + 1 < w5.heap.size := by
      obtain ⟨⟨z0, _⟩, _⟩ := blk4 hw2
      exact World.block_lt_of_cell? _ _ z0
    clear hw5 hw1 hw2 hw3 hw4 he5
    obtain ⟨⟨c0, c1, c2, c3⟩, _⟩ := blk4 (E5.out.heap HB5.out id)
    obtain ⟨⟨z0, z1, z2, z3⟩, f0, f1, f2, f3⟩ := blk4 (E5.out.heap HR5.out id)
    obtain ⟨⟨p0, p1, p2, p3⟩, _⟩ := blk4 (E5.out.heap HXB.out id)
    obtain ⟨⟨q0, q1, q2, q3⟩, _⟩ := blk4 (E5.out.heap HYB.out id)
    clear c1 c2 c3
    have HO := hid (show rule2 op a = none by first | exact HR2.out | (have h := HR2.out; simpa using h))
    go_wp2_with fail
    obtain ⟨W, hW, u0, u1, u2, u3, eW⟩ := set4_all (a0 := .int .i64 0) (a1 := .int .i64 0) (a2 := .string ⟨#[]⟩) (a3 := .slice none 0 0) z0 z1 z2 z3
    rw [hW]
    exact bodyPost_ret (v := .tuple #[.agg #[.int .i64 0, .int .i64 0, .string ⟨#[]⟩, .slice none 0 0], .bool false]) (by simp [results, Tryz.results181, go_sem, u0, u1, u2, u3]) rfl (none_got HO.out (below_at HBW.out eW (by omega) (by omega)))
  · obtain ⟨w5, hw5, hw1, hw2, hw3, hw4, he5⟩ := four_new w #[.int .i64 op, .int .i64 n, .string s, .slice (some ⟨b, o, none⟩) a.len c] #[.int .i64 0, .int .i64 0, .string ⟨#[]⟩, .slice none 0 0] #[.int .i64 yo, .int .i64 yn, .string ys, .slice yp ya.len yc] #[.int .i64 xo, .int .i64 xn, .string xs, .slice xp xa.len xc] 28
    rw [hw5]
    have HB5 := hid hw1
    have HR5 := hid hw2
    have HXB := hid hw4
    have HYB := hid hw3
    have E5w := hid he5
    have E5 := hid (Ext.refl (S := fun _ => False) w5)
    have HBW := hid (he5.below (Below.refl w.heap.size w) (fun _ _ => id))
    have hz5 : w.heap.size + 1 < w5.heap.size := by
      obtain ⟨⟨z0, _⟩, _⟩ := blk4 hw2
      exact World.block_lt_of_cell? _ _ z0
    clear hw5 hw1 hw2 hw3 hw4 he5
    obtain ⟨⟨c0, c1, c2, c3⟩, _⟩ := blk4 (E5.out.heap HB5.out id)
    obtain ⟨⟨z0, z1, z2, z3⟩, f0, f1, f2, f3⟩ := blk4 (E5.out.heap HR5.out id)
    obtain ⟨⟨p0, p1, p2, p3⟩, _⟩ := blk4 (E5.out.heap HXB.out id)
    obtain ⟨⟨q0, q1, q2, q3⟩, _⟩ := blk4 (E5.out.heap HYB.out id)
    clear c1 c2 c3
    have HO := hid (show rule2 op a = none by first | exact HR2.out | (have h := HR2.out; simpa using h))
    go_wp2_with fail
    obtain ⟨W, hW, u0, u1, u2, u3, eW⟩ := set4_all (a0 := .int .i64 0) (a1 := .int .i64 0) (a2 := .string ⟨#[]⟩) (a3 := .slice none 0 0) z0 z1 z2 z3
    rw [hW]
    exact bodyPost_ret (v := .tuple #[.agg #[.int .i64 0, .int .i64 0, .string ⟨#[]⟩, .slice none 0 0], .bool false]) (by simp [results, Tryz.results181, go_sem, u0, u1, u2, u3]) rfl (none_got HO.out (below_at HBW.out eW (by omega) (by omega)))
end Go.Proofs.YtkgciohebloffaaGreat
/- neutral, the program's. (Made by tools/gen/rul2.py.) -/
namespace Go.Proofs.YtkgciohebloffaaGreat
open Go.RowKit

set_option maxRecDepth 100000 in
set_option maxHeartbeats 4000000 in
theorem v_neutral (op n : Int) (s : ByteArray) (a : F) (p : Option Addr) (c : Nat) (fa : List Nat) (w : World) (hs : (F.cons op n s a .nil).Small) (hp : RdP w a p fa) (hac : a.len ≤ c) (hc : c ≤ 9223372036854775807) :
    Calls Tryz.prog 181 #[.agg #[.int .i64 op, .int .i64 n, .string s, .slice p a.len c]] w (GotRule fa (rule2 op a) w) := by
  have EZ := hid (((Ext.refl (S := fun _ => False) w).alloc (.cells #[.int .i64 op, .int .i64 n, .string s, .slice p a.len c] 28)).alloc (.cells #[.int .i64 0, .int .i64 0, .string ⟨#[]⟩, .slice none 0 0] 28))
  obtain ⟨HB, HR⟩ : Hid (((w.alloc (.cells #[.int .i64 op, .int .i64 n, .string s, .slice p a.len c] 28)).alloc (.cells #[.int .i64 0, .int .i64 0, .string ⟨#[]⟩, .slice none 0 0] 28)).heap[w.heap.size]? = some (.cells #[.int .i64 op, .int .i64 n, .string s, .slice p a.len c] 28 (0, 0))) ∧ Hid (((w.alloc (.cells #[.int .i64 op, .int .i64 n, .string s, .slice p a.len c] 28)).alloc (.cells #[.int .i64 0, .int .i64 0, .string ⟨#[]⟩, .slice none 0 0] 28)).heap[w.heap.size + 1]? = some (.cells #[.int .i64 0, .int .i64 0, .string ⟨#[]⟩, .slice none 0 0] 28 (0, 0))) := by
    have h1 := heap_new w (.cells #[.int .i64 op, .int .i64 n, .string s, .slice p a.len c] 28)
    have h2 := heap_new (w.alloc (.cells #[.int .i64 op, .int .i64 n, .string s, .slice p a.len c] 28)) (.cells #[.int .i64 0, .int .i64 0, .string ⟨#[]⟩, .slice none 0 0] 28)
    rw [show (w.alloc (.cells #[.int .i64 op, .int .i64 n, .string s, .slice p a.len c] 28)).heap.size = w.heap.size + 1 by simp] at h2
    exact ⟨hid (((Ext.refl (S := fun _ => False) _).alloc _).heap h1 id), hid h2⟩
  have HP := hid (hp.ext EZ.out (fun _ _ => id))
  have hcI : (c : Int) ≤ 9223372036854775807 := by omega
  have hacI : (a.len : Int) ≤ c := by omega
  have HBZ := hid (show Below w.heap.size w ((w.alloc (.cells #[.int .i64 op, .int .i64 n, .string s, .slice p a.len c] 28)).alloc (.cells #[.int .i64 0, .int .i64 0, .string ⟨#[]⟩, .slice none 0 0] 28)) from (alloc_below w _).alloc (by simp) _)
  have HLt := hid (show ∀ x ∈ fa, x < w.heap.size from hp.lt)
  have HPw := hid hp
  have HFa := hid (show ∀ x ∈ fa, ¬ (x = w.heap.size + 1) from fun x hx e => by have := hp.lt x hx; omega)
  clear hp
  by_cases hal : a.len = 2
  · by_cases h3 : op = 3
    · exact v_neutral3 op n s a p c fa w HPw.out hac hc hal (by simp [h3]) (by simp [h3]) (by simp [h3])
    by_cases h4 : op = 4
    · exact v_neutral4 op n s a p c fa w HPw.out hac hc hal (by simp [h4]) (by simp [h4]) (by simp [h4])
    by_cases h5 : op = 5
    · exact v_neutral5 op n s a p c fa w HPw.out hac hc hal (by simp [h5]) (by simp [h5]) (by simp [h5])
    exact v_neutralE op n s a p c fa w HPw.out hac hc hal (by simpa using h3) (by simpa using h4) (by simpa using h5)
  · have hnl : ((a.len : Int) != 2) = true := by simp; omega
    have HO := hid (show rule2 op a = none by
      unfold rule2
      have h := hs.1.2.2
      have h3 : op ≠ 3 ∧ op ≠ 4 ∧ op ≠ 5 := by
        refine ⟨?_, ?_, ?_⟩ <;> (intro h'; subst h'; simp [ar] at h; omega)
      rw [show (op == 3) = false by simpa using h3.1, show (op == 4) = false by simpa using h3.2.1, show (op == 5) = false by simpa using h3.2.2]; rfl)
    clear hal
    obtain ⟨⟨c0, c1, c2, c3⟩, _⟩ := blk4 HB.out
    obtain ⟨⟨z0, z1, z2, z3⟩, f0, f1, f2, f3⟩ := blk4 HR.out
    clear c1 c2
    go_enter Tryz.func181, Tryz.ntmps181
    go_wp2_with fail
    exact bodyPost_ret (v := .tuple #[.agg #[.int .i64 0, .int .i64 0, .string ⟨#[]⟩, .slice none 0 0], .bool false]) (by simp [results, Tryz.results181, go_sem]) rfl (none_got HO.out HBZ.out)
end Go.Proofs.YtkgciohebloffaaGreat
/- equal, the program's: whether two expressions are equal. -/
namespace Go.Proofs.YtkgciohebloffaaGreat
open Go.RowKit

/-- What is said of equal, for first operands of less than m nodes. -/
def EqualSaid (m : Nat) : Prop := ∀ (op n : Int) (s : ByteArray) (a : F) (p : Option Addr) (c : Nat) (fa : List Nat) (op' n' : Int) (s' : ByteArray) (a' : F) (p' : Option Addr) (c' : Nat) (fa' : List Nat) (w : World), a.size < m → RdP w a p fa → RdP w a' p' fa' → a.len ≤ c → c ≤ 9223372036854775807 → a'.len ≤ c' → c' ≤ 9223372036854775807 →
    Calls Tryz.prog 211 #[.agg #[.int .i64 op, .int .i64 n, .string s, .slice p a.len c], .agg #[.int .i64 op', .int .i64 n', .string s', .slice p' a'.len c']] w fun e w' => e = .returned (.bool (sameE op n s a op' n' s' a')) ∧ Below w.heap.size w w'

set_option maxRecDepth 100000 in
set_option maxHeartbeats 4000000 in
theorem v_eq_all (m : Nat) (ih : EqualSaid m) (a a' : F) (p p' : Option Addr) (c c' : Nat) (fa fa' : List Nat) (w : World) (ham : a.size ≤ m) (hp : RdP w a p fa) (hp' : RdP w a' p' fa') (hac : a.len ≤ c) (hc : c ≤ 9223372036854775807) (_hac' : a'.len ≤ c') (_hc' : c' ≤ 9223372036854775807) :
    Calls Tryz.prog 78 #[.slice p a.len c, .slice p' a'.len c', .func (.func 211) #[] #[]] w fun e w' => e = .returned (.bool (a.eqb a')) ∧ Below w.heap.size w w' := by
  have HP := hid hp
  have HP' := hid hp'
  clear hp hp'
  by_cases hl : (a.len : Int) = a'.len
  · have e1 : ((a.len : Int) != a'.len) = false := by simpa using hl
    have hl1 : a.len ≤ a'.len := by omega
    have hl2 : a'.len ≤ a.len := by omega
    clear hl
    go_enter Tryz.func78, Tryz.ntmps78
    go_wp2_with fail
    go_loopw [17] (fun i wr => ∃ k : Nat, k ≤ a.len ∧ i = .int .i64 k ∧ a.eqb a' = (a.drop k).eqb (a'.drop k) ∧ Below w.heap.size w wr) (fun i _ => a.len - (intOf i).toNat)
    case atStart => exact ⟨0, by omega, rfl, rfl, Below.refl _ _⟩
    case round =>
      obtain ⟨k, hk, rfl, herr, hbl⟩ := hrel
      have HR := hid herr
      have HBl := hid hbl
      have hzr : w.heap.size ≤ wr.heap.size := hbl.size
      have hpr : RdP wr a p fa := HP.out.ext (S := fun _ => False) (Ext.of_below hbl) (fun _ _ => id)
      have hpr' : RdP wr a' p' fa' := HP'.out.ext (S := fun _ => False) (Ext.of_below hbl) (fun _ _ => id)
      clear herr hbl
      by_cases hlt : k < a.len
      · rcases hpr with ⟨h0, _⟩ | ⟨b, o, xa, fb, rfl, _, _, hcell, _, hx⟩
        · rw [h0] at hlt; simp [F.len] at hlt
        rcases hpr' with ⟨h0, _⟩ | ⟨b', o', xa', fb', rfl, _, _, hcell', _, hx'⟩
        · rw [h0] at hl1; simp [F.len] at hl1; omega
        obtain ⟨op1, n1, s1, a1, p1, c1, fa1, hdrop, x0, x1, x2, x3, hl', hc1, hp1, _⟩ := hx.at hlt
        obtain ⟨op2, n2, s2, a2, p2, c2, fa2, hdrop2, y0, y1, y2, y3, hl2', hc2, hp2, _⟩ := hx'.at (show k < a'.len by omega)
        have q0 := hcell _ _ x0
        have q1 := hcell _ _ x1
        have q2 := hcell _ _ x2
        have q3 := hcell _ _ x3
        have r0 := hcell' _ _ y0
        have r1 := hcell' _ _ y1
        have r2 := hcell' _ _ y2
        have r3 := hcell' _ _ y3
        simp only [← Nat.add_assoc, Nat.mul_comm 4 k] at q0 q1 q2 q3 r0 r1 r2 r3
        have hbb : b' < wr.heap.size := World.block_lt_of_cell? _ _ r0
        have hsz' : a1.size < m := by
          have := F.size_split k a hdrop; omega
        have HD := hid (And.intro hdrop hdrop2)
        have HQ := hid (And.intro hp1 (And.intro hp2 (And.intro hl' (And.intro hc1 (And.intro hl2' (And.intro hc2 hsz'))))))
        clear hcell hx x0 x1 x2 x3 hp1 hl' hc1 hsz' hdrop hcell' hx' y0 y1 y2 y3 hp2 hl2' hc2 hdrop2
        have hk2 : (k : Int) < (a'.len : Int) := by omega
        go_wp2_with fail
        refine (ih op1 n1 s1 a1 p1 c1 fa1 op2 n2 s2 a2 p2 c2 fa2 _ HQ.out.2.2.2.2.2.2 (HQ.out.1.ext (S := fun _ => False) (((Ext.refl _).alloc _).alloc _) (fun _ _ => id)) (HQ.out.2.1.ext (S := fun _ => False) (((Ext.refl _).alloc _).alloc _) (fun _ _ => id)) HQ.out.2.2.1 HQ.out.2.2.2.1 HQ.out.2.2.2.2.1 HQ.out.2.2.2.2.2.1).mono ?_
        rintro e w3 ⟨rfl, hb3⟩
        have HB3 := hid (HBl.out.trans ((((q_alloc_below wr _).trans ((q_alloc_below _ _).mono (by simp))).mono hzr).trans (hb3.mono (by simp; omega))))
        clear hb3
        have HEr : Hid (a.eqb a' = (sameE op1 n1 s1 a1 op2 n2 s2 a2 && (a.drop (k + 1)).eqb (a'.drop (k + 1)))) := hid (by rw [HR.out, HD.out.1, HD.out.2, F.eqb_cons])
        generalize sameE op1 n1 s1 a1 op2 n2 s2 a2 = er at *
        cases er
        · go_wp2_with fail
          go_ret
          exact ⟨ret_bool (by rw [HEr.out]; rfl), HB3.out⟩
        · go_wp2_with fail
          go_roundw
          case rel => exact ⟨k + 1, by omega, by go_num, by rw [HEr.out]; rfl, HB3.out⟩
          case measure => simp [intOf]; omega
      · go_wp2_with fail
        go_ret
        exact ⟨ret_bool (by rw [HR.out, F.eq_nil_of_len (f := a.drop k) (by rw [F.len_drop]; omega), F.eq_nil_of_len (f := a'.drop k) (by rw [F.len_drop]; omega)]; rfl), HBl.out⟩
  · have e1 : ((a.len : Int) != a'.len) = true := by simpa using hl
    have HE := hid (F.eqb_len (f := a) (g := a') (by omega))
    clear hl
    go_enter Tryz.func78, Tryz.ntmps78
    go_wp2_with fail
    go_ret
    exact ⟨ret_bool HE.out.symm, Below.refl _ _⟩

set_option maxRecDepth 100000 in
set_option maxHeartbeats 4000000 in
theorem v_eq_one (m : Nat) (ih : EqualSaid m)
    (op n : Int) (s : ByteArray) (a : F) (p : Option Addr) (c : Nat) (fa : List Nat) (op' n' : Int) (s' : ByteArray) (a' : F) (p' : Option Addr) (c' : Nat) (fa' : List Nat) (w : World) (ham : a.size ≤ m) (hp : RdP w a p fa) (hp' : RdP w a' p' fa') (hac : a.len ≤ c) (hc : c ≤ 9223372036854775807) (hac' : a'.len ≤ c') (hc' : c' ≤ 9223372036854775807) :
    Calls Tryz.prog 211 #[.agg #[.int .i64 op, .int .i64 n, .string s, .slice p a.len c], .agg #[.int .i64 op', .int .i64 n', .string s', .slice p' a'.len c']] w fun e w' => e = .returned (.bool (sameE op n s a op' n' s' a')) ∧ Below w.heap.size w w' := by
  have HP := hid hp
  have HP' := hid hp'
  clear hp hp'
  by_cases h1 : op = op'
  · subst h1
    by_cases h2 : n = n'
    · subst h2
      by_cases h3 : (s.toList == s'.toList) = true
      · have HE : Hid (sameE op n s a op n s' a' = a.eqb a') := hid (by simp only [sameE, h3, beq_self_eq_true, Bool.true_and])
        go_enter Tryz.func211, Tryz.ntmps211
        go_wp2_with fail
        refine (v_eq_all m ih a a' p p' c c' fa fa' _ ham (HP.out.ext (S := fun _ => False) (((Ext.refl _).alloc _).alloc _) (fun _ _ => id)) (HP'.out.ext (S := fun _ => False) (((Ext.refl _).alloc _).alloc _) (fun _ _ => id)) hac hc hac' hc').mono ?_
        rintro e w3 ⟨rfl, hb3⟩
        have HB3 := hid (((q_alloc_below w _).trans ((q_alloc_below _ _).mono (by simp))).trans (hb3.mono (by simp; omega)))
        clear hb3
        go_wp2_with fail
        go_ret
        exact ⟨ret_bool HE.out.symm, HB3.out⟩
      · have h4 : (s.toList == s'.toList) = false := by simpa using h3
        have HE : Hid (sameE op n s a op n s' a' = false) := hid (by simp only [sameE, h4, Bool.and_false, Bool.false_and])
        clear h3
        go_enter Tryz.func211, Tryz.ntmps211
        go_wp2_with fail
        go_ret
        exact ⟨ret_bool HE.out.symm, (q_alloc_below _ _).trans ((q_alloc_below _ _).mono (by simp))⟩
    · have e1 : (n == n') = false := by simpa using h2
      have HE : Hid (sameE op n s a op n' s' a' = false) := hid (by simp [sameE, h2])
      clear h2
      go_enter Tryz.func211, Tryz.ntmps211
      go_wp2_with fail
      go_ret
      exact ⟨ret_bool HE.out.symm, (q_alloc_below _ _).trans ((q_alloc_below _ _).mono (by simp))⟩
  · have e1 : (op == op') = false := by simpa using h1
    have HE : Hid (sameE op n s a op' n' s' a' = false) := hid (by simp [sameE, h1])
    clear h1
    go_enter Tryz.func211, Tryz.ntmps211
    go_wp2_with fail
    go_ret
    exact ⟨ret_bool HE.out.symm, (q_alloc_below _ _).trans ((q_alloc_below _ _).mono (by simp))⟩

theorem v_equal (m : Nat) : EqualSaid m := by
  induction m with
  | zero => intro op n s a p c fa op' n' s' a' p' c' fa' w h; omega
  | succ m ih => intro op n s a p c fa op' n' s' a' p' c' fa' w h h1 h2 h3 h4 h5 h6; exact v_eq_one m ih op n s a p c fa op' n' s' a' p' c' fa' w (by omega) h1 h2 h3 h4 h5 h6
end Go.Proofs.YtkgciohebloffaaGreat
