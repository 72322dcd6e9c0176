/- Texts joined: VRul3, VRul4, VRul5. -/
import Derived.Test.YtkgciohebloffaaGreatJS23
import Derived.Test.YtkgciohebloffaaGreatJS35
import Derived.Test.YtkgciohebloffaaGreatJS24
import Derived.Test.YtkgciohebloffaaGreatJS22
import Derived.Deep.RegionHeld3
import Derived.Deep.RegionWith
import Derived.Test.YtkgciohebloffaaGreatJS25
import Derived.Deep.RegionLaw
import Derived.StillTailTactics
/- sameArgs, the program's. -/
namespace Go.Proofs.YtkgciohebloffaaGreat
open Go.RowKit

set_option maxRecDepth 100000 in
set_option maxHeartbeats 4000000 in
theorem v_sameArgs (op n : Int) (s : ByteArray) (a : F) (p : Option Addr) (c : Nat) (fa : List Nat) (w : World) (hs : (F.cons op n s a .nil).Small) (hp : RdP w a p fa) (hac : a.len ≤ c) (hc : c ≤ 9223372036854775807) :
    Calls Tryz.prog 182 #[.agg #[.int .i64 op, .int .i64 n, .string s, .slice p a.len c]] w (GotRule fa (rule3 op a) w) := by
  by_cases hop : op = 4 ∨ op = 6 ∨ op = 7
  · have hal : a.len = 2 := by
      have h := hs.1.2.2
      rcases hop with rfl | rfl | rfl <;> simp [ar] at h <;> omega
    have EA := hid ((Ext.refl (S := fun _ => False) w).alloc (.cells #[.int .i64 op, .int .i64 n, .string s, .slice p a.len c] 28))
    have hB1 := heap_new w (.cells #[.int .i64 op, .int .i64 n, .string s, .slice p a.len c] 28)
    have hz : (w.alloc (.cells #[.int .i64 op, .int .i64 n, .string s, .slice p a.len c] 28)).heap.size = w.heap.size + 1 := by simp
    have HBz := heap_new (w.alloc (.cells #[.int .i64 op, .int .i64 n, .string s, .slice p a.len c] 28)) (.cells #[.int .i64 0, .int .i64 0, .string ⟨#[]⟩, .slice none 0 0] 28)
    rw [hz] at HBz
    have HBz := hid HBz
    have EZ := hid ((Ext.refl (S := fun _ => False) (w.alloc (.cells #[.int .i64 op, .int .i64 n, .string s, .slice p a.len c] 28))).alloc (.cells #[.int .i64 0, .int .i64 0, .string ⟨#[]⟩, .slice none 0 0] 28))
    have E0 := hid EZ.out.drew
    have HBA := hid (alloc_below w (.cells #[.int .i64 op, .int .i64 n, .string s, .slice p a.len c] 28))
    obtain ⟨⟨c0, c1, c2, c3⟩, _⟩ := blk4 hB1
    have hcI : (c : Int) ≤ 9223372036854775807 := by omega
    have hacI : (a.len : Int) ≤ c := by omega
    obtain ⟨b, o, xo, xn, xs, xa, xp, xc, xf, rfl, xd, x0, x1, x2, x3, xl, xm, xr, _⟩ := (hp.ext EA.out (fun _ _ => id)).arg (k := 0) (by omega)
    have HX := hid (And.intro xl (And.intro xm xr))
    have HDX := hid xd
    clear xl xm xr xd
    obtain ⟨b', o', yo, yn, ys, ya, yp, yc, yf, hbo, yd, y0, y1, y2, y3, yl, ym, yr, _⟩ := (hp.ext EA.out (fun _ _ => id)).arg (k := 1) (by omega)
    injection hbo with hbo
    injection hbo with hb' ho' _
    subst hb' ho'
    have HY := hid (And.intro yl (And.intro ym yr))
    have HDY := hid yd
    clear yl ym yr yd
    simp only [Nat.zero_mul, Nat.add_zero, Nat.one_mul] at *
    have hal' : (a.len : Int) = 2 := by omega
    have HAL := hid hal
    have h2 : (2 : Int) ≤ a.len := by omega
    have HF := hid (And.intro c0 (And.intro c3 (And.intro x0 (And.intro x1 (And.intro x2 (And.intro x3 (And.intro y0 (And.intro y1 (And.intro y2 y3)))))))))
    have HE3 := hid (show eqF a (a.drop 1) = sameE xo xn xs xa yo yn ys ya by
      have h1 := HDX.out
      rw [F.drop] at h1
      rw [h1, HDY.out]; rfl)
    have HEQ := hid (fun w' (h1 : RdP w' xa xp xf) (h2 : RdP w' ya yp yf) => v_equal (xa.size + 1) xo xn xs xa xp xc xf yo yn ys ya yp yc yf w' (by omega) h1 h2 HX.out.1 HX.out.2.1 HY.out.1 HY.out.2.1)
    have hn0 : 0 < a.len := by omega
    have hn1 : 1 < a.len := by omega
    have hi0 : (0 : Int) < a.len := by omega
    have hi1 : (1 : Int) < a.len := by omega
    clear hp hs hal hal' c0 c3 x0 x1 x2 x3 y0 y1 y2 y3 hB1 hz h2
    obtain ⟨c0, c3, x0, x1, x2, x3, y0, y1, y2, y3⟩ := HF.out
    have hcase : ∀ (tr : Int), (op = 7 → tr = 1) → (op ≠ 7 → tr = 0) → rule3 op a = if sameE xo xn xs xa yo yn ys ya = true then some (numF tr) else none := fun tr h1 h2 => by
      unfold rule3
      rw [HE3.out]
      have hor : (op == 4 || op == 6 || op == 7) = true := by rcases hop with rfl | rfl | rfl <;> rfl
      rw [hor, Bool.true_and]
      by_cases h7 : op = 7
      · rw [if_pos (show (op == 7) = true by simp [h7]), h1 h7]
      · rw [if_neg (show ¬ (op == 7) = true by simp [h7]), h2 h7]
    have HCase := hid hcase
    clear hcase
    generalize sameE xo xn xs xa yo yn ys ya = eq at HCase HEQ
    have ht : ((op == 4) = true ∧ (op == 7) = false) ∨ ((op == 4) = false ∧ (op == 6) = true ∧ (op == 7) = false) ∨ ((op == 4) = false ∧ (op == 6) = false ∧ (op == 7) = true) := by
      rcases hop with rfl | rfl | rfl
      · exact .inl ⟨rfl, rfl⟩
      · exact .inr (.inl ⟨rfl, rfl, rfl⟩)
      · exact .inr (.inr ⟨rfl, rfl, rfl⟩)
    clear hop
    rcases ht with ⟨e4, e7⟩ | ⟨e4, e6, e7⟩ | ⟨e4, e6, e7⟩
    · obtain ⟨tr, htr⟩ : ∃ tr, trB false = tr := ⟨_, rfl⟩
      have HTr := hid (fun w' => v_truth_t false w')
      rw [htr] at HTr
      have HC7 := hid (HCase.out tr (fun h => by rw [← htr]; first | rfl | (subst h; cases e7)) (fun h => by rw [← htr]; first | rfl | exact absurd (by simpa using e7) h))
      clear htr HCase
      go_enter Tryz.func182, Tryz.ntmps182
      go_wp2_with fail
      go_region_held3 (fun w' => w'.cell? ⟨w.heap.size, 0, none⟩ = some (.int .i64 op) ∧ w'.cell? ⟨w.heap.size, 3, none⟩ = some (.slice (some ⟨b, o, none⟩) a.len c) ∧ w'.cell? ⟨b, o, none⟩ = some (.int .i64 xo) ∧ w'.cell? ⟨b, o + 1, none⟩ = some (.int .i64 xn) ∧ w'.cell? ⟨b, o + 2, none⟩ = some (.string xs) ∧ w'.cell? ⟨b, o + 3, none⟩ = some (.slice xp xa.len xc) ∧ w'.cell? ⟨b, o + 4, none⟩ = some (.int .i64 yo) ∧ w'.cell? ⟨b, o + 4 + 1, none⟩ = some (.int .i64 yn) ∧ w'.cell? ⟨b, o + 4 + 2, none⟩ = some (.string ys) ∧ w'.cell? ⟨b, o + 4 + 3, none⟩ = some (.slice yp ya.len yc))
        (first
          | (with_reducible exact ⟨(set4_ext E6.out (.inr (by simp))).cell_some HF.out.1 id, (set4_ext E6.out (.inr (by simp))).cell_some HF.out.2.1 id, (set4_ext E6.out (.inr (by simp))).cell_some HF.out.2.2.1 id, (set4_ext E6.out (.inr (by simp))).cell_some HF.out.2.2.2.1 id, (set4_ext E6.out (.inr (by simp))).cell_some HF.out.2.2.2.2.1 id, (set4_ext E6.out (.inr (by simp))).cell_some HF.out.2.2.2.2.2.1 id, (set4_ext E6.out (.inr (by simp))).cell_some HF.out.2.2.2.2.2.2.1 id, (set4_ext E6.out (.inr (by simp))).cell_some HF.out.2.2.2.2.2.2.2.1 id, (set4_ext E6.out (.inr (by simp))).cell_some HF.out.2.2.2.2.2.2.2.2.1 id, (set4_ext E6.out (.inr (by simp))).cell_some HF.out.2.2.2.2.2.2.2.2.2 id⟩)
          | (with_reducible exact ⟨E6.out.cell_some HF.out.1 id, E6.out.cell_some HF.out.2.1 id, E6.out.cell_some HF.out.2.2.1 id, E6.out.cell_some HF.out.2.2.2.1 id, E6.out.cell_some HF.out.2.2.2.2.1 id, E6.out.cell_some HF.out.2.2.2.2.2.1 id, E6.out.cell_some HF.out.2.2.2.2.2.2.1 id, E6.out.cell_some HF.out.2.2.2.2.2.2.2.1 id, E6.out.cell_some HF.out.2.2.2.2.2.2.2.2.1 id, E6.out.cell_some HF.out.2.2.2.2.2.2.2.2.2 id⟩)
          | (with_reducible exact ⟨E5.out.cell_some HF.out.1 id, E5.out.cell_some HF.out.2.1 id, E5.out.cell_some HF.out.2.2.1 id, E5.out.cell_some HF.out.2.2.2.1 id, E5.out.cell_some HF.out.2.2.2.2.1 id, E5.out.cell_some HF.out.2.2.2.2.2.1 id, E5.out.cell_some HF.out.2.2.2.2.2.2.1 id, E5.out.cell_some HF.out.2.2.2.2.2.2.2.1 id, E5.out.cell_some HF.out.2.2.2.2.2.2.2.2.1 id, E5.out.cell_some HF.out.2.2.2.2.2.2.2.2.2 id⟩)
          | (with_reducible exact ⟨E0.out.cell_some HF.out.1 id, E0.out.cell_some HF.out.2.1 id, E0.out.cell_some HF.out.2.2.1 id, E0.out.cell_some HF.out.2.2.2.1 id, E0.out.cell_some HF.out.2.2.2.2.1 id, E0.out.cell_some HF.out.2.2.2.2.2.1 id, E0.out.cell_some HF.out.2.2.2.2.2.2.1 id, E0.out.cell_some HF.out.2.2.2.2.2.2.2.1 id, E0.out.cell_some HF.out.2.2.2.2.2.2.2.2.1 id, E0.out.cell_some HF.out.2.2.2.2.2.2.2.2.2 id⟩)
          | (go_keep; done))
        (first
          | (go_at_call 156; refine (HTr.out _).mono ?_; rintro e w4 ⟨rfl, rfl⟩)
          | (go_at_call 191; refine (v_number tr _).mono ?_; rintro e w5 ⟨rfl, hb5⟩; have F5 := hid ((Ext.refl (S := fun _ => False) _).drew.trans (Ext.of_below hb5)); have E5 := hid (EZ.out.trans F5.out); clear hb5)
          | (go_at_call 211; refine (HEQ.out _ (HX.out.2.2.ext E5.out (fun _ _ => id)) (HY.out.2.2.ext E5.out (fun _ _ => id))).mono ?_; rintro e w6 ⟨rfl, hb6⟩; have E6 := hid (E5.out.trans (Ext.of_below hb6)); have HZ6 := hid ((Ext.of_below (S := fun _ => False) hb6).heap (F5.out.heap HBz.out id) id); obtain ⟨⟨r0, r1, r2, r3⟩, g0, g1, g2, g3⟩ := blk4 HZ6.out; clear hb6))
      go_wp2_with fail
      obtain ⟨u0, u1, u2, u3⟩ := set4 (a0 := .int .i64 1) (a1 := .int .i64 tr) (a2 := .string ⟨#[]⟩) (a3 := .slice none 0 0) r0 r1 r2 r3
      have e4' := set4_ext (a0 := .int .i64 1) (a1 := .int .i64 tr) (a2 := .string ⟨#[]⟩) (a3 := .slice none 0 0) E6.out (b := w.heap.size + 1) (.inr (by simp))
      refine bodyPost_ret (v := .tuple #[.agg #[.int .i64 1, .int .i64 tr, .string ⟨#[]⟩, .slice none 0 0], .bool eq]) (by simp [results, Tryz.results182, go_sem, u0, u1, u2, u3]; first | done | rfl) rfl (num_got HC7.out ?_)
      exact HBA.out.trans ((e4'.below (Below.refl _ _) (fun _ _ => id)).mono (by simp))
    · obtain ⟨tr, htr⟩ : ∃ tr, trB false = tr := ⟨_, rfl⟩
      have HTr := hid (fun w' => v_truth_t false w')
      rw [htr] at HTr
      have HC7 := hid (HCase.out tr (fun h => by rw [← htr]; first | rfl | (subst h; cases e7)) (fun h => by rw [← htr]; first | rfl | exact absurd (by simpa using e7) h))
      clear htr HCase
      go_enter Tryz.func182, Tryz.ntmps182
      go_wp2_with fail
      go_region_held3 (fun w' => w'.cell? ⟨w.heap.size, 0, none⟩ = some (.int .i64 op) ∧ w'.cell? ⟨w.heap.size, 3, none⟩ = some (.slice (some ⟨b, o, none⟩) a.len c) ∧ w'.cell? ⟨b, o, none⟩ = some (.int .i64 xo) ∧ w'.cell? ⟨b, o + 1, none⟩ = some (.int .i64 xn) ∧ w'.cell? ⟨b, o + 2, none⟩ = some (.string xs) ∧ w'.cell? ⟨b, o + 3, none⟩ = some (.slice xp xa.len xc) ∧ w'.cell? ⟨b, o + 4, none⟩ = some (.int .i64 yo) ∧ w'.cell? ⟨b, o + 4 + 1, none⟩ = some (.int .i64 yn) ∧ w'.cell? ⟨b, o + 4 + 2, none⟩ = some (.string ys) ∧ w'.cell? ⟨b, o + 4 + 3, none⟩ = some (.slice yp ya.len yc))
        (first
          | (with_reducible exact ⟨(set4_ext E6.out (.inr (by simp))).cell_some HF.out.1 id, (set4_ext E6.out (.inr (by simp))).cell_some HF.out.2.1 id, (set4_ext E6.out (.inr (by simp))).cell_some HF.out.2.2.1 id, (set4_ext E6.out (.inr (by simp))).cell_some HF.out.2.2.2.1 id, (set4_ext E6.out (.inr (by simp))).cell_some HF.out.2.2.2.2.1 id, (set4_ext E6.out (.inr (by simp))).cell_some HF.out.2.2.2.2.2.1 id, (set4_ext E6.out (.inr (by simp))).cell_some HF.out.2.2.2.2.2.2.1 id, (set4_ext E6.out (.inr (by simp))).cell_some HF.out.2.2.2.2.2.2.2.1 id, (set4_ext E6.out (.inr (by simp))).cell_some HF.out.2.2.2.2.2.2.2.2.1 id, (set4_ext E6.out (.inr (by simp))).cell_some HF.out.2.2.2.2.2.2.2.2.2 id⟩)
          | (with_reducible exact ⟨E6.out.cell_some HF.out.1 id, E6.out.cell_some HF.out.2.1 id, E6.out.cell_some HF.out.2.2.1 id, E6.out.cell_some HF.out.2.2.2.1 id, E6.out.cell_some HF.out.2.2.2.2.1 id, E6.out.cell_some HF.out.2.2.2.2.2.1 id, E6.out.cell_some HF.out.2.2.2.2.2.2.1 id, E6.out.cell_some HF.out.2.2.2.2.2.2.2.1 id, E6.out.cell_some HF.out.2.2.2.2.2.2.2.2.1 id, E6.out.cell_some HF.out.2.2.2.2.2.2.2.2.2 id⟩)
          | (with_reducible exact ⟨E5.out.cell_some HF.out.1 id, E5.out.cell_some HF.out.2.1 id, E5.out.cell_some HF.out.2.2.1 id, E5.out.cell_some HF.out.2.2.2.1 id, E5.out.cell_some HF.out.2.2.2.2.1 id, E5.out.cell_some HF.out.2.2.2.2.2.1 id, E5.out.cell_some HF.out.2.2.2.2.2.2.1 id, E5.out.cell_some HF.out.2.2.2.2.2.2.2.1 id, E5.out.cell_some HF.out.2.2.2.2.2.2.2.2.1 id, E5.out.cell_some HF.out.2.2.2.2.2.2.2.2.2 id⟩)
          | (with_reducible exact ⟨E0.out.cell_some HF.out.1 id, E0.out.cell_some HF.out.2.1 id, E0.out.cell_some HF.out.2.2.1 id, E0.out.cell_some HF.out.2.2.2.1 id, E0.out.cell_some HF.out.2.2.2.2.1 id, E0.out.cell_some HF.out.2.2.2.2.2.1 id, E0.out.cell_some HF.out.2.2.2.2.2.2.1 id, E0.out.cell_some HF.out.2.2.2.2.2.2.2.1 id, E0.out.cell_some HF.out.2.2.2.2.2.2.2.2.1 id, E0.out.cell_some HF.out.2.2.2.2.2.2.2.2.2 id⟩)
          | (go_keep; done))
        (first
          | (go_at_call 156; refine (HTr.out _).mono ?_; rintro e w4 ⟨rfl, rfl⟩)
          | (go_at_call 191; refine (v_number tr _).mono ?_; rintro e w5 ⟨rfl, hb5⟩; have F5 := hid ((Ext.refl (S := fun _ => False) _).drew.trans (Ext.of_below hb5)); have E5 := hid (EZ.out.trans F5.out); clear hb5)
          | (go_at_call 211; refine (HEQ.out _ (HX.out.2.2.ext E5.out (fun _ _ => id)) (HY.out.2.2.ext E5.out (fun _ _ => id))).mono ?_; rintro e w6 ⟨rfl, hb6⟩; have E6 := hid (E5.out.trans (Ext.of_below hb6)); have HZ6 := hid ((Ext.of_below (S := fun _ => False) hb6).heap (F5.out.heap HBz.out id) id); obtain ⟨⟨r0, r1, r2, r3⟩, g0, g1, g2, g3⟩ := blk4 HZ6.out; clear hb6))
      go_wp2_with fail
      obtain ⟨u0, u1, u2, u3⟩ := set4 (a0 := .int .i64 1) (a1 := .int .i64 tr) (a2 := .string ⟨#[]⟩) (a3 := .slice none 0 0) r0 r1 r2 r3
      have e4' := set4_ext (a0 := .int .i64 1) (a1 := .int .i64 tr) (a2 := .string ⟨#[]⟩) (a3 := .slice none 0 0) E6.out (b := w.heap.size + 1) (.inr (by simp))
      refine bodyPost_ret (v := .tuple #[.agg #[.int .i64 1, .int .i64 tr, .string ⟨#[]⟩, .slice none 0 0], .bool eq]) (by simp [results, Tryz.results182, go_sem, u0, u1, u2, u3]; first | done | rfl) rfl (num_got HC7.out ?_)
      exact HBA.out.trans ((e4'.below (Below.refl _ _) (fun _ _ => id)).mono (by simp))
    · obtain ⟨tr, htr⟩ : ∃ tr, trB true = tr := ⟨_, rfl⟩
      have HTr := hid (fun w' => v_truth_t true w')
      rw [htr] at HTr
      have HC7 := hid (HCase.out tr (fun h => by rw [← htr]; first | rfl | (subst h; cases e7)) (fun h => by rw [← htr]; first | rfl | exact absurd (by simpa using e7) h))
      clear htr HCase
      go_enter Tryz.func182, Tryz.ntmps182
      go_wp2_with fail
      go_region_held3 (fun w' => w'.cell? ⟨w.heap.size, 0, none⟩ = some (.int .i64 op) ∧ w'.cell? ⟨w.heap.size, 3, none⟩ = some (.slice (some ⟨b, o, none⟩) a.len c) ∧ w'.cell? ⟨b, o, none⟩ = some (.int .i64 xo) ∧ w'.cell? ⟨b, o + 1, none⟩ = some (.int .i64 xn) ∧ w'.cell? ⟨b, o + 2, none⟩ = some (.string xs) ∧ w'.cell? ⟨b, o + 3, none⟩ = some (.slice xp xa.len xc) ∧ w'.cell? ⟨b, o + 4, none⟩ = some (.int .i64 yo) ∧ w'.cell? ⟨b, o + 4 + 1, none⟩ = some (.int .i64 yn) ∧ w'.cell? ⟨b, o + 4 + 2, none⟩ = some (.string ys) ∧ w'.cell? ⟨b, o + 4 + 3, none⟩ = some (.slice yp ya.len yc))
        (first
          | (with_reducible exact ⟨(set4_ext E6.out (.inr (by simp))).cell_some HF.out.1 id, (set4_ext E6.out (.inr (by simp))).cell_some HF.out.2.1 id, (set4_ext E6.out (.inr (by simp))).cell_some HF.out.2.2.1 id, (set4_ext E6.out (.inr (by simp))).cell_some HF.out.2.2.2.1 id, (set4_ext E6.out (.inr (by simp))).cell_some HF.out.2.2.2.2.1 id, (set4_ext E6.out (.inr (by simp))).cell_some HF.out.2.2.2.2.2.1 id, (set4_ext E6.out (.inr (by simp))).cell_some HF.out.2.2.2.2.2.2.1 id, (set4_ext E6.out (.inr (by simp))).cell_some HF.out.2.2.2.2.2.2.2.1 id, (set4_ext E6.out (.inr (by simp))).cell_some HF.out.2.2.2.2.2.2.2.2.1 id, (set4_ext E6.out (.inr (by simp))).cell_some HF.out.2.2.2.2.2.2.2.2.2 id⟩)
          | (with_reducible exact ⟨E6.out.cell_some HF.out.1 id, E6.out.cell_some HF.out.2.1 id, E6.out.cell_some HF.out.2.2.1 id, E6.out.cell_some HF.out.2.2.2.1 id, E6.out.cell_some HF.out.2.2.2.2.1 id, E6.out.cell_some HF.out.2.2.2.2.2.1 id, E6.out.cell_some HF.out.2.2.2.2.2.2.1 id, E6.out.cell_some HF.out.2.2.2.2.2.2.2.1 id, E6.out.cell_some HF.out.2.2.2.2.2.2.2.2.1 id, E6.out.cell_some HF.out.2.2.2.2.2.2.2.2.2 id⟩)
          | (with_reducible exact ⟨E5.out.cell_some HF.out.1 id, E5.out.cell_some HF.out.2.1 id, E5.out.cell_some HF.out.2.2.1 id, E5.out.cell_some HF.out.2.2.2.1 id, E5.out.cell_some HF.out.2.2.2.2.1 id, E5.out.cell_some HF.out.2.2.2.2.2.1 id, E5.out.cell_some HF.out.2.2.2.2.2.2.1 id, E5.out.cell_some HF.out.2.2.2.2.2.2.2.1 id, E5.out.cell_some HF.out.2.2.2.2.2.2.2.2.1 id, E5.out.cell_some HF.out.2.2.2.2.2.2.2.2.2 id⟩)
          | (with_reducible exact ⟨E0.out.cell_some HF.out.1 id, E0.out.cell_some HF.out.2.1 id, E0.out.cell_some HF.out.2.2.1 id, E0.out.cell_some HF.out.2.2.2.1 id, E0.out.cell_some HF.out.2.2.2.2.1 id, E0.out.cell_some HF.out.2.2.2.2.2.1 id, E0.out.cell_some HF.out.2.2.2.2.2.2.1 id, E0.out.cell_some HF.out.2.2.2.2.2.2.2.1 id, E0.out.cell_some HF.out.2.2.2.2.2.2.2.2.1 id, E0.out.cell_some HF.out.2.2.2.2.2.2.2.2.2 id⟩)
          | (go_keep; done))
        (first
          | (go_at_call 156; refine (HTr.out _).mono ?_; rintro e w4 ⟨rfl, rfl⟩)
          | (go_at_call 191; refine (v_number tr _).mono ?_; rintro e w5 ⟨rfl, hb5⟩; have F5 := hid ((Ext.refl (S := fun _ => False) _).drew.trans (Ext.of_below hb5)); have E5 := hid (EZ.out.trans F5.out); clear hb5)
          | (go_at_call 211; refine (HEQ.out _ (HX.out.2.2.ext E5.out (fun _ _ => id)) (HY.out.2.2.ext E5.out (fun _ _ => id))).mono ?_; rintro e w6 ⟨rfl, hb6⟩; have E6 := hid (E5.out.trans (Ext.of_below hb6)); have HZ6 := hid ((Ext.of_below (S := fun _ => False) hb6).heap (F5.out.heap HBz.out id) id); obtain ⟨⟨r0, r1, r2, r3⟩, g0, g1, g2, g3⟩ := blk4 HZ6.out; clear hb6))
      go_wp2_with fail
      obtain ⟨u0, u1, u2, u3⟩ := set4 (a0 := .int .i64 1) (a1 := .int .i64 tr) (a2 := .string ⟨#[]⟩) (a3 := .slice none 0 0) r0 r1 r2 r3
      have e4' := set4_ext (a0 := .int .i64 1) (a1 := .int .i64 tr) (a2 := .string ⟨#[]⟩) (a3 := .slice none 0 0) E6.out (b := w.heap.size + 1) (.inr (by simp))
      refine bodyPost_ret (v := .tuple #[.agg #[.int .i64 1, .int .i64 tr, .string ⟨#[]⟩, .slice none 0 0], .bool eq]) (by simp [results, Tryz.results182, go_sem, u0, u1, u2, u3]; first | done | rfl) rfl (num_got HC7.out ?_)
      exact HBA.out.trans ((e4'.below (Below.refl _ _) (fun _ _ => id)).mono (by simp))
  · have hx : ((op == 4) = false ∧ (op == 6) = false ∧ (op == 7) = false) := by simp; omega
    obtain ⟨e4, e6, e7⟩ := hx
    have HO := hid (show rule3 op a = none by unfold rule3; rw [e4, e6, e7]; rfl)
    clear hop
    go_enter Tryz.func182, Tryz.ntmps182
    go_wp2_with fail
    exact bodyPost_ret (v := .tuple #[.agg #[.int .i64 0, .int .i64 0, .string ⟨#[]⟩, .slice none 0 0], .bool false]) (by simp [results, Tryz.results182, go_sem]) rfl (none_got HO.out ((alloc_below _ _).alloc (by simp) _))
end Go.Proofs.YtkgciohebloffaaGreat
/- beyondValues, the program's. -/
namespace Go.Proofs.YtkgciohebloffaaGreat
open Go.RowKit

set_option maxRecDepth 100000 in
set_option maxHeartbeats 4000000 in
theorem v_beyondValues (op n : Int) (s : ByteArray) (a : F) (p : Option Addr) (c : Nat) (fa : List Nat) (w : World) (hs : (F.cons op n s a .nil).Small) (hp : RdP w a p fa) (hac : a.len ≤ c) (hc : c ≤ 9223372036854775807) :
    Calls Tryz.prog 183 #[.agg #[.int .i64 op, .int .i64 n, .string s, .slice p a.len c]] w (GotRule fa (rule4 op a) w) := by
  by_cases hop : (op == 6) = true
  · have hal : a.len = 2 := by
      have h := hs.1.2.2
      have h6 : op = 6 := by simpa using hop
      subst h6; simp [ar] at h; omega
    have hneq : (op != 6) = false := by simpa using hop
    have EA := hid ((Ext.refl (S := fun _ => False) w).alloc (.cells #[.int .i64 op, .int .i64 n, .string s, .slice p a.len c] 28))
    have hB1 := heap_new w (.cells #[.int .i64 op, .int .i64 n, .string s, .slice p a.len c] 28)
    have hz : (w.alloc (.cells #[.int .i64 op, .int .i64 n, .string s, .slice p a.len c] 28)).heap.size = w.heap.size + 1 := by simp
    have HBz := heap_new (w.alloc (.cells #[.int .i64 op, .int .i64 n, .string s, .slice p a.len c] 28)) (.cells #[.int .i64 0, .int .i64 0, .string ⟨#[]⟩, .slice none 0 0] 28)
    rw [hz] at HBz
    have HBz := hid HBz
    have EZ := hid ((Ext.refl (S := fun _ => False) (w.alloc (.cells #[.int .i64 op, .int .i64 n, .string s, .slice p a.len c] 28))).alloc (.cells #[.int .i64 0, .int .i64 0, .string ⟨#[]⟩, .slice none 0 0] 28))
    have E0 := hid EZ.out.drew
    have HBA := hid (alloc_below w (.cells #[.int .i64 op, .int .i64 n, .string s, .slice p a.len c] 28))
    obtain ⟨⟨c0, c1, c2, c3⟩, _⟩ := blk4 hB1
    have hcI : (c : Int) ≤ 9223372036854775807 := by omega
    have hacI : (a.len : Int) ≤ c := by omega
    obtain ⟨b, o, xo, xn, xs, xa, xp, xc, xf, rfl, xd, x0, x1, x2, x3, xl, xm, xr, _⟩ := (hp.ext EA.out (fun _ _ => id)).arg (k := 0) (by omega)
    have HX := hid (And.intro xl (And.intro xm xr))
    have HDX := hid xd
    clear xl xm xr xd
    obtain ⟨b', o', yo, yn, ys, ya, yp, yc, yf, hbo, yd, y0, y1, y2, y3, yl, ym, yr, _⟩ := (hp.ext EA.out (fun _ _ => id)).arg (k := 1) (by omega)
    injection hbo with hbo
    injection hbo with hb' ho' _
    subst hb' ho'
    have HY := hid (And.intro yl (And.intro ym yr))
    have HDY := hid yd
    clear yl ym yr yd
    simp only [Nat.zero_mul, Nat.add_zero, Nat.one_mul] at *
    have hn0 : 0 < a.len := by omega
    have hi0 : (0 : Int) < a.len := by omega
    have hn1 : 1 < a.len := by omega
    have hi1 : (1 : Int) < a.len := by omega
    have HF := hid (And.intro c0 (And.intro c3 (And.intro x0 (And.intro x1 (And.intro x2 (And.intro x3 (And.intro y0 (And.intro y1 (And.intro y2 y3)))))))))
    have hr4 : rule4 op a = if ((yo == 1 && yn == 0) || (xo == 1 && xn == 999)) = true then some (numF 0) else none := by
      have h1 := HDX.out
      rw [F.drop] at h1
      unfold rule4
      rw [hop, Bool.true_and, HDY.out]
      conv => lhs; rw [h1]
      rfl
    have HN1 := hid (fun w' => v_isNumber yo yn ys yp ya.len yc 0 w')
    have HN2 := hid (fun w' => v_isNumber xo xn xs xp xa.len xc 999 w')
    have HR4 := hid hr4
    clear hr4
    generalize (yo == 1 && yn == 0) = r1 at HN1 HR4
    generalize (xo == 1 && xn == 999) = r2 at HN2 HR4
    clear hp hs hal c0 c3 x0 x1 x2 x3 y0 y1 y2 y3 hB1 hz hop
    obtain ⟨c0, c3, x0, x1, x2, x3, y0, y1, y2, y3⟩ := HF.out
    cases r1 with
    | true =>
      have HO := hid (show rule4 op a = if true = true then some (numF 0) else none from HR4.out)
      have K0 := (show ((w.alloc (.cells #[.int .i64 op, .int .i64 n, .string s, .slice (some ⟨b, o, none⟩) a.len c] 28)).alloc (.cells #[.int .i64 0, .int .i64 0, .string ⟨#[]⟩, .slice none 0 0] 28)).drew.cell? ⟨w.heap.size, 0, none⟩ = some (.int .i64 op) ∧ ((w.alloc (.cells #[.int .i64 op, .int .i64 n, .string s, .slice (some ⟨b, o, none⟩) a.len c] 28)).alloc (.cells #[.int .i64 0, .int .i64 0, .string ⟨#[]⟩, .slice none 0 0] 28)).drew.cell? ⟨w.heap.size, 3, none⟩ = some (.slice (some ⟨b, o, none⟩) a.len c) ∧ ((w.alloc (.cells #[.int .i64 op, .int .i64 n, .string s, .slice (some ⟨b, o, none⟩) a.len c] 28)).alloc (.cells #[.int .i64 0, .int .i64 0, .string ⟨#[]⟩, .slice none 0 0] 28)).drew.cell? ⟨b, o, none⟩ = some (.int .i64 xo) ∧ ((w.alloc (.cells #[.int .i64 op, .int .i64 n, .string s, .slice (some ⟨b, o, none⟩) a.len c] 28)).alloc (.cells #[.int .i64 0, .int .i64 0, .string ⟨#[]⟩, .slice none 0 0] 28)).drew.cell? ⟨b, o + 1, none⟩ = some (.int .i64 xn) ∧ ((w.alloc (.cells #[.int .i64 op, .int .i64 n, .string s, .slice (some ⟨b, o, none⟩) a.len c] 28)).alloc (.cells #[.int .i64 0, .int .i64 0, .string ⟨#[]⟩, .slice none 0 0] 28)).drew.cell? ⟨b, o + 2, none⟩ = some (.string xs) ∧ ((w.alloc (.cells #[.int .i64 op, .int .i64 n, .string s, .slice (some ⟨b, o, none⟩) a.len c] 28)).alloc (.cells #[.int .i64 0, .int .i64 0, .string ⟨#[]⟩, .slice none 0 0] 28)).drew.cell? ⟨b, o + 3, none⟩ = some (.slice xp xa.len xc) ∧ ((w.alloc (.cells #[.int .i64 op, .int .i64 n, .string s, .slice (some ⟨b, o, none⟩) a.len c] 28)).alloc (.cells #[.int .i64 0, .int .i64 0, .string ⟨#[]⟩, .slice none 0 0] 28)).drew.cell? ⟨b, o + 4, none⟩ = some (.int .i64 yo) ∧ ((w.alloc (.cells #[.int .i64 op, .int .i64 n, .string s, .slice (some ⟨b, o, none⟩) a.len c] 28)).alloc (.cells #[.int .i64 0, .int .i64 0, .string ⟨#[]⟩, .slice none 0 0] 28)).drew.cell? ⟨b, o + 4 + 1, none⟩ = some (.int .i64 yn) ∧ ((w.alloc (.cells #[.int .i64 op, .int .i64 n, .string s, .slice (some ⟨b, o, none⟩) a.len c] 28)).alloc (.cells #[.int .i64 0, .int .i64 0, .string ⟨#[]⟩, .slice none 0 0] 28)).drew.cell? ⟨b, o + 4 + 2, none⟩ = some (.string ys) ∧ ((w.alloc (.cells #[.int .i64 op, .int .i64 n, .string s, .slice (some ⟨b, o, none⟩) a.len c] 28)).alloc (.cells #[.int .i64 0, .int .i64 0, .string ⟨#[]⟩, .slice none 0 0] 28)).drew.cell? ⟨b, o + 4 + 3, none⟩ = some (.slice yp ya.len yc) from ⟨E0.out.cell_some HF.out.1 id, E0.out.cell_some HF.out.2.1 id, E0.out.cell_some HF.out.2.2.1 id, E0.out.cell_some HF.out.2.2.2.1 id, E0.out.cell_some HF.out.2.2.2.2.1 id, E0.out.cell_some HF.out.2.2.2.2.2.1 id, E0.out.cell_some HF.out.2.2.2.2.2.2.1 id, E0.out.cell_some HF.out.2.2.2.2.2.2.2.1 id, E0.out.cell_some HF.out.2.2.2.2.2.2.2.2.1 id, E0.out.cell_some HF.out.2.2.2.2.2.2.2.2.2 id⟩)
      obtain ⟨k0_0, k0_1, k0_2, k0_3, k0_4, k0_5, k0_6, k0_7, k0_8, k0_9⟩ := K0
      go_enter Tryz.func183, Tryz.ntmps183
      go_wp2_with fail
      first
        | (go_region_law (first
            | (go_simp; go_at_call 191; refine (v_number 0 _).mono ?_; rintro e w5 ⟨rfl, hb5⟩; have F5 := hid ((Ext.refl (S := fun _ => False) _).drew.trans (Ext.of_below hb5)); have E5 := hid (EZ.out.trans F5.out); clear hb5; have K5 := (show w5.cell? ⟨w.heap.size, 0, none⟩ = some (.int .i64 op) ∧ w5.cell? ⟨w.heap.size, 3, none⟩ = some (.slice (some ⟨b, o, none⟩) a.len c) ∧ w5.cell? ⟨b, o, none⟩ = some (.int .i64 xo) ∧ w5.cell? ⟨b, o + 1, none⟩ = some (.int .i64 xn) ∧ w5.cell? ⟨b, o + 2, none⟩ = some (.string xs) ∧ w5.cell? ⟨b, o + 3, none⟩ = some (.slice xp xa.len xc) ∧ w5.cell? ⟨b, o + 4, none⟩ = some (.int .i64 yo) ∧ w5.cell? ⟨b, o + 4 + 1, none⟩ = some (.int .i64 yn) ∧ w5.cell? ⟨b, o + 4 + 2, none⟩ = some (.string ys) ∧ w5.cell? ⟨b, o + 4 + 3, none⟩ = some (.slice yp ya.len yc) from ⟨E5.out.cell_some HF.out.1 id, E5.out.cell_some HF.out.2.1 id, E5.out.cell_some HF.out.2.2.1 id, E5.out.cell_some HF.out.2.2.2.1 id, E5.out.cell_some HF.out.2.2.2.2.1 id, E5.out.cell_some HF.out.2.2.2.2.2.1 id, E5.out.cell_some HF.out.2.2.2.2.2.2.1 id, E5.out.cell_some HF.out.2.2.2.2.2.2.2.1 id, E5.out.cell_some HF.out.2.2.2.2.2.2.2.2.1 id, E5.out.cell_some HF.out.2.2.2.2.2.2.2.2.2 id⟩); obtain ⟨k5_0, k5_1, k5_2, k5_3, k5_4, k5_5, k5_6, k5_7, k5_8, k5_9⟩ := K5)
            | (go_simp; go_at_call 210; refine (HN1.out _).mono ?_; rintro e w6 ⟨rfl, hb6⟩; have F6 := hid (F5.out.trans (Ext.of_below hb6)); have E6 := hid (EZ.out.trans F6.out); obtain ⟨⟨r0, r1, r2, r3⟩, r4, r5, r6, r7⟩ := blk4 (F6.out.heap HBz.out id); clear hb6; have K6 := (show w6.cell? ⟨w.heap.size, 0, none⟩ = some (.int .i64 op) ∧ w6.cell? ⟨w.heap.size, 3, none⟩ = some (.slice (some ⟨b, o, none⟩) a.len c) ∧ w6.cell? ⟨b, o, none⟩ = some (.int .i64 xo) ∧ w6.cell? ⟨b, o + 1, none⟩ = some (.int .i64 xn) ∧ w6.cell? ⟨b, o + 2, none⟩ = some (.string xs) ∧ w6.cell? ⟨b, o + 3, none⟩ = some (.slice xp xa.len xc) ∧ w6.cell? ⟨b, o + 4, none⟩ = some (.int .i64 yo) ∧ w6.cell? ⟨b, o + 4 + 1, none⟩ = some (.int .i64 yn) ∧ w6.cell? ⟨b, o + 4 + 2, none⟩ = some (.string ys) ∧ w6.cell? ⟨b, o + 4 + 3, none⟩ = some (.slice yp ya.len yc) from ⟨E6.out.cell_some HF.out.1 id, E6.out.cell_some HF.out.2.1 id, E6.out.cell_some HF.out.2.2.1 id, E6.out.cell_some HF.out.2.2.2.1 id, E6.out.cell_some HF.out.2.2.2.2.1 id, E6.out.cell_some HF.out.2.2.2.2.2.1 id, E6.out.cell_some HF.out.2.2.2.2.2.2.1 id, E6.out.cell_some HF.out.2.2.2.2.2.2.2.1 id, E6.out.cell_some HF.out.2.2.2.2.2.2.2.2.1 id, E6.out.cell_some HF.out.2.2.2.2.2.2.2.2.2 id⟩); obtain ⟨k6_0, k6_1, k6_2, k6_3, k6_4, k6_5, k6_6, k6_7, k6_8, k6_9⟩ := K6)))
        | fail "the region"
      all_goals
        go_wp2_with fail
        obtain ⟨u0, u1, u2, u3⟩ := set4 (a0 := .int .i64 1) (a1 := .int .i64 0) (a2 := .string ⟨#[]⟩) (a3 := .slice none 0 0) r0 r1 r2 r3
        have e4' := set4_ext (a0 := .int .i64 1) (a1 := .int .i64 0) (a2 := .string ⟨#[]⟩) (a3 := .slice none 0 0) E6.out (b := w.heap.size + 1) (.inr (by simp))
        refine bodyPost_ret (v := .tuple #[.agg #[.int .i64 1, .int .i64 0, .string ⟨#[]⟩, .slice none 0 0], .bool true]) (by simp [results, Tryz.results183, go_sem, u0, u1, u2, u3]) rfl (num_got HO.out ?_)
        exact HBA.out.trans ((e4'.below (Below.refl _ _) (fun _ _ => id)).mono (by simp))
    | false =>
      have HO := hid (show rule4 op a = if r2 = true then some (numF 0) else none by have h := HR4.out; rwa [Bool.false_or] at h)
      have K0 := (show ((w.alloc (.cells #[.int .i64 op, .int .i64 n, .string s, .slice (some ⟨b, o, none⟩) a.len c] 28)).alloc (.cells #[.int .i64 0, .int .i64 0, .string ⟨#[]⟩, .slice none 0 0] 28)).drew.cell? ⟨w.heap.size, 0, none⟩ = some (.int .i64 op) ∧ ((w.alloc (.cells #[.int .i64 op, .int .i64 n, .string s, .slice (some ⟨b, o, none⟩) a.len c] 28)).alloc (.cells #[.int .i64 0, .int .i64 0, .string ⟨#[]⟩, .slice none 0 0] 28)).drew.cell? ⟨w.heap.size, 3, none⟩ = some (.slice (some ⟨b, o, none⟩) a.len c) ∧ ((w.alloc (.cells #[.int .i64 op, .int .i64 n, .string s, .slice (some ⟨b, o, none⟩) a.len c] 28)).alloc (.cells #[.int .i64 0, .int .i64 0, .string ⟨#[]⟩, .slice none 0 0] 28)).drew.cell? ⟨b, o, none⟩ = some (.int .i64 xo) ∧ ((w.alloc (.cells #[.int .i64 op, .int .i64 n, .string s, .slice (some ⟨b, o, none⟩) a.len c] 28)).alloc (.cells #[.int .i64 0, .int .i64 0, .string ⟨#[]⟩, .slice none 0 0] 28)).drew.cell? ⟨b, o + 1, none⟩ = some (.int .i64 xn) ∧ ((w.alloc (.cells #[.int .i64 op, .int .i64 n, .string s, .slice (some ⟨b, o, none⟩) a.len c] 28)).alloc (.cells #[.int .i64 0, .int .i64 0, .string ⟨#[]⟩, .slice none 0 0] 28)).drew.cell? ⟨b, o + 2, none⟩ = some (.string xs) ∧ ((w.alloc (.cells #[.int .i64 op, .int .i64 n, .string s, .slice (some ⟨b, o, none⟩) a.len c] 28)).alloc (.cells #[.int .i64 0, .int .i64 0, .string ⟨#[]⟩, .slice none 0 0] 28)).drew.cell? ⟨b, o + 3, none⟩ = some (.slice xp xa.len xc) ∧ ((w.alloc (.cells #[.int .i64 op, .int .i64 n, .string s, .slice (some ⟨b, o, none⟩) a.len c] 28)).alloc (.cells #[.int .i64 0, .int .i64 0, .string ⟨#[]⟩, .slice none 0 0] 28)).drew.cell? ⟨b, o + 4, none⟩ = some (.int .i64 yo) ∧ ((w.alloc (.cells #[.int .i64 op, .int .i64 n, .string s, .slice (some ⟨b, o, none⟩) a.len c] 28)).alloc (.cells #[.int .i64 0, .int .i64 0, .string ⟨#[]⟩, .slice none 0 0] 28)).drew.cell? ⟨b, o + 4 + 1, none⟩ = some (.int .i64 yn) ∧ ((w.alloc (.cells #[.int .i64 op, .int .i64 n, .string s, .slice (some ⟨b, o, none⟩) a.len c] 28)).alloc (.cells #[.int .i64 0, .int .i64 0, .string ⟨#[]⟩, .slice none 0 0] 28)).drew.cell? ⟨b, o + 4 + 2, none⟩ = some (.string ys) ∧ ((w.alloc (.cells #[.int .i64 op, .int .i64 n, .string s, .slice (some ⟨b, o, none⟩) a.len c] 28)).alloc (.cells #[.int .i64 0, .int .i64 0, .string ⟨#[]⟩, .slice none 0 0] 28)).drew.cell? ⟨b, o + 4 + 3, none⟩ = some (.slice yp ya.len yc) from ⟨E0.out.cell_some HF.out.1 id, E0.out.cell_some HF.out.2.1 id, E0.out.cell_some HF.out.2.2.1 id, E0.out.cell_some HF.out.2.2.2.1 id, E0.out.cell_some HF.out.2.2.2.2.1 id, E0.out.cell_some HF.out.2.2.2.2.2.1 id, E0.out.cell_some HF.out.2.2.2.2.2.2.1 id, E0.out.cell_some HF.out.2.2.2.2.2.2.2.1 id, E0.out.cell_some HF.out.2.2.2.2.2.2.2.2.1 id, E0.out.cell_some HF.out.2.2.2.2.2.2.2.2.2 id⟩)
      obtain ⟨k0_0, k0_1, k0_2, k0_3, k0_4, k0_5, k0_6, k0_7, k0_8, k0_9⟩ := K0
      go_enter Tryz.func183, Tryz.ntmps183
      go_wp2_with fail
      first
        | (go_region_law (first
            | (go_simp; go_at_call 191; refine (v_number 0 _).mono ?_; rintro e w5 ⟨rfl, hb5⟩; have F5 := hid ((Ext.refl (S := fun _ => False) _).drew.trans (Ext.of_below hb5)); have E5 := hid (EZ.out.trans F5.out); clear hb5; have K5 := (show w5.cell? ⟨w.heap.size, 0, none⟩ = some (.int .i64 op) ∧ w5.cell? ⟨w.heap.size, 3, none⟩ = some (.slice (some ⟨b, o, none⟩) a.len c) ∧ w5.cell? ⟨b, o, none⟩ = some (.int .i64 xo) ∧ w5.cell? ⟨b, o + 1, none⟩ = some (.int .i64 xn) ∧ w5.cell? ⟨b, o + 2, none⟩ = some (.string xs) ∧ w5.cell? ⟨b, o + 3, none⟩ = some (.slice xp xa.len xc) ∧ w5.cell? ⟨b, o + 4, none⟩ = some (.int .i64 yo) ∧ w5.cell? ⟨b, o + 4 + 1, none⟩ = some (.int .i64 yn) ∧ w5.cell? ⟨b, o + 4 + 2, none⟩ = some (.string ys) ∧ w5.cell? ⟨b, o + 4 + 3, none⟩ = some (.slice yp ya.len yc) from ⟨E5.out.cell_some HF.out.1 id, E5.out.cell_some HF.out.2.1 id, E5.out.cell_some HF.out.2.2.1 id, E5.out.cell_some HF.out.2.2.2.1 id, E5.out.cell_some HF.out.2.2.2.2.1 id, E5.out.cell_some HF.out.2.2.2.2.2.1 id, E5.out.cell_some HF.out.2.2.2.2.2.2.1 id, E5.out.cell_some HF.out.2.2.2.2.2.2.2.1 id, E5.out.cell_some HF.out.2.2.2.2.2.2.2.2.1 id, E5.out.cell_some HF.out.2.2.2.2.2.2.2.2.2 id⟩); obtain ⟨k5_0, k5_1, k5_2, k5_3, k5_4, k5_5, k5_6, k5_7, k5_8, k5_9⟩ := K5)
            | (go_simp; go_at_call 210; (with_reducible refine (HN2.out _).mono ?_); rintro e w7 ⟨rfl, hb7⟩; have F7 := hid (F6.out.trans (Ext.of_below hb7)); have E7 := hid (EZ.out.trans F7.out); obtain ⟨⟨t0, t1, t2, t3⟩, t4, t5, t6, t7⟩ := blk4 (F7.out.heap HBz.out id); clear hb7; have K7 := (show w7.cell? ⟨w.heap.size, 0, none⟩ = some (.int .i64 op) ∧ w7.cell? ⟨w.heap.size, 3, none⟩ = some (.slice (some ⟨b, o, none⟩) a.len c) ∧ w7.cell? ⟨b, o, none⟩ = some (.int .i64 xo) ∧ w7.cell? ⟨b, o + 1, none⟩ = some (.int .i64 xn) ∧ w7.cell? ⟨b, o + 2, none⟩ = some (.string xs) ∧ w7.cell? ⟨b, o + 3, none⟩ = some (.slice xp xa.len xc) ∧ w7.cell? ⟨b, o + 4, none⟩ = some (.int .i64 yo) ∧ w7.cell? ⟨b, o + 4 + 1, none⟩ = some (.int .i64 yn) ∧ w7.cell? ⟨b, o + 4 + 2, none⟩ = some (.string ys) ∧ w7.cell? ⟨b, o + 4 + 3, none⟩ = some (.slice yp ya.len yc) from ⟨E7.out.cell_some HF.out.1 id, E7.out.cell_some HF.out.2.1 id, E7.out.cell_some HF.out.2.2.1 id, E7.out.cell_some HF.out.2.2.2.1 id, E7.out.cell_some HF.out.2.2.2.2.1 id, E7.out.cell_some HF.out.2.2.2.2.2.1 id, E7.out.cell_some HF.out.2.2.2.2.2.2.1 id, E7.out.cell_some HF.out.2.2.2.2.2.2.2.1 id, E7.out.cell_some HF.out.2.2.2.2.2.2.2.2.1 id, E7.out.cell_some HF.out.2.2.2.2.2.2.2.2.2 id⟩); obtain ⟨k7_0, k7_1, k7_2, k7_3, k7_4, k7_5, k7_6, k7_7, k7_8, k7_9⟩ := K7)
            | (go_simp; go_at_call 210; (with_reducible refine (HN1.out _).mono ?_); rintro e w6 ⟨rfl, hb6⟩; have F6 := hid (F5.out.trans (Ext.of_below hb6)); have E6 := hid (EZ.out.trans F6.out); obtain ⟨⟨q0, q1, q2, q3⟩, q4, q5, q6, q7⟩ := blk4 (F6.out.heap HBz.out id); clear hb6; have K6 := (show w6.cell? ⟨w.heap.size, 0, none⟩ = some (.int .i64 op) ∧ w6.cell? ⟨w.heap.size, 3, none⟩ = some (.slice (some ⟨b, o, none⟩) a.len c) ∧ w6.cell? ⟨b, o, none⟩ = some (.int .i64 xo) ∧ w6.cell? ⟨b, o + 1, none⟩ = some (.int .i64 xn) ∧ w6.cell? ⟨b, o + 2, none⟩ = some (.string xs) ∧ w6.cell? ⟨b, o + 3, none⟩ = some (.slice xp xa.len xc) ∧ w6.cell? ⟨b, o + 4, none⟩ = some (.int .i64 yo) ∧ w6.cell? ⟨b, o + 4 + 1, none⟩ = some (.int .i64 yn) ∧ w6.cell? ⟨b, o + 4 + 2, none⟩ = some (.string ys) ∧ w6.cell? ⟨b, o + 4 + 3, none⟩ = some (.slice yp ya.len yc) from ⟨E6.out.cell_some HF.out.1 id, E6.out.cell_some HF.out.2.1 id, E6.out.cell_some HF.out.2.2.1 id, E6.out.cell_some HF.out.2.2.2.1 id, E6.out.cell_some HF.out.2.2.2.2.1 id, E6.out.cell_some HF.out.2.2.2.2.2.1 id, E6.out.cell_some HF.out.2.2.2.2.2.2.1 id, E6.out.cell_some HF.out.2.2.2.2.2.2.2.1 id, E6.out.cell_some HF.out.2.2.2.2.2.2.2.2.1 id, E6.out.cell_some HF.out.2.2.2.2.2.2.2.2.2 id⟩); obtain ⟨k6_0, k6_1, k6_2, k6_3, k6_4, k6_5, k6_6, k6_7, k6_8, k6_9⟩ := K6)))
        | fail "the region"
      all_goals
        go_wp2_with fail
        obtain ⟨u0, u1, u2, u3⟩ := set4 (a0 := .int .i64 1) (a1 := .int .i64 0) (a2 := .string ⟨#[]⟩) (a3 := .slice none 0 0) t0 t1 t2 t3
        have e4' := set4_ext (a0 := .int .i64 1) (a1 := .int .i64 0) (a2 := .string ⟨#[]⟩) (a3 := .slice none 0 0) E7.out (b := w.heap.size + 1) (.inr (by simp))
        refine bodyPost_ret (v := .tuple #[.agg #[.int .i64 1, .int .i64 0, .string ⟨#[]⟩, .slice none 0 0], .bool r2]) (by simp [results, Tryz.results183, go_sem, u0, u1, u2, u3]) rfl (num_got HO.out ?_)
        exact HBA.out.trans ((e4'.below (Below.refl _ _) (fun _ _ => id)).mono (by simp))
  · have hne : (op != 6) = true := by simpa using hop
    have HO := hid (show rule4 op a = none by unfold rule4; rw [show (op == 6) = false by simpa using hop]; rfl)
    clear hop
    go_enter Tryz.func183, Tryz.ntmps183
    go_wp2_with fail
    exact bodyPost_ret (v := .tuple #[.agg #[.int .i64 0, .int .i64 0, .string ⟨#[]⟩, .slice none 0 0], .bool false]) (by simp [results, Tryz.results183, go_sem]) rfl (none_got HO.out ((alloc_below _ _).alloc (by simp) _))
end Go.Proofs.YtkgciohebloffaaGreat
/- decided, the program's. (Made by tools/gen/rul.py.) -/
namespace Go.Proofs.YtkgciohebloffaaGreat
open Go.RowKit

set_option maxRecDepth 100000 in
set_option maxHeartbeats 4000000 in
theorem v_decided (op n : Int) (s : ByteArray) (a : F) (p : Option Addr) (c : Nat) (fa : List Nat) (w : World) (hs : (F.cons op n s a .nil).Small) (hp : RdP w a p fa) (hac : a.len ≤ c) (hc : c ≤ 9223372036854775807) :
    Calls Tryz.prog 184 #[.agg #[.int .i64 op, .int .i64 n, .string s, .slice p a.len c]] w (GotRule fa (rule5 op a) w) := by
  have EZ := hid (((Ext.refl (S := fun _ => False) w).alloc (.cells #[.int .i64 op, .int .i64 n, .string s, .slice p a.len c] 28)).alloc (.cells #[.int .i64 0, .int .i64 0, .string ⟨#[]⟩, .slice none 0 0] 28))
  obtain ⟨HB, HR⟩ : Hid (((w.alloc (.cells #[.int .i64 op, .int .i64 n, .string s, .slice p a.len c] 28)).alloc (.cells #[.int .i64 0, .int .i64 0, .string ⟨#[]⟩, .slice none 0 0] 28)).heap[w.heap.size]? = some (.cells #[.int .i64 op, .int .i64 n, .string s, .slice p a.len c] 28 (0, 0))) ∧ Hid (((w.alloc (.cells #[.int .i64 op, .int .i64 n, .string s, .slice p a.len c] 28)).alloc (.cells #[.int .i64 0, .int .i64 0, .string ⟨#[]⟩, .slice none 0 0] 28)).heap[w.heap.size + 1]? = some (.cells #[.int .i64 0, .int .i64 0, .string ⟨#[]⟩, .slice none 0 0] 28 (0, 0))) := by
    have h1 := heap_new w (.cells #[.int .i64 op, .int .i64 n, .string s, .slice p a.len c] 28)
    have h2 := heap_new (w.alloc (.cells #[.int .i64 op, .int .i64 n, .string s, .slice p a.len c] 28)) (.cells #[.int .i64 0, .int .i64 0, .string ⟨#[]⟩, .slice none 0 0] 28)
    rw [show (w.alloc (.cells #[.int .i64 op, .int .i64 n, .string s, .slice p a.len c] 28)).heap.size = w.heap.size + 1 by simp] at h2
    exact ⟨hid (((Ext.refl (S := fun _ => False) _).alloc _).heap h1 id), hid h2⟩
  have HP := hid (hp.ext EZ.out (fun _ _ => id))
  have hcI : (c : Int) ≤ 9223372036854775807 := by omega
  have hacI : (a.len : Int) ≤ c := by omega
  have HBZ := hid (show Below w.heap.size w ((w.alloc (.cells #[.int .i64 op, .int .i64 n, .string s, .slice p a.len c] 28)).alloc (.cells #[.int .i64 0, .int .i64 0, .string ⟨#[]⟩, .slice none 0 0] 28)) from (alloc_below w _).alloc (by simp) _)
  have HLt := hid (show ∀ x ∈ fa, x < w.heap.size from hp.lt)
  have HPw := hid hp
  have HFa := hid (show ∀ x ∈ fa, ¬ (x = w.heap.size + 1) from fun x hx e => by have := hp.lt x hx; omega)
  clear hp
  by_cases h9 : op = 9
  · have hal : a.len = 3 := by
      have h := hs.1.2.2
      subst h9; simp [ar] at h; omega
    obtain ⟨b, o, xo, xn, xs, xa, xp, xc, xf, yo, yn, ys, ya, yp, yc, yf, vo, vn, vs, va, vp, vc, vf, rfl, ha, hx, hy, hv⟩ := args_three HP.out hal
    have HX := hid hx
    have HY := hid hy
    have HV := hid hv
    have HA := hid ha
    have hn0 : 0 < a.len := by omega
    have hi0 : (0 : Int) < a.len := by omega
    have hn1 : 1 < a.len := by omega
    have hi1 : (1 : Int) < a.len := by omega
    have hn2 : 2 < a.len := by omega
    have hi2 : (2 : Int) < a.len := by omega
    have hr5 : rule5 op a = if (xo == 1 && xn == 0) = true then some (F.cons vo vn vs va .nil) else if (xo == 1 || sameE yo yn ys ya vo vn vs va) = true then some (F.cons yo yn ys ya .nil) else none := by
      rw [h9, ha]; rfl
    have HN1 := hid (fun w' => v_isNumber xo xn xs xp xa.len xc 0 w')
    have HEQ := hid (fun w' (h1 : RdP w' ya yp yf) (h2 : RdP w' va vp vf) => v_equal (ya.size + 1) yo yn ys ya yp yc yf vo vn vs va vp vc vf w' (by omega) h1 h2 HY.out.2.1 HY.out.2.2.1 HV.out.2.1 HV.out.2.2.1)
    have HR5 := hid hr5
    generalize (xo == 1 && xn == 0) = r1 at HN1 HR5
    generalize sameE yo yn ys ya vo vn vs va = r2 at HEQ HR5
    have e9 : (op != 9) = false := by simp [h9]
    have HKeep := hid (show ∀ w', Ext (· = w.heap.size + 1) ((w.alloc (.cells #[.int .i64 op, .int .i64 n, .string s, .slice (some ⟨b, o, none⟩) a.len c] 28)).alloc (.cells #[.int .i64 0, .int .i64 0, .string ⟨#[]⟩, .slice none 0 0] 28)) w' → _ ∧ _ ∧ _ ∧ _ ∧ _ ∧ _ ∧ _ ∧ _ ∧ _ ∧ _ from fun w' e => ⟨(blk4 (e.heap HB.out (by omega))).1.2.2.2, (HX.out.ext_s e HFa.out).1.1, (HY.out.ext_s e HFa.out).1.1, (HY.out.ext_s e HFa.out).1.2.1, (HY.out.ext_s e HFa.out).1.2.2.1, (HY.out.ext_s e HFa.out).1.2.2.2, (HV.out.ext_s e HFa.out).1.1, (HV.out.ext_s e HFa.out).1.2.1, (HV.out.ext_s e HFa.out).1.2.2.1, (HV.out.ext_s e HFa.out).1.2.2.2⟩)
    clear hx hy hv ha hs hal hr5 h9
    obtain ⟨⟨c0, c1, c2, c3⟩, _⟩ := blk4 HB.out
    obtain ⟨⟨z0, z1, z2, z3⟩, f0, f1, f2, f3⟩ := blk4 HR.out
    clear c1 c2
    obtain ⟨x0, x1, x2, x3⟩ := HX.out.1
    obtain ⟨y0, y1, y2, y3⟩ := HY.out.1
    obtain ⟨v0, v1, v2, v3⟩ := HV.out.1
    go_enter Tryz.func184, Tryz.ntmps184
    go_wp2_with fail
    refine (HN1.out _).mono ?_
    rintro e w6 ⟨rfl, hb6⟩
    have E6 := hid (Ext.of_below (S := fun _ => False) hb6)
    have HB6 := hid (below_ext HBZ.out E6.out (by simp; omega))
    clear c0 c3 z0 z1 z2 z3 f0 f1 f2 f3 x0 x1 x2 x3 y0 y1 y2 y3 v0 v1 v2 v3
    obtain ⟨⟨c0, c1, c2, c3⟩, _⟩ := blk4 (E6.out.heap HB.out id)
    obtain ⟨⟨z0, z1, z2, z3⟩, f0, f1, f2, f3⟩ := blk4 (E6.out.heap HR.out id)
    have hz6 : w.heap.size + 1 < w6.heap.size := World.block_lt_of_cell? _ _ z0
    clear hb6 c1 c2
    have HX6 := hid (HX.out.ext E6.out)
    obtain ⟨x0, x1, x2, x3⟩ := HX6.out.1
    have HY6 := hid (HY.out.ext E6.out)
    obtain ⟨y0, y1, y2, y3⟩ := HY6.out.1
    have HV6 := hid (HV.out.ext E6.out)
    obtain ⟨v0, v1, v2, v3⟩ := HV6.out.1
    cases r1 with
    | true =>
      go_wp2_with fail
      obtain ⟨W, hW, u0, u1, u2, u3, eW⟩ := set4_all (a0 := .int .i64 vo) (a1 := .int .i64 vn) (a2 := .string vs) (a3 := .slice vp va.len vc) z0 z1 z2 z3
      rw [hW]
      exact bodyPost_ret (v := .tuple #[.agg #[.int .i64 vo, .int .i64 vn, .string vs, .slice vp va.len vc], .bool true]) (by simp [results, Tryz.results184, go_sem, u0, u1, u2, u3]) rfl (arg_got (yes := true) (HV6.out.ext_s eW HFa.out) HR5.out (below_at HB6.out eW (by omega) (by omega)))
    | false =>
      have HO := hid (show rule5 op a = if (xo == 1 || r2) = true then some (F.cons yo yn ys ya .nil) else none from HR5.out)
      obtain ⟨⟨c0d, _, _, c3d⟩, _⟩ := blk4 (E6.out.drew.heap HB.out id)
      obtain ⟨⟨z0d, z1d, z2d, z3d⟩, f0d, f1d, f2d, f3d⟩ := blk4 (E6.out.drew.heap HR.out id)
      obtain ⟨x0d, x1d, x2d, x3d⟩ := (HX.out.ext E6.out.drew).1
      obtain ⟨y0d, y1d, y2d, y3d⟩ := (HY.out.ext E6.out.drew).1
      obtain ⟨v0d, v1d, v2d, v3d⟩ := (HV.out.ext E6.out.drew).1
      by_cases hx1 : xo = 1
      · have ex : (xo == 1) = true := by simp [hx1]
        have HO2 := hid (show rule5 op a = if true = true then some (F.cons yo yn ys ya .nil) else none by rw [HO.out, ex, Bool.true_or])
        clear hx1
        go_wp2_with fail
        clear c0 c3 x0 x1 x2 x3 y0 y1 y2 y3 v0 v1 v2 v3 HB HR EZ HP HPw HLt
        go_region
        all_goals
          obtain ⟨W, hW, u0, u1, u2, u3, eW⟩ := set4_all (a0 := .int .i64 yo) (a1 := .int .i64 yn) (a2 := .string ys) (a3 := .slice yp ya.len yc) z0 z1 z2 z3
          rw [hW]
          go_wp2_with fail
          exact bodyPost_ret (v := .tuple #[.agg #[.int .i64 yo, .int .i64 yn, .string ys, .slice yp ya.len yc], .bool true]) (by simp [results, Tryz.results184, go_sem, u0, u1, u2, u3]) rfl (arg_got (yes := true) (HY6.out.ext_s eW.drew HFa.out) HO2.out (below_at HB6.out eW.drew (by omega) (by omega)))
      · have ex : (xo == 1) = false := by simpa using hx1
        have HO2 := hid (show rule5 op a = if r2 = true then some (F.cons yo yn ys ya .nil) else none by rw [HO.out, ex, Bool.false_or])
        clear hx1
        go_wp2_with fail
        go_region_held3 (fun w' => w'.cell? ⟨w.heap.size, 3, none⟩ = some (.slice (some ⟨b, o, none⟩) a.len c) ∧ w'.cell? ⟨b, o, none⟩ = some (.int .i64 xo) ∧ w'.cell? ⟨b, o + 4, none⟩ = some (.int .i64 yo) ∧ w'.cell? ⟨b, o + 4 + 1, none⟩ = some (.int .i64 yn) ∧ w'.cell? ⟨b, o + 4 + 2, none⟩ = some (.string ys) ∧ w'.cell? ⟨b, o + 4 + 3, none⟩ = some (.slice yp ya.len yc) ∧ w'.cell? ⟨b, o + 8, none⟩ = some (.int .i64 vo) ∧ w'.cell? ⟨b, o + 8 + 1, none⟩ = some (.int .i64 vn) ∧ w'.cell? ⟨b, o + 8 + 2, none⟩ = some (.string vs) ∧ w'.cell? ⟨b, o + 8 + 3, none⟩ = some (.slice vp va.len vc))
          (first
            | (with_reducible exact HKeep.out _ (E7.out.mono (fun _ _ h => h.elim)))
            | (with_reducible exact HKeep.out _ (set4_ext (E7.out.mono (fun _ _ h => h.elim)) (.inl rfl)))
            | (with_reducible exact HKeep.out _ (E6.out.drew.mono (fun _ _ h => h.elim)))
            | (with_reducible exact HKeep.out _ (set4_ext (E6.out.drew.mono (fun _ _ h => h.elim)) (.inl rfl)))
            | (go_keep; done))
          (first
            | (go_at_call 211; refine (HEQ.out _ (HY.out.ext E6.out.drew).2.2.2.1 (HV.out.ext E6.out.drew).2.2.2.1).mono ?_; rintro e w7 ⟨rfl, hb7⟩; have E7 := hid (E6.out.drew.trans (Ext.of_below (S := fun _ => False) hb7)); have HB7 := hid (below_ext HBZ.out E7.out (by simp; omega)); clear hb7; obtain ⟨⟨z0e, z1e, z2e, z3e⟩, f0e, f1e, f2e, f3e⟩ := blk4 (E7.out.heap HR.out id)))
        all_goals
          obtain ⟨W, hW, u0, u1, u2, u3, eW⟩ := set4_all (a0 := .int .i64 yo) (a1 := .int .i64 yn) (a2 := .string ys) (a3 := .slice yp ya.len yc) z0e z1e z2e z3e
          have hz7 : w.heap.size + 1 < w7.heap.size := World.block_lt_of_cell? _ _ z0e
          go_wp2_with fail
          rw [hW]
          exact bodyPost_ret (v := .tuple #[.agg #[.int .i64 yo, .int .i64 yn, .string ys, .slice yp ya.len yc], .bool r2]) (by simp [results, Tryz.results184, go_sem, u0, u1, u2, u3]) rfl (arg_got (yes := r2) ((HY.out.ext E7.out).ext_s eW HFa.out) HO2.out (below_at HB7.out eW (by omega) (by omega)))
  · have e9 : (op != 9) = true := by simpa using h9
    have HO := hid (show rule5 op a = none by unfold rule5; rw [e9]; rfl)
    clear h9
    obtain ⟨⟨c0, c1, c2, c3⟩, _⟩ := blk4 HB.out
    obtain ⟨⟨z0, z1, z2, z3⟩, f0, f1, f2, f3⟩ := blk4 HR.out
    clear c1 c2
    go_enter Tryz.func184, Tryz.ntmps184
    go_wp2_with fail
    exact bodyPost_ret (v := .tuple #[.agg #[.int .i64 0, .int .i64 0, .string ⟨#[]⟩, .slice none 0 0], .bool false]) (by simp [results, Tryz.results184, go_sem]) rfl (none_got HO.out HBZ.out)
end Go.Proofs.YtkgciohebloffaaGreat
