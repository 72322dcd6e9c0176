/- Texts joined: AnExpr. -/
import Derived.Test.YtkgciohebloffaaGreatJS04
import Derived.Test.YtkgciohebloffaaGreatJS05
import Derived.Deep.RegionHeld3
import Derived.Deep.DeepCutAuto
/- AnExpr: an expression in new memory, of which one place may have been spoilt. -/
namespace Go.Proofs.YtkgciohebloffaaGreat
open Go.RowKit
section
variable {sb : Nat} {a : Option Addr} {len cap : Nat} {zs : List Int} {at_ : Int}

theorem rep40 (w : World) : Calls Tryz.prog 51 #[.string ⟨#[97]⟩, .int .i64 40] w fun e w' => (∃ s : ByteArray, s.size ≤ 200000 ∧ e = .returned (.string s)) ∧ Below w.heap.size w w' := by
  refine (Tryz.strings_Repeat ⟨#[97]⟩ 40 w (by omega) (by decide)).mono ?_
  rintro e w' ⟨rfl, hb⟩
  exact ⟨⟨_, by decide, rfl⟩, hb⟩
theorem rep41 (w : World) : Calls Tryz.prog 51 #[.string ⟨#[97]⟩, .int .i64 41] w fun e w' => (∃ s : ByteArray, s.size ≤ 200000 ∧ e = .returned (.string s)) ∧ Below w.heap.size w w' := by
  refine (Tryz.strings_Repeat ⟨#[97]⟩ 41 w (by omega) (by decide)).mono ?_
  rintro e w' ⟨rfl, hb⟩
  exact ⟨⟨_, by decide, rfl⟩, hb⟩

set_option maxRecDepth 100000 in
set_option maxHeartbeats 4000000 in
theorem anexpr_any (w : World) (h : Str w sb a len cap zs at_) (hat : at_ ≤ 900000000) :
    Calls Tryz.prog 7 #[.pointer (some ⟨sb, 0, none⟩)] w (SomeExpr sb a len cap zs at_ 2000 150 w) := by
  have H := hid h
  have HS := h.size
  clear h
  go_enter Tryz.func7, Tryz.ntmps7
  go_wp2_with fail
  refine (pick_at 4 [1, 2, 3, 4] _ (w.heap.size + 1) _ (by simp) (H.out.alloc _) (by omega) rfl (by omega) (by omega)).mono ?_
  rintro e w1 ⟨⟨d, hd, rfl⟩, hw1⟩
  have HW1 := hid hw1
  obtain ⟨at1, h1, hle⟩ := hw1.2
  have H1 := hid h1
  have hb1 := hw1.ext.heap (heap_new w _) (by show w.heap.size ≠ sb; omega)
  have HB1 := hid hb1
  have hz1 : w.heap.size + 1 ≤ w1.heap.size := by have := hw1.ext.size; simpa using this
  have hd1 : 1 ≤ d ∧ d ≤ 4 := by simp at hd; omega
  clear hw1 h1 hb1 hd
  obtain ⟨dn, rfl⟩ : ∃ k : Nat, d = k := ⟨d.toNat, by omega⟩
  obtain ⟨hd1, hd2⟩ := hd1
  go_wp2_with fail
  refine (tree_any dn at1 _ (by omega) H1.out (by unfold AtOk; omega)).mono ?_
  rintro e w2 ⟨⟨op, n, s, f, p, c, fa, rfl, m1, m2, m3, m4, m5, m6, m7⟩, hw2⟩
  have hct := ct_le dn (by omega)
  have htb : tb dn ≤ 121 := by
    match dn, hd1, hd2 with
    | 1, _, _ => decide
    | 2, _, _ => decide
    | 3, _, _ => decide
    | 4, _, _ => decide
  obtain ⟨at2, h2, hle2⟩ := hw2.2
  have hz2 : w.heap.size + 1 ≤ w2.heap.size := Nat.le_trans hz1 hw2.ext.size
  have H2 := hid h2
  have hE : Ext (· = sb) w w2 := (((Ext.refl w).alloc _).trans HW1.out.1).trans hw2.1
  have HM := hid (And.intro m1 (And.intro m2 (And.intro m3 (And.intro m4 (And.intro m5 (And.intro m6 (And.intro m7 (And.intro (hw2.ext.heap HB1.out (by omega)) hE))))))))
  clear m1 m2 m3 m4 m5 m6 m7 hw2 h2 hE
  go_wp2_with fail
  refine (flip_any 12 _ (H2.out.alloc _) (by omega) (by omega) (by omega)).mono ?_
  rintro e w3 ⟨⟨r, rfl⟩, hw3⟩
  obtain ⟨at3, h3, hle3⟩ := hw3.2
  have HD : Hid (Down sb w w.heap.size w2.heap.size 121 121 w2.heap.size 0 w3) := hid (by
    obtain ⟨m1, m2, m3, m4, m5, m6, m7, m8, m9⟩ := HM.out
    exact Down.start (by omega) HS m1 m2 m3 m4 (fun b hb => by have := m5 b hb; omega) m6 (by omega) m8 m9 hw3.1)
  have H3 := hid h3
  clear hw3 h3 HM
  cases r
  · -- nothing is spoilt
    obtain ⟨opf, nf, sf, pf, lf, cf, ⟨c0, c1, c2, c3⟩, ⟨u0, u1, u2, u3⟩, ⟨v0, v1, v2, v3⟩, hfin⟩ := Down.final H.out (by omega) HD.out H3.out (by omega)
    have HF := hid hfin
    clear hfin
    go_wp2_with fail
    exact bodyPost_ret (v := .agg #[.int .i64 opf, .int .i64 nf, .string sf, .slice pf lf cf]) (by simp [results, Tryz.results7, go_sem, u0, u1, u2, u3]) rfl (HF.out _ _ _ _)
  · go_wp2_with fail
    go_loopg [4] 121 (fun k p wr => ∃ bx ox at', p = .pointer (some ⟨bx, ox, none⟩) ∧ Down sb w w.heap.size w2.heap.size 121 k bx ox wr ∧ Str wr sb a len cap zs at' ∧ at' + 2 * k ≤ at3 + 242)
    case atStart => exact ⟨_, _, _, rfl, HD.out, H3.out, by omega⟩
    case round =>
      obtain ⟨bx, ox, at', rfl, hdown, hs, hat'⟩ := hrel
      have HDn := hid hdown
      have HSn := hid hs
      have hsz : w2.heap.size ≤ w2.heap.size := Nat.le_refl _
      obtain ⟨opx, nx, sx, fx, px, cx, fax, Kx, ⟨q0, q1, q2, q3⟩, qf, g5, g6, g7, g8, g9, g10, g11, g12, g13, g14, g15, g16, g17, g18, g19, g20⟩ := hdown
      clear hs qf g5 g9 g10 g12 g13 g18 g19 g20 g8
      by_cases hl : 0 < fx.len
      · go_wp2_with fail
        refine (flip_any 2 _ HSn.out (by omega) (by omega) (by omega)).mono ?_
        rintro e w4 ⟨⟨r, rfl⟩, hw4⟩
        obtain ⟨at4, h4, hle4⟩ := hw4.2
        have HD4 := hid (HDn.out.ext hw4.1 (by omega))
        have H4 := hid h4
        have q3o := hw4.1.cell_some q3 g11
        clear q0 q1 q2 q3 hw4 h4
        obtain ⟨op4, n4, s4, f4, p4, c4, fa4, K4, ⟨q0, q1, q2, q3⟩, qf, g5, g6', g7', g8, g9, g10, g11', g12, g13, g14', g15', g16', g17', g18, g19, g20⟩ := HD4.out
        have hl4 : 0 < f4.len := by rw [q3] at q3o; simp at q3o; omega
        clear qf g8 g12 g9 g10 g18 g19 g20 g13 q3o
        have hL4 := hid (show (1 : Int) ≤ f4.len ∧ (f4.len : Int) ≤ 4611686018427387904 ∧ at4 ≤ 1000000000000 from by have := F.len_le_size f4; omega)
        cases r
        · go_wp2_with fail
          refine (next_any sb a len cap zs at4 5 _ H4.out (by omega) (by omega) (by omega)).mono ?_
          rintro e w6 ⟨⟨r6, rfl, hs0, hs1⟩, hw6⟩
          obtain ⟨at6, h6, hle6⟩ := hw6.2
          have HD6 := hid (HD4.out.ext hw6.1 (by omega))
          have H6 := hid h6
          clear q0 q1 q2 q3 g5 hw6 h6
          obtain ⟨op6, n6, s6, f6, p6, c6, fa6, K6, ⟨q0, q1, q2, q3⟩, qf, j5, j6, j7, j8, j9, j10, j11, j12, j13, j14, j15, j16, j17, j18, j19, j20⟩ := HD6.out
          have b0 := qf ox
          have b1 := qf (ox + 1)
          have b2 := qf (ox + 2)
          have b3 := qf (ox + 3)
          clear qf j5 j8 j9 j10 j12 j13 j18 j19 j20
          rcases (show r6 = 0 ∨ r6 = 1 ∨ r6 = 2 ∨ r6 = 3 ∨ r6 = 4 by omega) with rfl | rfl | rfl | rfl | rfl
          · go_wp2_with fail
            refine (odd_any 1 9 _ H6.out (by omega) (by omega) (by omega) (by omega)).mono ?_
            rintro e w7 ⟨⟨vv, ⟨hv0, hv1⟩, rfl⟩, hw7⟩
            obtain ⟨at7, h7, hle7⟩ := hw7.2
            have HD7 := hid (HD6.out.ext hw7.1 (by omega))
            have H7 := hid h7
            have q0' := hw7.1.cell_some q0 j11
            have b0' := (hw7.1.frozen (p := ⟨bx, ox, none⟩) j15 j11).trans b0
            clear q0 q1 q2 q3 b0 b1 b2 b3 hw7 h7
            go_upto_region 19 with fail
            have HDF := hid ((Down.set rfl HD7.out).1 vv hv0 hv1)
            have HSF := hid (H7.out.ext (S := (· = bx)) ((Ext.refl (S := (· = bx)) w7).setCell (p := ⟨bx, ox, none⟩) (.inl rfl) (.int .i64 vv)) (by omega) (fun b hb => by omega))
            generalize w7.setCell ⟨bx, ox, none⟩ (.int .i64 vv) = wf at HDF HSF ⊢
            obtain ⟨opf, nf, sf, pf, lf, cf, ⟨c0, c1, c2, c3⟩, ⟨u0, u1, u2, u3⟩, ⟨v0, v1, v2, v3⟩, hfin⟩ := Down.final H.out (by omega) HDF.out HSF.out (by omega)
            have HF := hid hfin
            clear hfin
            go_wp2_with fail
            exact bodyPost_ret (v := .agg #[.int .i64 opf, .int .i64 nf, .string sf, .slice pf lf cf]) (by simp [results, Tryz.results7, go_sem, u0, u1, u2, u3]) rfl (HF.out _ _ _ _)
          · go_wp2_with fail
            refine (odd_any 0 999 _ H6.out (by omega) (by omega) (by omega) (by omega)).mono ?_
            rintro e w7 ⟨⟨vv, ⟨hv0, hv1⟩, rfl⟩, hw7⟩
            obtain ⟨at7, h7, hle7⟩ := hw7.2
            have HD7 := hid (HD6.out.ext hw7.1 (by omega))
            have H7 := hid h7
            have q1' := hw7.1.cell_some q1 j11
            have b1' := (hw7.1.frozen (p := ⟨bx, ox + 1, none⟩) j15 j11).trans b1
            clear q0 q1 q2 q3 b0 b1 b2 b3 hw7 h7
            go_upto_region 19 with fail
            have HDF := hid ((Down.set rfl HD7.out).2.1 vv hv0 hv1)
            have HSF := hid (H7.out.ext (S := (· = bx)) ((Ext.refl (S := (· = bx)) w7).setCell (p := ⟨bx, ox + 1, none⟩) (.inl rfl) (.int .i64 vv)) (by omega) (fun b hb => by omega))
            generalize w7.setCell ⟨bx, ox + 1, none⟩ (.int .i64 vv) = wf at HDF HSF ⊢
            obtain ⟨opf, nf, sf, pf, lf, cf, ⟨c0, c1, c2, c3⟩, ⟨u0, u1, u2, u3⟩, ⟨v0, v1, v2, v3⟩, hfin⟩ := Down.final H.out (by omega) HDF.out HSF.out (by omega)
            have HF := hid hfin
            clear hfin
            go_wp2_with fail
            exact bodyPost_ret (v := .agg #[.int .i64 opf, .int .i64 nf, .string sf, .slice pf lf cf]) (by simp [results, Tryz.results7, go_sem, u0, u1, u2, u3]) rfl (HF.out _ _ _ _)
          · go_wp2_with fail
            refine (rep40 _).mono ?_
            rintro e w7 ⟨⟨r40, hr40, rfl⟩, hb7⟩
            have e7 : Ext (· = sb) w6 w7 := Ext.of_below hb7
            have H7 := hid (H6.out.ext (S := fun _ => False) (Ext.of_below hb7) id (fun _ _ => id))
            have HD7 := hid (HD6.out.ext e7 (by omega))
            have q2' := e7.cell_some q2 j11
            have b2' := (e7.frozen (p := ⟨bx, ox + 2, none⟩) j15 j11).trans b2
            have j15' : bx < w7.heap.size := Nat.lt_of_lt_of_le j15 e7.size
            clear q0 q1 q2 q3 b0 b1 b2 b3 hb7 e7
            go_wp2_with fail
            refine (rep41 _).mono ?_
            rintro e w8 ⟨⟨r41, hr41, rfl⟩, hb8⟩
            have e8 : Ext (· = sb) w7 w8 := Ext.of_below hb8
            have H8 := hid (H7.out.ext (S := fun _ => False) (Ext.of_below hb8) id (fun _ _ => id))
            have HD8 := hid (HD7.out.ext e8 (by omega))
            have q2 := e8.cell_some q2' j11
            have b2 := (e8.frozen (p := ⟨bx, ox + 2, none⟩) j15' j11).trans b2'
            have j15'' : bx < w8.heap.size := Nat.lt_of_lt_of_le j15' e8.size
            clear q2' b2' hb8 e8
            go_wp2_with fail
            refine (some_new 6 [⟨#[]⟩, ⟨#[105, 102]⟩, ⟨#[120]⟩, ⟨#[65]⟩, r40, r41] _ _ H8.out (by omega) rfl (by omega) (by omega)).mono ?_
            rintro e w9 ⟨⟨vv, hvm, rfl⟩, hw9⟩
            have hv0 : Hid (vv.size ≤ 200000) := hid (by
              simp at hvm
              rcases hvm with rfl | rfl | rfl | rfl | rfl | rfl <;> first | decide | omega)
            obtain ⟨at9, h9, hle9⟩ := hw9.2
            have HD9 := hid (HD8.out.ext hw9.1 (by omega))
            have H9 := hid h9
            have q2' := hw9.1.cell_some q2 j11
            have b2' := (hw9.1.frozen (p := ⟨bx, ox + 2, none⟩) j15'' j11).trans b2
            clear q2 b2 hw9 h9 hvm
            go_upto_region 19 with fail
            have HDF := hid ((Down.set rfl HD9.out).2.2.1 vv hv0.out)
            have HSF := hid (H9.out.ext (S := (· = bx)) ((Ext.refl (S := (· = bx)) w9).setCell (p := ⟨bx, ox + 2, none⟩) (.inl rfl) (.string vv)) (by omega) (fun b hb => by omega))
            generalize w9.setCell ⟨bx, ox + 2, none⟩ (.string vv) = wf at HDF HSF ⊢
            obtain ⟨opf, nf, sf, pf, lf, cf, ⟨c0, c1, c2, c3⟩, ⟨u0, u1, u2, u3⟩, ⟨v0, v1, v2, v3⟩, hfin⟩ := Down.final H.out (by omega) HDF.out HSF.out (by omega)
            have HF := hid hfin
            clear hfin
            go_wp2_with fail
            exact bodyPost_ret (v := .agg #[.int .i64 opf, .int .i64 nf, .string sf, .slice pf lf cf]) (by simp [results, Tryz.results7, go_sem, u0, u1, u2, u3]) rfl (HF.out _ _ _ _)
          · have hq1 : (0 : Int) ≤ (f6.len : Int) := by omega
            have hq2 : (f6.len : Int) ≤ (c6 : Int) := by omega
            have hq3 : (f6.len : Int) ≤ 1000 := by have := F.len_le_size f6; omega
            go_wp2_with fail
            go_region
            go_upto_region 19 with fail
            have HDF := hid (((Down.set rfl HD6.out).2.2.2 p6 f6.len c6 q3).ext (Ext.refl _).drew (by omega))
            have HSF := hid (H6.out.ext (S := (· = bx)) ((Ext.refl (S := (· = bx)) w6).setCell (p := ⟨bx, ox + 3, none⟩) (.inl rfl) (.slice p6 (f6.len / 2) c6)) (by omega) (fun b hb => by omega)).drew
            generalize (w6.setCell ⟨bx, ox + 3, none⟩ (.slice p6 (f6.len / 2) c6)).drew = wf at HDF HSF ⊢
            obtain ⟨opf, nf, sf, pf, lf, cf, ⟨c0, c1, c2, c3⟩, ⟨u0, u1, u2, u3⟩, ⟨v0, v1, v2, v3⟩, hfin⟩ := Down.final H.out (by omega) HDF.out HSF.out (by omega)
            have HF := hid hfin
            clear hfin
            go_wp2_with fail
            exact bodyPost_ret (v := .agg #[.int .i64 opf, .int .i64 nf, .string sf, .slice pf lf cf]) (by simp [results, Tryz.results7, go_sem, u0, u1, u2, u3]) rfl (HF.out _ _ _ _)
          · go_wp2_with fail
            refine (range_any 1 4 _ H6.out (by omega) (by omega) (by omega) (by omega)).mono ?_
            rintro e w7 ⟨⟨vv, ⟨hv0, hv1⟩, rfl⟩, hw7⟩
            obtain ⟨at7, h7, hle7⟩ := hw7.2
            have HD7 := hid (HD6.out.ext hw7.1 (by omega))
            have H7 := hid h7
            clear q0 q1 q2 q3 b0 b1 b2 b3 hw7 h7
            go_wp2_with fail
            go_loopg [39] 20 (fun k i wr => ∃ j kk : Nat, i = .int .i64 j ∧ k + j = 20 ∧ Down sb w w.heap.size w2.heap.size (121 + j) kk bx ox wr ∧ Str wr sb a len cap zs at7)
            case atStart => exact ⟨0, _, rfl, rfl, HD7.out, H7.out⟩
            case round =>
              obtain ⟨jn, kk, rfl, hkj, hdn, hst⟩ := hrel
              have HDF := hid hdn
              have HSF := hid hst
              obtain ⟨op8, n8, s8, f8, p8, c8, fa8, K8, ⟨q0, q1, q2, q3⟩, qf, l5, l6, l7, l8, l9, l10, l11, l12, l13, l14, l15, l16, l17, l18, l19, l20⟩ := hdn
              have b0 := qf ox
              have b1 := qf (ox + 1)
              have b2 := qf (ox + 2)
              have b3 := qf (ox + 3)
              have HQ := hid (And.intro q0 (And.intro q1 (And.intro q2 q3)))
              clear qf l5 l8 l9 l10 l12 l13 l18 l19 l20 hst
              by_cases hjl : (jn : Int) < 20 - vv
              · go_wp2_with fail
                have HN := Down.wrap rfl HS HQ.out.1 HQ.out.2.1 HQ.out.2.2.1 HQ.out.2.2.2 HDF.out
                have HM := HSF.out.ext (S := (· = bx)) (((((Ext.refl (S := (· = bx)) wr).alloc (.cells #[.int .i64 op8, .int .i64 n8, .string s8, .slice p8 f8.len c8] 28)).setCell (p := ⟨bx, ox, none⟩) (.inl rfl) (.int .i64 8)).setCell (p := ⟨bx, ox + 1, none⟩) (.inl rfl) (.int .i64 0)).setCell (p := ⟨bx, ox + 2, none⟩) (.inl rfl) (.string ⟨#[]⟩) |>.setCell (p := ⟨bx, ox + 3, none⟩) (.inl rfl) (.slice (some ⟨wr.heap.size, 0, none⟩) 1 1)) (by omega) (fun b hb => by omega)
                rw [World.setCell_alloc_past _ _ _ _ l15, World.setCell_alloc_past _ _ _ _ (by simpa using l15), World.setCell_alloc_past _ _ _ _ (by simpa using l15), World.setCell_alloc_past _ _ _ _ (by simpa using l15)] at HN HM
                go_roundg (20 - (jn + 1))
                case measure => omega
                case rel => exact ⟨jn + 1, kk + 1, by go_num, by omega, HN, HM⟩
              · go_upto_region 19 with fail
                obtain ⟨opf, nf, sf, pf, lf, cf, ⟨c0, c1, c2, c3⟩, ⟨u0, u1, u2, u3⟩, ⟨v0, v1, v2, v3⟩, hfin⟩ := Down.final H.out (by omega) HDF.out HSF.out (by omega)
                have HF := hid hfin
                clear hfin
                go_wp2_with fail
                exact bodyPost_ret (v := .agg #[.int .i64 opf, .int .i64 nf, .string sf, .slice pf lf cf]) (by simp [results, Tryz.results7, go_sem, u0, u1, u2, u3]) rfl (HF.out _ _ _ _)
        · rcases g5 with ⟨rfl, _⟩ | ⟨b4, o4, xa4, fb4, rfl, _, _, _, _, _⟩
          · simp [F.len] at hl4
          have hneb : bx ≠ sb := g11'
          go_wp2_with fail
          go_region_held3 (fun w' => w'.cell? ⟨bx, ox + 3, none⟩ = some (.slice (some ⟨b4, o4, none⟩) f4.len c4))
            (first
              | (go_keep; done)
              | exact hw5.1.cell_some (by assumption) hneb)
            (first | (go_at_call 49; refine (next_any sb a len cap zs at4 f4.len _ H4.out.drew hL4.out.2.2 hL4.out.1 hL4.out.2.1).mono ?_; rintro e w5 ⟨⟨r5, rfl, hr0, hr1⟩, hw5⟩))
          go_wp2_with fail
          obtain ⟨at5, h5, hle5⟩ := hw5.2
          have hE5 : Ext (· = sb) w4 w5 := ⟨hw5.1.os, hw5.1.tape, hw5.1.output, hw5.1.size, hw5.1.block⟩
          have hch := (HD4.out.ext hE5 (by omega)).child (i := r5.toNat) (by assumption) (by omega)
          go_roundg (gk - 1)
          case measure => omega
          case rel => exact ⟨_, _, at5, rfl, hch.2, h5, by omega⟩
      · have hl0 : fx.len = 0 := by omega
        go_wp2_with fail
        refine (next_any sb a len cap zs at' 5 _ HSn.out (by omega) (by omega) (by omega)).mono ?_
        rintro e w6 ⟨⟨r6, rfl, hs0, hs1⟩, hw6⟩
        obtain ⟨at6, h6, hle6⟩ := hw6.2
        have HD6 := hid (HDn.out.ext hw6.1 (by omega))
        have H6 := hid h6
        clear q0 q1 q2 q3 hw6 h6
        obtain ⟨op6, n6, s6, f6, p6, c6, fa6, K6, ⟨q0, q1, q2, q3⟩, qf, j5, j6, j7, j8, j9, j10, j11, j12, j13, j14, j15, j16, j17, j18, j19, j20⟩ := HD6.out
        have b0 := qf ox
        have b1 := qf (ox + 1)
        have b2 := qf (ox + 2)
        have b3 := qf (ox + 3)
        clear qf j5 j8 j9 j10 j12 j13 j18 j19 j20
        rcases (show r6 = 0 ∨ r6 = 1 ∨ r6 = 2 ∨ r6 = 3 ∨ r6 = 4 by omega) with rfl | rfl | rfl | rfl | rfl
        · go_wp2_with fail
          refine (odd_any 1 9 _ H6.out (by omega) (by omega) (by omega) (by omega)).mono ?_
          rintro e w7 ⟨⟨vv, ⟨hv0, hv1⟩, rfl⟩, hw7⟩
          obtain ⟨at7, h7, hle7⟩ := hw7.2
          have HD7 := hid (HD6.out.ext hw7.1 (by omega))
          have H7 := hid h7
          have q0' := hw7.1.cell_some q0 j11
          have b0' := (hw7.1.frozen (p := ⟨bx, ox, none⟩) j15 j11).trans b0
          clear q0 q1 q2 q3 b0 b1 b2 b3 hw7 h7
          go_upto_region 19 with fail
          have HDF := hid ((Down.set rfl HD7.out).1 vv hv0 hv1)
          have HSF := hid (H7.out.ext (S := (· = bx)) ((Ext.refl (S := (· = bx)) w7).setCell (p := ⟨bx, ox, none⟩) (.inl rfl) (.int .i64 vv)) (by omega) (fun b hb => by omega))
          generalize w7.setCell ⟨bx, ox, none⟩ (.int .i64 vv) = wf at HDF HSF ⊢
          obtain ⟨opf, nf, sf, pf, lf, cf, ⟨c0, c1, c2, c3⟩, ⟨u0, u1, u2, u3⟩, ⟨v0, v1, v2, v3⟩, hfin⟩ := Down.final H.out (by omega) HDF.out HSF.out (by omega)
          have HF := hid hfin
          clear hfin
          go_wp2_with fail
          exact bodyPost_ret (v := .agg #[.int .i64 opf, .int .i64 nf, .string sf, .slice pf lf cf]) (by simp [results, Tryz.results7, go_sem, u0, u1, u2, u3]) rfl (HF.out _ _ _ _)
        · go_wp2_with fail
          refine (odd_any 0 999 _ H6.out (by omega) (by omega) (by omega) (by omega)).mono ?_
          rintro e w7 ⟨⟨vv, ⟨hv0, hv1⟩, rfl⟩, hw7⟩
          obtain ⟨at7, h7, hle7⟩ := hw7.2
          have HD7 := hid (HD6.out.ext hw7.1 (by omega))
          have H7 := hid h7
          have q1' := hw7.1.cell_some q1 j11
          have b1' := (hw7.1.frozen (p := ⟨bx, ox + 1, none⟩) j15 j11).trans b1
          clear q0 q1 q2 q3 b0 b1 b2 b3 hw7 h7
          go_upto_region 19 with fail
          have HDF := hid ((Down.set rfl HD7.out).2.1 vv hv0 hv1)
          have HSF := hid (H7.out.ext (S := (· = bx)) ((Ext.refl (S := (· = bx)) w7).setCell (p := ⟨bx, ox + 1, none⟩) (.inl rfl) (.int .i64 vv)) (by omega) (fun b hb => by omega))
          generalize w7.setCell ⟨bx, ox + 1, none⟩ (.int .i64 vv) = wf at HDF HSF ⊢
          obtain ⟨opf, nf, sf, pf, lf, cf, ⟨c0, c1, c2, c3⟩, ⟨u0, u1, u2, u3⟩, ⟨v0, v1, v2, v3⟩, hfin⟩ := Down.final H.out (by omega) HDF.out HSF.out (by omega)
          have HF := hid hfin
          clear hfin
          go_wp2_with fail
          exact bodyPost_ret (v := .agg #[.int .i64 opf, .int .i64 nf, .string sf, .slice pf lf cf]) (by simp [results, Tryz.results7, go_sem, u0, u1, u2, u3]) rfl (HF.out _ _ _ _)
        · go_wp2_with fail
          refine (rep40 _).mono ?_
          rintro e w7 ⟨⟨r40, hr40, rfl⟩, hb7⟩
          have e7 : Ext (· = sb) w6 w7 := Ext.of_below hb7
          have H7 := hid (H6.out.ext (S := fun _ => False) (Ext.of_below hb7) id (fun _ _ => id))
          have HD7 := hid (HD6.out.ext e7 (by omega))
          have q2' := e7.cell_some q2 j11
          have b2' := (e7.frozen (p := ⟨bx, ox + 2, none⟩) j15 j11).trans b2
          have j15' : bx < w7.heap.size := Nat.lt_of_lt_of_le j15 e7.size
          clear q0 q1 q2 q3 b0 b1 b2 b3 hb7 e7
          go_wp2_with fail
          refine (rep41 _).mono ?_
          rintro e w8 ⟨⟨r41, hr41, rfl⟩, hb8⟩
          have e8 : Ext (· = sb) w7 w8 := Ext.of_below hb8
          have H8 := hid (H7.out.ext (S := fun _ => False) (Ext.of_below hb8) id (fun _ _ => id))
          have HD8 := hid (HD7.out.ext e8 (by omega))
          have q2 := e8.cell_some q2' j11
          have b2 := (e8.frozen (p := ⟨bx, ox + 2, none⟩) j15' j11).trans b2'
          have j15'' : bx < w8.heap.size := Nat.lt_of_lt_of_le j15' e8.size
          clear q2' b2' hb8 e8
          go_wp2_with fail
          refine (some_new 6 [⟨#[]⟩, ⟨#[105, 102]⟩, ⟨#[120]⟩, ⟨#[65]⟩, r40, r41] _ _ H8.out (by omega) rfl (by omega) (by omega)).mono ?_
          rintro e w9 ⟨⟨vv, hvm, rfl⟩, hw9⟩
          have hv0 : Hid (vv.size ≤ 200000) := hid (by
            simp at hvm
            rcases hvm with rfl | rfl | rfl | rfl | rfl | rfl <;> first | decide | omega)
          obtain ⟨at9, h9, hle9⟩ := hw9.2
          have HD9 := hid (HD8.out.ext hw9.1 (by omega))
          have H9 := hid h9
          have q2' := hw9.1.cell_some q2 j11
          have b2' := (hw9.1.frozen (p := ⟨bx, ox + 2, none⟩) j15'' j11).trans b2
          clear q2 b2 hw9 h9 hvm
          go_upto_region 19 with fail
          have HDF := hid ((Down.set rfl HD9.out).2.2.1 vv hv0.out)
          have HSF := hid (H9.out.ext (S := (· = bx)) ((Ext.refl (S := (· = bx)) w9).setCell (p := ⟨bx, ox + 2, none⟩) (.inl rfl) (.string vv)) (by omega) (fun b hb => by omega))
          generalize w9.setCell ⟨bx, ox + 2, none⟩ (.string vv) = wf at HDF HSF ⊢
          obtain ⟨opf, nf, sf, pf, lf, cf, ⟨c0, c1, c2, c3⟩, ⟨u0, u1, u2, u3⟩, ⟨v0, v1, v2, v3⟩, hfin⟩ := Down.final H.out (by omega) HDF.out HSF.out (by omega)
          have HF := hid hfin
          clear hfin
          go_wp2_with fail
          exact bodyPost_ret (v := .agg #[.int .i64 opf, .int .i64 nf, .string sf, .slice pf lf cf]) (by simp [results, Tryz.results7, go_sem, u0, u1, u2, u3]) rfl (HF.out _ _ _ _)
        · have hq1 : (0 : Int) ≤ (f6.len : Int) := by omega
          have hq2 : (f6.len : Int) ≤ (c6 : Int) := by omega
          have hq3 : (f6.len : Int) ≤ 1000 := by have := F.len_le_size f6; omega
          go_wp2_with fail
          go_region
          go_upto_region 19 with fail
          have HDF := hid (((Down.set rfl HD6.out).2.2.2 p6 f6.len c6 q3).ext (Ext.refl _).drew (by omega))
          have HSF := hid (H6.out.ext (S := (· = bx)) ((Ext.refl (S := (· = bx)) w6).setCell (p := ⟨bx, ox + 3, none⟩) (.inl rfl) (.slice p6 (f6.len / 2) c6)) (by omega) (fun b hb => by omega)).drew
          generalize (w6.setCell ⟨bx, ox + 3, none⟩ (.slice p6 (f6.len / 2) c6)).drew = wf at HDF HSF ⊢
          obtain ⟨opf, nf, sf, pf, lf, cf, ⟨c0, c1, c2, c3⟩, ⟨u0, u1, u2, u3⟩, ⟨v0, v1, v2, v3⟩, hfin⟩ := Down.final H.out (by omega) HDF.out HSF.out (by omega)
          have HF := hid hfin
          clear hfin
          go_wp2_with fail
          exact bodyPost_ret (v := .agg #[.int .i64 opf, .int .i64 nf, .string sf, .slice pf lf cf]) (by simp [results, Tryz.results7, go_sem, u0, u1, u2, u3]) rfl (HF.out _ _ _ _)
        · go_wp2_with fail
          refine (range_any 1 4 _ H6.out (by omega) (by omega) (by omega) (by omega)).mono ?_
          rintro e w7 ⟨⟨vv, ⟨hv0, hv1⟩, rfl⟩, hw7⟩
          obtain ⟨at7, h7, hle7⟩ := hw7.2
          have HD7 := hid (HD6.out.ext hw7.1 (by omega))
          have H7 := hid h7
          clear q0 q1 q2 q3 b0 b1 b2 b3 hw7 h7
          go_wp2_with fail
          go_loopg [39] 20 (fun k i wr => ∃ j kk : Nat, i = .int .i64 j ∧ k + j = 20 ∧ Down sb w w.heap.size w2.heap.size (121 + j) kk bx ox wr ∧ Str wr sb a len cap zs at7)
          case atStart => exact ⟨0, _, rfl, rfl, HD7.out, H7.out⟩
          case round =>
            obtain ⟨jn, kk, rfl, hkj, hdn, hst⟩ := hrel
            have HDF := hid hdn
            have HSF := hid hst
            obtain ⟨op8, n8, s8, f8, p8, c8, fa8, K8, ⟨q0, q1, q2, q3⟩, qf, l5, l6, l7, l8, l9, l10, l11, l12, l13, l14, l15, l16, l17, l18, l19, l20⟩ := hdn
            have b0 := qf ox
            have b1 := qf (ox + 1)
            have b2 := qf (ox + 2)
            have b3 := qf (ox + 3)
            have HQ := hid (And.intro q0 (And.intro q1 (And.intro q2 q3)))
            clear qf l5 l8 l9 l10 l12 l13 l18 l19 l20 hst
            by_cases hjl : (jn : Int) < 20 - vv
            · go_wp2_with fail
              have HN := Down.wrap rfl HS HQ.out.1 HQ.out.2.1 HQ.out.2.2.1 HQ.out.2.2.2 HDF.out
              have HM := HSF.out.ext (S := (· = bx)) (((((Ext.refl (S := (· = bx)) wr).alloc (.cells #[.int .i64 op8, .int .i64 n8, .string s8, .slice p8 f8.len c8] 28)).setCell (p := ⟨bx, ox, none⟩) (.inl rfl) (.int .i64 8)).setCell (p := ⟨bx, ox + 1, none⟩) (.inl rfl) (.int .i64 0)).setCell (p := ⟨bx, ox + 2, none⟩) (.inl rfl) (.string ⟨#[]⟩) |>.setCell (p := ⟨bx, ox + 3, none⟩) (.inl rfl) (.slice (some ⟨wr.heap.size, 0, none⟩) 1 1)) (by omega) (fun b hb => by omega)
              rw [World.setCell_alloc_past _ _ _ _ l15, World.setCell_alloc_past _ _ _ _ (by simpa using l15), World.setCell_alloc_past _ _ _ _ (by simpa using l15), World.setCell_alloc_past _ _ _ _ (by simpa using l15)] at HN HM
              go_roundg (20 - (jn + 1))
              case measure => omega
              case rel => exact ⟨jn + 1, kk + 1, by go_num, by omega, HN, HM⟩
            · go_upto_region 19 with fail
              obtain ⟨opf, nf, sf, pf, lf, cf, ⟨c0, c1, c2, c3⟩, ⟨u0, u1, u2, u3⟩, ⟨v0, v1, v2, v3⟩, hfin⟩ := Down.final H.out (by omega) HDF.out HSF.out (by omega)
              have HF := hid hfin
              clear hfin
              go_wp2_with fail
              exact bodyPost_ret (v := .agg #[.int .i64 opf, .int .i64 nf, .string sf, .slice pf lf cf]) (by simp [results, Tryz.results7, go_sem, u0, u1, u2, u3]) rfl (HF.out _ _ _ _)
end
end Go.Proofs.YtkgciohebloffaaGreat
