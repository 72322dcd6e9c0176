/- Texts joined: RSimp, RRepl. -/
import Derived.Test.YtkgciohebloffaaGreatJS38
import Derived.Test.YtkgciohebloffaaGreatJS25
import Derived.Deep.LoopGhost
import Derived.Deep.RegionLaw
import Derived.Test.YtkgciohebloffaaGreatJS41
/- SimplestOf, the reference's. -/
namespace Go.Proofs.YtkgciohebloffaaGreat
open Go.RowKit

theorem wiF_sim : ∀ a : F, wiF simE a = simF a
  | .nil => rfl
  | .cons op n s b r => by rw [wiF, simF_cons, wiF_sim r]

set_option maxRecDepth 100000 in
set_option maxHeartbeats 4000000 in
theorem r_Simplest1 (hR : RulesSaid) (m : Nat) (ih : ∀ (op n : Int) (s : ByteArray) (a : F) (p : Option Addr) (c : Nat) (fa : List Nat) (w : World), a.size < m → a.size ≤ 100000 → (F.cons op n s a .nil).Small → (F.cons op n s a .nil).Fits → RdP w a p fa → a.len ≤ c → c ≤ 9223372036854775807 →
      Calls Tryz.prog 28 #[.agg #[.int .i64 op, .int .i64 n, .string s, .slice p a.len c]] w (GotNew (simE op n s a) w))
    (op n : Int) (s : ByteArray) (a : F) (p : Option Addr) (c : Nat) (fa : List Nat) (w : World) (ham : a.size ≤ m) (hbig : a.size ≤ 100000) (hsm : (F.cons op n s a .nil).Small) (hft : (F.cons op n s a .nil).Fits) (hp : RdP w a p fa) (_hac : a.len ≤ c) (_hc : c ≤ 9223372036854775807) :
    Calls Tryz.prog 28 #[.agg #[.int .i64 op, .int .i64 n, .string s, .slice p a.len c]] w (GotNew (simE op n s a) w) := by
  have HP := hid hp
  have HK := hid ih
  have HRu := hid hR
  have HS := hid (And.intro hsm hft)
  obtain ⟨i0, hi0, hz0, hz1, hz2⟩ := info_parts info_expr
  have hlz := F.len_le_size a
  have hal : (a.len : Int) ≤ 100000 := by omega
  have E3 := ((Ext.refl (S := fun _ => False) w).alloc (.cells #[.int .i64 op, .int .i64 n, .string s, .slice p a.len c] 28)).alloc (.cells #[.int .i64 0, .int .i64 0, .string ⟨#[]⟩, .slice none 0 0] 28)
  have hb3 := heap_new ((w.alloc (.cells #[.int .i64 op, .int .i64 n, .string s, .slice p a.len c] 28)).alloc (.cells #[.int .i64 0, .int .i64 0, .string ⟨#[]⟩, .slice none 0 0] 28)) (.cells #[.int .i64 op, .int .i64 n, .string s, .slice none 0 0] 28)
  have hb2 := ((Ext.refl (S := fun _ => False) _).alloc (.cells #[.int .i64 op, .int .i64 n, .string s, .slice none 0 0] 28)).heap (heap_new (w.alloc (.cells #[.int .i64 op, .int .i64 n, .string s, .slice p a.len c] 28)) (.cells #[.int .i64 0, .int .i64 0, .string ⟨#[]⟩, .slice none 0 0] 28)) id
  rw [show ((w.alloc (.cells #[.int .i64 op, .int .i64 n, .string s, .slice p a.len c] 28)).alloc (.cells #[.int .i64 0, .int .i64 0, .string ⟨#[]⟩, .slice none 0 0] 28)).heap.size = w.heap.size + 2 by simp] at hb3
  rw [show (w.alloc (.cells #[.int .i64 op, .int .i64 n, .string s, .slice p a.len c] 28)).heap.size = w.heap.size + 1 by simp] at hb2
  have HR0 := hid (show WiRel simE op n s a w 0 (((w.alloc (.cells #[.int .i64 op, .int .i64 n, .string s, .slice p a.len c] 28)).alloc (.cells #[.int .i64 0, .int .i64 0, .string ⟨#[]⟩, .slice none 0 0] 28)).alloc (.cells #[.int .i64 op, .int .i64 n, .string s, .slice none 0 0] 28)) from ⟨.nil, [], [], none, 0, rfl, rfl, hb3, hb2, World.ownsRow_nil _ _ _ _, ⟨rfl, rfl⟩, by simp, (E3.alloc _).below (Below.refl _ _) (fun _ _ => id), by simp⟩)
  clear hp ih hR hsm hft E3 hb2 hb3
  go_enter Tryz.func28, Tryz.ntmps28
  go_wp2_with fail
  go_loopw [21] (fun i wr => ∃ k : Nat, k ≤ a.len ∧ i = .int .i64 k ∧ WiRel simE op n s a w k wr) (fun i _ => a.len - (intOf i).toNat)
  case atStart => exact ⟨0, by omega, rfl, HR0.out⟩
  case round =>
    obtain ⟨k, hk, rfl, g, xs, fp, ao, ca, h1, h2, h3, h4, h5, h6, h7, h8, h9⟩ := hrel
    have HA := hid (And.intro h1 h2)
    have HB := hid (And.intro h3 h4)
    have HO := hid h5
    have HRd := hid (And.intro h6 h7)
    have HBl := hid h8
    have hpr : RdP wr a p fa := HP.out.ext (S := fun _ => False) (Ext.of_below h8) (fun _ _ => id)
    obtain ⟨⟨o0, o1, o2, o3⟩, g0, g1, g2, g3⟩ := blk4 h3
    have hzw : w.heap.size ≤ wr.heap.size := h8.size
    clear h1 h2 h3 h4 h5 h6 h7 h8
    by_cases hlt : k < a.len
    · rcases hpr with ⟨h0, _⟩ | ⟨b, o, xa, fb, rfl, _, _, hcell, _, hx⟩
      · rw [h0] at hlt; simp [F.len] at hlt
      obtain ⟨op', n', s', a', p', c', fa', hdrop, x0, x1, x2, x3, hl', hc', hp', _⟩ := hx.at hlt
      have y0 := hcell _ _ x0
      have y1 := hcell _ _ x1
      have y2 := hcell _ _ x2
      have y3 := hcell _ _ x3
      simp only [← Nat.add_assoc, Nat.mul_comm 4 k] at y0 y1 y2 y3
      have E1 := (Ext.refl (S := fun _ => False) wr).alloc (.cells #[.int .i64 op', .int .i64 n', .string s', .slice p' a'.len c'] 28)
      have hszk := F.size_split k a hdrop
      have hsmk := F.small_drop k HS.out.1.2.1
      have hftk := F.fits_drop k HS.out.2.2.2.2.1
      rw [hdrop] at hsmk hftk
      have hcall := HK.out op' n' s' a' p' c' fa' (wr.alloc (.cells #[.int .i64 op', .int .i64 n', .string s', .slice p' a'.len c'] 28)).drew (by omega) (by omega) ⟨hsmk.1, hsmk.2.1, trivial⟩ ⟨hftk.1, hftk.2.1, hftk.2.2.1, hftk.2.2.2.1, trivial⟩ (hp'.ext E1.drew (fun _ _ => id)) hl' hc'
      have HCall := hid hcall
      have HD := hid hdrop
      have HE1 := hid E1
      have q3 := E1.cell_some o3 id
      have HQ3 := hid q3
      have HG3 := hid g3
      have hsub : w.heap.size + 2 < wr.heap.size := by omega
      have hkm : k + 1 ≤ maxLen := by unfold maxLen; omega
      have HO3 := hid (show ∀ o, some (⟨w.heap.size + 2, o, none⟩ : Addr).block ≠ (Value.slice ao k ca).ownBlock from fun o e => by have := (HO.out.lt (w.heap.size + 2) e.symm).1; omega)
      clear hcell hx x0 x1 x2 x3 hp' hl' hc' hdrop hcall E1 q3 g0 g1 g2 hsmk hftk hszk
      go_wp2_with fail
      go_region_law (first
        | (refine step_append_lies _ (by rfl) _ _ 26 (by rfl) (w.heap.size + 3) 28 i0 _ 4 56 Tryz.underlying26 hi0 hz0 hz1 hz2 rfl (by omega) (.slice ao k ca) k xs (by rfl) (HO4.out.alloc _) ⟨w3.heap.size, 0, none⟩ 1 1 [.int .i64 op1, .int .i64 n1, .string s1, .slice p1 a1.len c1] (by rfl) (by rfl) (World.news_of_block (cs := #[.int .i64 op1, .int .i64 n1, .string s1, .slice p1 a1.len c1]) (t := 28) (fr := (0, 0)) (heap_alloc_new w3 _)) (by simp [Value.oneCell']) (by omega) hkm (by omega) (by simp; omega) (w3.heap.size + 1) (by simp) ?_; intro gg cap' w4 hown4 hgrow hat4 hlt4; have q4 : w4.cell? ⟨w.heap.size + 2, 3, none⟩ = some (.slice ao k ca) := (hgrow.cell_far _ (by simp; omega) (HO3.out 3)).trans (((Ext.refl (S := fun _ => False) w3).alloc _).cell_some q3' id); have f4 : w4.frozen? ⟨w.heap.size + 2, 3, none⟩ = false := (hgrow.frozen_far _ (by simp; omega) (HO3.out 3)).trans ((((Ext.refl (S := fun _ => False) w3).alloc _).frozen (p := ⟨w.heap.size + 2, 3, none⟩) hz3 id).trans f3'))
        | (go_simp; go_at_call 28; refine HCall.out.mono ?_; rintro e w3 ⟨⟨op1, n1, s1, a1, p1, c1, fa1, rfl, m1, m2, m3, m4, m5⟩, hb3⟩; have F3 := (Ext.refl (S := fun _ => False) (wr.alloc (.cells #[.int .i64 op', .int .i64 n', .string s', .slice p' a'.len c'] 28))).drew.trans (Ext.of_below hb3); have G3 := HE1.out.trans F3; have hz3 : w.heap.size + 2 < w3.heap.size := Nat.lt_of_lt_of_le hsub G3.size; have q3' : w3.cell? ⟨w.heap.size + 2, 3, none⟩ = some (.slice ao k ca) := F3.cell_some HQ3.out id; have f3' : w3.frozen? ⟨w.heap.size + 2, 3, none⟩ = false := (G3.frozen (p := ⟨w.heap.size + 2, 3, none⟩) hsub id).trans HG3.out; have HO4 := hid (ownsRow_ext (S := fun _ => False) HO.out G3 (fun _ _ _ => id)); have HM := hid (And.intro m1 (And.intro m2 (And.intro m3 (And.intro m4 m5)))); have HG := hid G3; clear m1 m2 m3 m4 m5 hb3 F3 G3))
      all_goals
        have HT := hid (wi_next (gO := simE) (a := a) (by rw [HA.out.1, HD.out]; show _ = _; rw [wiF, HM.out.1, ← F.app_assoc]) HA.out.2 HB.out.1 HB.out.2 HO.out HRd.out.1 HRd.out.2 HBl.out h9 HG.out HM.out.2.1 ⟨HM.out.2.2.1, HM.out.2.2.2.1⟩ (fun b hb => by have h1 := HM.out.2.2.2.2 b hb; simp at h1; omega) hown4 (((Ext.refl w3).alloc _).grown hgrow (fun b hb => .inl hb.symm)) (hat4.imp id (fun h => by omega)))
        go_wp2_with fail
        go_roundw
        case rel => exact ⟨k + 1, by omega, by go_num, HT.out⟩
        case measure => simp [intOf]; omega
    · obtain ⟨rfl, hfin⟩ : k = a.len ∧ a.drop k = .nil := ⟨by omega, F.eq_nil_of_len (by rw [F.len_drop]; omega)⟩
      have hg : simF a = g := by rw [← wiF_sim, HA.out.1, hfin]; exact F.app_nil g
      have hgl : g.len = a.len := HA.out.2
      obtain ⟨fq, hq1, hq2, hac2, ham2⟩ := row_read HRd.out.1 HO.out hgl (fun b hb => (HRd.out.2 b hb).1)
      have HOut := hid (show OutAt w op n s (simF a) ao ca fq wr by
        rw [hg]
        exact ⟨by rw [hgl]; exact HB.out.1, HB.out.2, hq1, hac2, ham2, hq2, HBl.out, h9⟩)
      have HGo := hid (goes_start HS.out.1 HS.out.2)
      clear hpr hfin hg hgl hq1 hq2 hac2 ham2 HA HB HO HRd HBl HK HP g0 g1 g2 g3 o0 o1 o2 o3 hlt hk HR0 h9 hzw
      generalize simE op n s a = E at *
      go_wp2_with fail
      go_loopg [6] (2 * (simF a).size + 2) (fun gh v wr => ∃ (yes : Bool) (op' n' : Int) (s' : ByteArray) (a' : F) (p' : Option Addr) (c' : Nat) (f' : List Nat) (j : Nat), v = .bool yes ∧ Goes E j op' n' s' a' ∧ OutAt w op' n' s' a' p' c' f' wr ∧ (yes = false → ruleF op' a' = none) ∧ gh = 2 * a'.size + (if yes = true then 2 else 1))
      case atStart => exact ⟨true, op, n, s, simF a, ao, ca, fq, _, rfl, HGo.out, HOut.out, (fun h => by cases h), rfl⟩
      case round =>
        obtain ⟨yes, op', n', s', a', p', c', f', j, rfl, hgo, hout, hno, hgh⟩ := hrel
        have HGo := hid hgo
        have HOut := hid hout
        have HNo := hid hno
        have HGh := hid hgh
        obtain ⟨⟨o0, o1, o2, o3⟩, g0, g1, g2, g3⟩ := blk4 hout.1
        obtain ⟨⟨z0, z1, z2, z3⟩, r0, r1, r2, r3⟩ := blk4 hout.2.1
        have hzw : w.heap.size + 3 ≤ wr.heap.size := hout.2.2.2.2.2.2.2
        clear hgo hout hno hgh
        cases yes with
        | false =>
          have HE := hid (goes_end HGo.out (HNo.out rfl))
          have hz2 : w.heap.size + 2 < wr.heap.size := by omega
          go_wp2_with fail
          obtain ⟨W, hW, u0, u1, u2, u3, eW⟩ := set4_all (a0 := .int .i64 op') (a1 := .int .i64 n') (a2 := .string s') (a3 := .slice p' a'.len c') z0 z1 z2 z3
          rw [hW]
          exact bodyPost_ret (v := .agg #[.int .i64 op', .int .i64 n', .string s', .slice p' a'.len c']) (by simp [results, Tryz.results28, go_sem, u0, u1, u2, u3]) rfl ⟨⟨op', n', s', a', p', c', f', rfl, HE.out, HOut.out.2.2.1.ext eW (fun b hb e => by have := HOut.out.2.2.2.2.2.1 b hb; omega), HOut.out.2.2.2.1, HOut.out.2.2.2.2.1, fun b hb => by have := HOut.out.2.2.2.2.2.1 b hb; omega⟩, below_at HOut.out.2.2.2.2.2.2.1 eW (by omega) (by omega)⟩
        | true =>
          go_wp2_with fail
          refine (HRu.out _).mono ?_
          rintro e w4 ⟨⟨gr, rfl, hro⟩, hb4⟩
          have HOut4 := hid (HOut.out.ext (Ext.of_below hb4))
          have HRo := hid hro
          clear hro hb4 o0 o1 o2 o3 g0 g1 g2 g3 z0 z1 z2 z3 r0 r1 r2 r3 hzw
          go_wp2_with fail
          go_loopw [6, 36] (fun v i wr => ∃ k : Nat, k ≤ 6 ∧ i = .int .i64 k ∧ v = .bool false ∧ ruleF op' a' = ruleFrom op' a' k ∧ OutAt w op' n' s' a' p' c' f' wr ∧ RulesOk wr gr) (fun _ i _ => 6 - (intOf i).toNat)
          case atStart => exact ⟨0, by omega, rfl, rfl, rfl, HOut4.out, HRo.out⟩
          case round =>
            obtain ⟨k, hk, rfl, rfl, hfr, hout, hro⟩ := hrel
            have HFr := hid hfr
            have HOut5 := hid hout
            have HRo5 := hid hro
            obtain ⟨⟨e0, e1, e2, e3⟩, g0, g1, g2, g3⟩ := blk4 hout.1
            have hzw : w.heap.size + 3 ≤ wr.heap.size := hout.2.2.2.2.2.2.2
            clear hfr hout hro
            by_cases hlt : k < 6
            · obtain ⟨v, hv, fn, caps, rfl, hE, hcall⟩ := HRo5.out k hlt
              unfold Enters at hE
              have HCall := hid (fun W' e h => hcall op' n' s' a' p' c' f' W' e HGo.out.2.2.1 h HOut5.out.2.2.2.1 HOut5.out.2.2.2.2.1)
              clear hcall
              go_wp2_with fail
              refine (HCall.out _ (Ext.refl _) HOut5.out.2.2.1).mono ?_
              rintro e w6 ⟨⟨o1, n1, s1, a1, p1, c1, f1, rfl, h1, h2, h3, h4, h5⟩, hb6⟩
              have E6 := hid (Ext.of_below (S := fun _ => False) hb6)
              have HOut6 := hid (HOut5.out.ext E6.out)
              have HRo6 := hid (HRo5.out.ext E6.out)
              have HG := hid (And.intro h1 (And.intro h2 (And.intro h3 (And.intro h4 h5))))
              clear h1 h2 h3 h4 h5 hb6 hv hE HCall g0 g1 g2 g3 e0 e1 e2 e3
              generalize hyy : (ruleAt op' a' k).isSome = got
              have HYes := hid hyy
              clear hyy
              obtain ⟨⟨o0, o1', o2, o3⟩, g0, g1, g2, g3⟩ := blk4 HOut6.out.1
              have hz6 : w.heap.size + 2 < w6.heap.size := World.block_lt_of_cell? _ _ o0
              have HA6 := hid ((Ext.refl (S := fun _ => False) w6).alloc (.cells #[.int .i64 o1, .int .i64 n1, .string s1, .slice p1 a1.len c1] 28))
              cases got with
              | true =>
                obtain ⟨gx, hg⟩ := Option.isSome_iff_exists.1 HYes.out
                have hgx := HG.out.1 gx hg
                obtain ⟨i, hgo, hsz⟩ := goes_step (op' := o1) (n' := n1) (s' := s1) (a' := a1) HGo.out (by rw [HFr.out, ruleFrom_some hlt hg, hgx])
                have HGo2 := hid (And.intro hgo hsz)
                have HH := hid ((HOut6.out.put (op' := o1) (n' := n1) (s' := s1) HG.out.2.1 HG.out.2.2.1 HG.out.2.2.2.1 (fun b hb => (HG.out.2.2.2.2 b hb).elim (HOut5.out.2.2.2.2.2.1 b) (fun h => by omega))).ext ((Ext.refl (S := fun _ => False) _).alloc (.cells #[.int .i64 o1, .int .i64 n1, .string s1, .slice p1 a1.len c1] 28)))
                clear hg hgx hgo hsz
                go_wp2_with fail
                go_roundg (2 * a1.size + 2)
                case rel => exact ⟨true, o1, n1, s1, a1, p1, c1, f1, i, rfl, HGo2.out.1, HH.out, (fun h => by cases h), rfl⟩
                case measure => have h := HGh.out; have h2 := HGo2.out.2; simp at h; omega
              | false =>
                have HN := hid (show ruleF op' a' = ruleFrom op' a' (k + 1) by
                  rw [HFr.out]
                  refine ruleFrom_none hlt ?_
                  have h := HYes.out
                  cases hr : ruleAt op' a' k with
                  | none => rfl
                  | some _ => rw [hr] at h; cases h)
                have HH := hid (HOut6.out.ext HA6.out)
                have HH2 := hid (HRo6.out.ext HA6.out)
                go_wp2_with fail
                go_roundw
                case rel => exact ⟨k + 1, by omega, by go_num, rfl, HN.out, HH.out, HH2.out⟩
                case measure => simp [intOf]; omega
            · have hk6 : k = 6 := by omega
              subst hk6
              have HN := hid (show ruleF op' a' = none from HFr.out)
              go_wp2_with fail
              go_roundg (2 * a'.size + 1)
              case rel => exact ⟨false, op', n', s', a', p', c', f', j, rfl, HGo.out, HOut5.out, (fun _ => HN.out), by simp⟩
              case measure => have h := HGh.out; simp at h; omega
theorem r_SimplestOf (hR : RulesSaid) (m : Nat) : ∀ (op n : Int) (s : ByteArray) (a : F) (p : Option Addr) (c : Nat) (fa : List Nat) (w : World), a.size < m → a.size ≤ 100000 → (F.cons op n s a .nil).Small → (F.cons op n s a .nil).Fits → RdP w a p fa → a.len ≤ c → c ≤ 9223372036854775807 →
      Calls Tryz.prog 28 #[.agg #[.int .i64 op, .int .i64 n, .string s, .slice p a.len c]] w (GotNew (simE op n s a) w) := by
  induction m with
  | zero => intro op n s a p c fa w h; omega
  | succ m ih => intro op n s a p c fa w h h1 h2 h3 h4 h5 h6; exact r_Simplest1 hR m ih op n s a p c fa w (by omega) h1 h2 h3 h4 h5 h6
end Go.Proofs.YtkgciohebloffaaGreat
/- replaced, the reference's: a variable is replaced; what stands for it is not copied. -/
namespace Go.Proofs.YtkgciohebloffaaGreat
open Go.RowKit

/-- An expression in new memory, or in the blocks bf. -/
def GotOld (bf : List Nat) (g : F) (w : World) (e : Ending) (w' : World) : Prop :=
  (∃ (op n : Int) (s : ByteArray) (a : F) (p : Option Addr) (c : Nat) (fa : List Nat), e = .returned (.agg #[.int .i64 op, .int .i64 n, .string s, .slice p a.len c]) ∧ g = .cons op n s a .nil ∧ RdP w' a p fa ∧ a.len ≤ c ∧ c ≤ 9223372036854775807 ∧ (∀ b ∈ fa, w.heap.size ≤ b ∨ b ∈ bf)) ∧ Below w.heap.size w w'
theorem row_old {w : World} {base : Nat} {bf : List Nat} {A : F} {xs : List Value} {fb : List Nat} {q : Option Addr} {k c : Nat} (hx : RdV w A xs fb) (hown : w.ownsRow base 28 4 (.slice q k c) k xs) (hk : A.len = k) (hb : ∀ b ∈ fb, base ≤ b ∨ b ∈ bf) :
    ∃ fq, RdP w A q fq ∧ (∀ b ∈ fq, base ≤ b ∨ b ∈ bf) ∧ A.len ≤ c ∧ c ≤ 9223372036854775807 := by
  subst hk
  obtain ⟨ao, ca, hv, _, h1, h2, _⟩ := own_anyN hown
  injection hv with e1 _ e3
  subst e1 e3
  have h3 : c ≤ 9223372036854775807 := by unfold maxLen at h2; omega
  rcases Nat.eq_zero_or_pos A.len with h | h
  · have : A = .nil := F.eq_nil_of_len h
    subst this
    exact ⟨[], .inl ⟨rfl, rfl⟩, by simp, h1, h3⟩
  · obtain ⟨g, cc, hv, hg, _, _, hcell, hfr⟩ := own_cells hown h
    injection hv with e1 _ _
    subst e1
    refine ⟨g :: fb, .inr ⟨g, 0, xs, fb, rfl, rfl, h, fun i v hv => by rw [Nat.zero_add]; exact hcell i v hv, hfr, hx⟩, fun b hb' => ?_, h1, h3⟩
    rcases List.mem_cons.1 hb' with rfl | hb'
    · exact .inl hg
    · exact hb b hb'
/-- The first k arguments are made; blocks B to B + 2: what is put, the result, what is being made. -/
def WiOld (gO : Int → Int → ByteArray → F → F) (op n : Int) (s : ByteArray) (a : F) (bf : List Nat) (B : Nat) (Y : Obj) (w : World) (k : Nat) (wr : World) : Prop :=
  ∃ (g : F) (xs : List Value) (fp : List Nat) (ao : Option Addr) (ca : Nat), wiF gO a = g.app (wiF gO (a.drop k)) ∧ g.len = k ∧
    wr.heap[B + 2]? = some (.cells #[.int .i64 op, .int .i64 n, .string s, .slice ao k ca] 28 (0, 0)) ∧
    (wr.heap[B + 1]? = some (.cells #[.int .i64 0, .int .i64 0, .string ⟨#[]⟩, .slice none 0 0] 28 (0, 0)) ∧ wr.heap[B]? = some Y) ∧
    wr.ownsRow (B + 3) 28 4 (.slice ao k ca) k xs ∧ RdV wr g xs fp ∧ (∀ b ∈ fp, (B + 3 ≤ b ∨ b ∈ bf) ∧ (Value.slice ao k ca).ownBlock ≠ some b) ∧ Below w.heap.size w wr ∧ B + 3 ≤ wr.heap.size
theorem wo_next {gO : Int → Int → ByteArray → F → F} {op n : Int} {s : ByteArray} {a : F} {bf : List Nat} {B : Nat} {Y : Obj} {w wr w3 w4 : World} {k : Nat} {g : F} {xs : List Value} {fp : List Nat} {ao : Option Addr} {ca gg cap' : Nat} {o1 n1 : Int} {s1 : ByteArray} {a1 : F} {p1 : Option Addr} {c1 : Nat} {fa1 : List Nat}
    (hB : w.heap.size ≤ B) (hbf : ∀ b ∈ bf, b < w.heap.size)
    (h1 : wiF gO a = (g.app (.cons o1 n1 s1 a1 .nil)).app (wiF gO (a.drop (k + 1)))) (h2 : g.len = k)
    (h3 : wr.heap[B + 2]? = some (.cells #[.int .i64 op, .int .i64 n, .string s, .slice ao k ca] 28 (0, 0)))
    (h4 : wr.heap[B + 1]? = some (.cells #[.int .i64 0, .int .i64 0, .string ⟨#[]⟩, .slice none 0 0] 28 (0, 0)) ∧ wr.heap[B]? = some Y)
    (h5 : wr.ownsRow (B + 3) 28 4 (.slice ao k ca) k xs) (h6 : RdV wr g xs fp) (h7 : ∀ b ∈ fp, (B + 3 ≤ b ∨ b ∈ bf) ∧ (Value.slice ao k ca).ownBlock ≠ some b) (h8 : Below w.heap.size w wr) (h9 : B + 3 ≤ wr.heap.size)
    (e3 : Ext (fun _ => False) wr w3) (hq : RdP w3 a1 p1 fa1) (hl : a1.len ≤ c1 ∧ c1 ≤ 9223372036854775807) (hfa : ∀ b ∈ fa1, wr.heap.size ≤ b ∨ b ∈ bf)
    (hown4 : w4.ownsRow (B + 3) 28 4 (.slice (some ⟨gg, 0, none⟩) (k + 1) cap') (k + 1) (xs ++ exV o1 n1 s1 p1 a1.len c1)) (e34 : Ext (fun b => some b = (Value.slice ao k ca).ownBlock) w3 w4) (hat : (Value.slice ao k ca).ownBlock = some gg ∨ w3.heap.size ≤ gg) :
    WiOld gO op n s a bf B Y w (k + 1) (w4.setCell ⟨B + 2, 3, none⟩ (.slice (some ⟨gg, 0, none⟩) (k + 1) cap')) := by
  have hvlt : ∀ b, (Value.slice ao k ca).ownBlock = some b → B + 3 ≤ b ∧ b < wr.heap.size := fun b e => h5.lt b e
  have z3 := e3.size
  have z4 := e34.size
  have e4 : Ext (fun b => some b = (Value.slice ao k ca).ownBlock) wr w4 := (e3.mono (fun _ _ h => h.elim)).trans e34
  have e45 : Ext (fun b => b = B + 2) w4 (w4.setCell ⟨B + 2, 3, none⟩ (.slice (some ⟨gg, 0, none⟩) (k + 1) cap')) := (Ext.refl (S := fun b => b = B + 2) w4).setCell (p := ⟨B + 2, 3, none⟩) (.inl rfl) _
  have hB4 := e4.heap h3 (fun e => by have := hvlt _ e.symm; omega)
  have hZ4 := e4.heap h4.1 (fun e => by have := hvlt _ e.symm; omega)
  have hY4 := e4.heap h4.2 (fun e => by have := hvlt _ e.symm; omega)
  have hr4 : RdV w4 g xs fp := h6.ext e4 (fun b hb e => (h7 b hb).2 e.symm)
  have hq4 : RdP w4 a1 p1 fa1 := hq.ext e34 (fun b hb e => by
    have h := hvlt b e.symm
    rcases hfa b hb with h' | h'
    · omega
    · have := hbf b h'; omega)
  have hlt3 : ∀ b ∈ fa1, b < w3.heap.size := hq.lt
  refine ⟨g.app (.cons o1 n1 s1 a1 .nil), xs ++ exV o1 n1 s1 p1 a1.len c1, fp ++ fa1, some ⟨gg, 0, none⟩, cap', h1, by rw [F.len_app, h2]; rfl, ?_, ⟨e45.heap hZ4 (by omega), e45.heap hY4 (by omega)⟩, ?_, ?_, ?_, ?_, ?_⟩
  · simp [World.setCell, Array.getElem?_modify, hB4]
  · exact ownsRow_ext hown4 e45 (fun b hb _ e => by omega)
  · refine RdV.app (hr4.ext e45 (fun b hb e => by
      rcases (h7 b hb).1 with h | h
      · omega
      · have := hbf b h; omega)) ?_
    exact ⟨p1, c1, fa1, [], [], rfl, by simp, hl.1, hl.2, ⟨rfl, rfl⟩, hq4.ext e45 (fun b hb e => by
      rcases hfa b hb with h | h
      · omega
      · have := hbf b h; omega)⟩
  · intro b hb
    have own : ∀ x, (Value.slice (some ⟨gg, 0, none⟩) (k + 1) cap').ownBlock = some x → gg = x := fun x e => by simpa [Value.ownBlock] using e
    have hgB : B + 3 ≤ gg := by
      rcases hat with h' | h'
      · exact (hvlt _ h').1
      · omega
    rcases List.mem_append.1 hb with h | h
    · refine ⟨(h7 b h).1, fun e => ?_⟩
      have e' := own b e
      subst e'
      rcases hat with h' | h'
      · exact (h7 _ h).2 h'
      · have := h6.lt _ h; omega
    · refine ⟨(hfa b h).imp (fun h => by omega) id, fun e => ?_⟩
      have e' := own b e
      subst e'
      rcases hat with h' | h'
      · rcases hfa _ h with h3 | h3
        · have := hvlt _ h'; omega
        · have := hbf _ h3; omega
      · have := hlt3 _ h; omega
  · have e5 : Ext (fun b => some b = (Value.slice ao k ca).ownBlock ∨ b = B + 2) wr _ := (e4.mono (fun _ _ h => .inl h)).trans (e45.mono (fun _ _ h => .inr h))
    exact ⟨e5.os.trans h8.os, e5.tape.trans h8.tape, e5.output.trans h8.output, Nat.le_trans h8.size e5.size, fun i hi => (e5.block i (by have := h8.size; omega) (fun e => by rcases e with e | e; have := (hvlt i e.symm).1; omega; omega)).trans (h8.block i hi)⟩
  · have := e45.size; omega

def ReplSaid (m : Nat) (nm : ByteArray) (bo bn : Int) (bs : ByteArray) (ba : F) : Prop := ∀ (op n : Int) (s : ByteArray) (a : F) (p : Option Addr) (c : Nat) (fa : List Nat) (bp : Option Addr) (bc : Nat) (bf : List Nat) (w : World), a.size < m → a.size ≤ 100000 → RdP w a p fa → a.len ≤ c → c ≤ 9223372036854775807 → RdP w ba bp bf → ba.len ≤ bc → bc ≤ 9223372036854775807 →
  Calls Tryz.prog 77 #[.agg #[.int .i64 op, .int .i64 n, .string s, .slice p a.len c], .string nm, .agg #[.int .i64 bo, .int .i64 bn, .string bs, .slice bp ba.len bc]] w (GotOld bf (putE nm (.cons bo bn bs ba .nil) op n s a) w)
set_option maxRecDepth 100000 in
set_option maxHeartbeats 4000000 in
theorem r_repl1 (m : Nat) (nm : ByteArray) (bo bn : Int) (bs : ByteArray) (ba : F) (ih : ReplSaid m nm bo bn bs ba) (op n : Int) (s : ByteArray) (a : F) (p : Option Addr) (c : Nat) (fa : List Nat) (bp : Option Addr) (bc : Nat) (bf : List Nat) (w : World) (ham : a.size ≤ m) (hbig : a.size ≤ 100000) (hp : RdP w a p fa) (_hac : a.len ≤ c) (_hc : c ≤ 9223372036854775807) (hq : RdP w ba bp bf) (hbl : ba.len ≤ bc) (hbc : bc ≤ 9223372036854775807) :
    Calls Tryz.prog 77 #[.agg #[.int .i64 op, .int .i64 n, .string s, .slice p a.len c], .string nm, .agg #[.int .i64 bo, .int .i64 bn, .string bs, .slice bp ba.len bc]] w (GotOld bf (putE nm (.cons bo bn bs ba .nil) op n s a) w) := by
  have hlz := F.len_le_size a
  have hal : (a.len : Int) ≤ 100000 := by omega
  have HQ := hid (And.intro hp hq)
  have HBf := hid (show ∀ b ∈ bf, b < w.heap.size from hq.lt)
  have HK := hid ih
  have E : ∀ (v : World) (o : Obj), Ext (fun _ => False) v (v.alloc o) := fun v o => (Ext.refl v).alloc o
  by_cases hv : (op == 2 && s.toList == nm.toList) = true
  · obtain ⟨e1, e2⟩ : (op == 2) = true ∧ (s.toList == nm.toList) = true := by simpa using hv
    have HE := hid (show putE nm (.cons bo bn bs ba .nil) op n s a = .cons bo bn bs ba .nil by unfold putE; rw [if_pos hv])
    clear hv hp hq ih
    have EW := hid (((E w (.cells #[.int .i64 op, .int .i64 n, .string s, .slice p a.len c] 28)).trans (E _ (.cells #[.int .i64 bo, .int .i64 bn, .string bs, .slice bp ba.len bc] 28))).trans (E _ (.cells #[.int .i64 bo, .int .i64 bn, .string bs, .slice bp ba.len bc] 28)))
    clear E
    go_enter Tryz.func77, Tryz.ntmps77
    go_wp2_with fail
    exact bodyPost_ret (v := .agg #[.int .i64 bo, .int .i64 bn, .string bs, .slice bp ba.len bc]) (by simp [results, Tryz.results77, go_sem]) rfl ⟨⟨bo, bn, bs, ba, bp, bc, bf, rfl, HE.out, HQ.out.2.ext EW.out (fun _ _ => id), hbl, hbc, fun b hb => .inr hb⟩, EW.out.below (Below.refl _ _) (fun _ _ => id)⟩
  · have hv2 : (op == 2) = false ∨ ((op == 2) = true ∧ (s.toList == nm.toList) = false) := by
      cases h1 : (op == 2)
      · exact .inl rfl
      · right; refine ⟨rfl, ?_⟩; rw [h1] at hv; simpa using hv
    have HE := hid (show putE nm (.cons bo bn bs ba .nil) op n s a = .cons op n s (putF nm (.cons bo bn bs ba .nil) a) .nil by unfold putE; rw [if_neg hv])
    clear hv hp hq ih
    have k2 := heap_new (w.alloc (.cells #[.int .i64 op, .int .i64 n, .string s, .slice p a.len c] 28)) (.cells #[.int .i64 bo, .int .i64 bn, .string bs, .slice bp ba.len bc] 28)
    have k3 := heap_new ((w.alloc (.cells #[.int .i64 op, .int .i64 n, .string s, .slice p a.len c] 28)).alloc (.cells #[.int .i64 bo, .int .i64 bn, .string bs, .slice bp ba.len bc] 28)) (.cells #[.int .i64 0, .int .i64 0, .string ⟨#[]⟩, .slice none 0 0] 28)
    have k4 := heap_new (((w.alloc (.cells #[.int .i64 op, .int .i64 n, .string s, .slice p a.len c] 28)).alloc (.cells #[.int .i64 bo, .int .i64 bn, .string bs, .slice bp ba.len bc] 28)).alloc (.cells #[.int .i64 0, .int .i64 0, .string ⟨#[]⟩, .slice none 0 0] 28)) (.cells #[.int .i64 op, .int .i64 n, .string s, .slice none 0 0] 28)
    rw [show (w.alloc (.cells #[.int .i64 op, .int .i64 n, .string s, .slice p a.len c] 28)).heap.size = w.heap.size + 1 by simp] at k2
    rw [show ((w.alloc (.cells #[.int .i64 op, .int .i64 n, .string s, .slice p a.len c] 28)).alloc (.cells #[.int .i64 bo, .int .i64 bn, .string bs, .slice bp ba.len bc] 28)).heap.size = w.heap.size + 1 + 1 by simp] at k3
    rw [show (((w.alloc (.cells #[.int .i64 op, .int .i64 n, .string s, .slice p a.len c] 28)).alloc (.cells #[.int .i64 bo, .int .i64 bn, .string bs, .slice bp ba.len bc] 28)).alloc (.cells #[.int .i64 0, .int .i64 0, .string ⟨#[]⟩, .slice none 0 0] 28)).heap.size = w.heap.size + 1 + 2 by simp] at k4
    have HR0 := hid (show WiOld (putE nm (.cons bo bn bs ba .nil)) op n s a bf (w.heap.size + 1) (.cells #[.int .i64 bo, .int .i64 bn, .string bs, .slice bp ba.len bc] 28) w 0 ((((w.alloc (.cells #[.int .i64 op, .int .i64 n, .string s, .slice p a.len c] 28)).alloc (.cells #[.int .i64 bo, .int .i64 bn, .string bs, .slice bp ba.len bc] 28)).alloc (.cells #[.int .i64 0, .int .i64 0, .string ⟨#[]⟩, .slice none 0 0] 28)).alloc (.cells #[.int .i64 op, .int .i64 n, .string s, .slice none 0 0] 28)) from ⟨.nil, [], [], none, 0, rfl, rfl, k4, ⟨(E _ _).heap k3 id, (E _ _).heap ((E _ _).heap k2 id) id⟩, World.ownsRow_nil _ _ _ _, ⟨rfl, rfl⟩, by simp, ((((E _ _).trans (E _ _)).trans (E _ _)).trans (E _ _)).below (Below.refl _ _) (fun _ _ => id), by simp⟩)
    obtain ⟨i0, hi0, hz0, hz1, hz2⟩ := info_parts info_expr
    clear k2 k3 k4 E
    rcases hv2 with e1 | ⟨e1, e2⟩
    all_goals
      go_enter Tryz.func77, Tryz.ntmps77
      go_wp2_with fail
      go_loopw [30] (fun i wr => ∃ k : Nat, k ≤ a.len ∧ i = .int .i64 k ∧ WiOld (putE nm (.cons bo bn bs ba .nil)) op n s a bf (w.heap.size + 1) (.cells #[.int .i64 bo, .int .i64 bn, .string bs, .slice bp ba.len bc] 28) w k wr) (fun i _ => a.len - (intOf i).toNat)
      case atStart => exact ⟨0, by omega, rfl, HR0.out⟩
      case round =>
        obtain ⟨k, hk, rfl, g, xs, fp, ao, ca, h1, h2, h3, h4, h5, h6, h7, h8, h9⟩ := hrel
        have HA := hid (And.intro h1 h2)
        have HB := hid (And.intro h3 h4)
        have HO := hid h5
        have HRd := hid (And.intro h6 h7)
        have HBl := hid h8
        have hpr : RdP wr a p fa := HQ.out.1.ext (S := fun _ => False) (Ext.of_below h8) (fun _ _ => id)
        have hqr := hid (HQ.out.2.ext (S := fun _ => False) (Ext.of_below h8) (fun _ _ => id))
        obtain ⟨⟨o0, o1, o2, o3⟩, g0, g1, g2, g3⟩ := blk4 (show wr.heap[w.heap.size + 3]? = _ from h3)
        obtain ⟨⟨b0, b1, b2, b3⟩, _⟩ := blk4 h4.2
        obtain ⟨⟨z0, z1, z2, z3⟩, r0, r1, r2, r3⟩ := blk4 (show wr.heap[w.heap.size + 2]? = _ from h4.1)
        have hzw : w.heap.size + 4 ≤ wr.heap.size := by omega
        clear h1 h2 h3 h4 h5 h6 h7 h8
        by_cases hlt : k < a.len
        · rcases hpr with ⟨h0, _⟩ | ⟨b, o, xa, fb, rfl, _, _, hcell, _, hx⟩
          · rw [h0] at hlt; simp [F.len] at hlt
          obtain ⟨op', n', s', a', p', c', fa', hdrop, x0, x1, x2, x3, hl', hc', hp', _⟩ := hx.at hlt
          have y0 := hcell _ _ x0
          have y1 := hcell _ _ x1
          have y2 := hcell _ _ x2
          have y3 := hcell _ _ x3
          simp only [← Nat.add_assoc, Nat.mul_comm 4 k] at y0 y1 y2 y3
          have E1 := (Ext.refl (S := fun _ => False) wr).alloc (.cells #[.int .i64 op', .int .i64 n', .string s', .slice p' a'.len c'] 28)
          have hszk := F.size_split k a hdrop
          have hcall := HK.out op' n' s' a' p' c' fa' bp bc bf (wr.alloc (.cells #[.int .i64 op', .int .i64 n', .string s', .slice p' a'.len c'] 28)).drew (by omega) (by omega) (hp'.ext E1.drew (fun _ _ => id)) hl' hc' (hqr.out.ext E1.drew (fun _ _ => id)) hbl hbc
          have HCall := hid hcall
          have HD := hid hdrop
          have HE1 := hid E1
          have q3 := E1.cell_some o3 id
          have b0d := E1.drew.cell_some b0 id
          have b1d := E1.drew.cell_some b1 id
          have b2d := E1.drew.cell_some b2 id
          have b3d := E1.drew.cell_some b3 id
          have HQ3 := hid q3
          have HG3 := hid g3
          have hsub : w.heap.size + 3 < wr.heap.size := by omega
          have hkm : k + 1 ≤ maxLen := by unfold maxLen; omega
          have HO3 := hid (show ∀ o, some (⟨w.heap.size + 3, o, none⟩ : Addr).block ≠ (Value.slice ao k ca).ownBlock from fun o e => by have := (HO.out.lt (w.heap.size + 3) e.symm).1; omega)
          clear hcell hx x0 x1 x2 x3 hp' hl' hc' hdrop hcall E1 q3 g0 g1 g2 hszk
          go_wp2_with fail
          go_region_law (first
            | (refine step_append_lies _ (by rfl) _ _ 26 (by rfl) (w.heap.size + 1 + 3) 28 i0 _ 4 56 Tryz.underlying26 hi0 hz0 hz1 hz2 rfl (by omega) (.slice ao k ca) k xs (by rfl) (HO4.out.alloc _) ⟨w3.heap.size, 0, none⟩ 1 1 [.int .i64 op1, .int .i64 n1, .string s1, .slice p1 a1.len c1] (by rfl) (by rfl) (World.news_of_block (cs := #[.int .i64 op1, .int .i64 n1, .string s1, .slice p1 a1.len c1]) (t := 28) (fr := (0, 0)) (heap_alloc_new w3 _)) (by simp [Value.oneCell']) (by omega) hkm (by omega) (by simp; omega) (w3.heap.size + 1) (by simp) ?_; intro gg cap' w4 hown4 hgrow hat4 hlt4; have q4 : w4.cell? ⟨w.heap.size + 3, 3, none⟩ = some (.slice ao k ca) := (hgrow.cell_far _ (by simp; omega) (HO3.out 3)).trans (((Ext.refl (S := fun _ => False) w3).alloc _).cell_some q3' id); have f4 : w4.frozen? ⟨w.heap.size + 3, 3, none⟩ = false := (hgrow.frozen_far _ (by simp; omega) (HO3.out 3)).trans ((((Ext.refl (S := fun _ => False) w3).alloc _).frozen (p := ⟨w.heap.size + 3, 3, none⟩) hz3 id).trans f3'))
            | (go_simp; go_at_call 77; refine HCall.out.mono ?_; rintro e w3 ⟨⟨op1, n1, s1, a1, p1, c1, fa1, rfl, m1, m2, m3, m4, m5⟩, hb3⟩; have F3 := (Ext.refl (S := fun _ => False) (wr.alloc (.cells #[.int .i64 op', .int .i64 n', .string s', .slice p' a'.len c'] 28))).drew.trans (Ext.of_below hb3); have G3 := HE1.out.trans F3; have hz3 : w.heap.size + 3 < w3.heap.size := Nat.lt_of_lt_of_le hsub G3.size; have q3' : w3.cell? ⟨w.heap.size + 3, 3, none⟩ = some (.slice ao k ca) := F3.cell_some HQ3.out id; have f3' : w3.frozen? ⟨w.heap.size + 3, 3, none⟩ = false := (G3.frozen (p := ⟨w.heap.size + 3, 3, none⟩) hsub id).trans HG3.out; have HO4 := hid (ownsRow_ext (S := fun _ => False) HO.out G3 (fun _ _ _ => id)); have HM := hid (And.intro m1 (And.intro m2 (And.intro m3 (And.intro m4 m5)))); have HG := hid G3; clear m1 m2 m3 m4 m5 hb3 F3 G3))
          all_goals
            have HT := hid (wo_next (gO := putE nm (.cons bo bn bs ba .nil)) (a := a) (by omega) HBf.out (by rw [HA.out.1, HD.out]; show _ = _; rw [wiF, HM.out.1, ← F.app_assoc]) HA.out.2 HB.out.1 HB.out.2 HO.out HRd.out.1 HRd.out.2 HBl.out h9 HG.out HM.out.2.1 ⟨HM.out.2.2.1, HM.out.2.2.2.1⟩ (fun b hb => (HM.out.2.2.2.2 b hb).imp (fun h1 => by simp at h1; omega) id) hown4 (((Ext.refl w3).alloc _).grown hgrow (fun b hb => .inl hb.symm)) (hat4.imp id (fun h => by omega)))
            go_wp2_with fail
            go_roundw
            case rel => exact ⟨k + 1, by omega, by go_num, HT.out⟩
            case measure => simp [intOf]; omega
        · obtain ⟨rfl, hfin⟩ : k = a.len ∧ a.drop k = .nil := ⟨by omega, F.eq_nil_of_len (by rw [F.len_drop]; omega)⟩
          have hg : putF nm (.cons bo bn bs ba .nil) a = g := by rw [← wiF_put, HA.out.1, hfin]; exact F.app_nil g
          have hgl : g.len = a.len := HA.out.2
          obtain ⟨fq, hq1, hq2, hac2, ham2⟩ := row_old HRd.out.1 HO.out hgl (fun b hb => (HRd.out.2 b hb).1)
          have HQQ := hid (And.intro hq1 (And.intro hq2 (And.intro hac2 ham2)))
          have HG := hid (And.intro hg hgl)
          have hz2 : w.heap.size + 2 < wr.heap.size := by omega
          clear hpr hfin hg hgl hq1 hq2 hac2 ham2
          go_wp2_with fail
          obtain ⟨W, hW, u0, u1, u2, u3, eW⟩ := set4_all (a0 := .int .i64 op) (a1 := .int .i64 n) (a2 := .string s) (a3 := .slice ao a.len ca) z0 z1 z2 z3
          rw [hW]
          exact bodyPost_ret (v := .agg #[.int .i64 op, .int .i64 n, .string s, .slice ao a.len ca]) (by simp [results, Tryz.results77, go_sem, u0, u1, u2, u3]) rfl ⟨⟨op, n, s, g, ao, ca, fq, by rw [HG.out.2], by rw [HE.out, HG.out.1], HQQ.out.1.ext eW (fun b hb e => by rcases HQQ.out.2.1 b hb with h | h; omega; have := HBf.out b h; omega), HQQ.out.2.2.1, HQQ.out.2.2.2, fun b hb => (HQQ.out.2.1 b hb).imp (fun h => by omega) id⟩, below_at HBl.out eW (by omega) (by omega)⟩
theorem r_replaced (nm : ByteArray) (bo bn : Int) (bs : ByteArray) (ba : F) (m : Nat) : ReplSaid m nm bo bn bs ba := by
  induction m with
  | zero => intro op n s a p c fa bp bc bf w h; omega
  | succ m ih => intro op n s a p c fa bp bc bf w h h1 h2 h3 h4 h5 h6 h7; exact r_repl1 m nm bo bn bs ba ih op n s a p c fa bp bc bf w (by omega) h1 h2 h3 h4 h5 h6 h7
end Go.Proofs.YtkgciohebloffaaGreat
