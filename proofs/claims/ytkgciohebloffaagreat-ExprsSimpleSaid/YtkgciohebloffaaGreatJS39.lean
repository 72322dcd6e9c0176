/- Texts joined: VSimple, Fresh. -/
import Derived.Test.YtkgciohebloffaaGreatJS38
import Derived.Test.YtkgciohebloffaaGreatJS25
import Derived.Deep.LoopGhost
import Derived.Test.YtkgciohebloffaaGreatJS14
import Derived.Test.YtkgciohebloffaaGreatJS22
import Derived.Deep.RegionLaw
import Derived.Deep.RegionHeld3
/- simple, the program's. -/
namespace Go.Proofs.YtkgciohebloffaaGreat
open Go.RowKit

/-- The expression at which the rules stand, in the parameter's own block. -/
def InAt (w : World) (op n : Int) (s : ByteArray) (a : F) (p : Option Addr) (c : Nat) (f : List Nat) (wr : World) : Prop :=
  wr.heap[w.heap.size]? = some (.cells #[.int .i64 op, .int .i64 n, .string s, .slice p a.len c] 28 (0, 0)) ∧ wr.heap[w.heap.size + 1]? = some (.cells #[.int .i64 0, .int .i64 0, .string ⟨#[]⟩, .slice none 0 0] 28 (0, 0)) ∧
    RdP wr a p f ∧ a.len ≤ c ∧ c ≤ 9223372036854775807 ∧ (∀ b ∈ f, w.heap.size + 2 ≤ b) ∧ Below w.heap.size w wr ∧ w.heap.size + 2 ≤ wr.heap.size
theorem InAt.ext {w wr w' : World} {op n : Int} {s : ByteArray} {a : F} {p : Option Addr} {c : Nat} {f : List Nat} (h : InAt w op n s a p c f wr) (e : Ext (fun _ => False) wr w') : InAt w op n s a p c f w' :=
  ⟨e.heap h.1 id, e.heap h.2.1 id, h.2.2.1.ext e (fun _ _ => id), h.2.2.2.1, h.2.2.2.2.1, h.2.2.2.2.2.1, below_ext h.2.2.2.2.2.2.1 e (by have := h.2.2.2.2.2.2.2; omega), Nat.le_trans h.2.2.2.2.2.2.2 e.size⟩
/-- The expression is replaced. -/
theorem in_put {w wr : World} {C : Array Value} {op n : Int} {s : ByteArray} {q : Option Addr} {l k : Nat} (h0 : wr.heap[w.heap.size]? = some (.cells #[.int .i64 op, .int .i64 n, .string s, .slice q l k] 28 (0, 0))) (h1 : wr.heap[w.heap.size + 1]? = some (.cells C 28 (0, 0))) (hC : C = #[.int .i64 0, .int .i64 0, .string ⟨#[]⟩, .slice none 0 0]) (hb : Below w.heap.size w wr) (hz : w.heap.size + 2 ≤ wr.heap.size)
    {op' n' : Int} {s' : ByteArray} {a' : F} {p' : Option Addr} {c' : Nat} {f' : List Nat} (hr : RdP wr a' p' f') (g1 : a'.len ≤ c') (g2 : c' ≤ 9223372036854775807) (g3 : ∀ b ∈ f', w.heap.size + 2 ≤ b) :
    InAt w op' n' s' a' p' c' f' ((((wr.setCell ⟨w.heap.size, 0, none⟩ (.int .i64 op')).setCell ⟨w.heap.size, 1, none⟩ (.int .i64 n')).setCell ⟨w.heap.size, 2, none⟩ (.string s')).setCell ⟨w.heap.size, 3, none⟩ (.slice p' a'.len c')) := by
  subst hC
  have e := set4_ext (S := (· = w.heap.size)) (a0 := .int .i64 op') (a1 := .int .i64 n') (a2 := .string s') (a3 := .slice p' a'.len c') (Ext.refl wr) (b := w.heap.size) (.inl rfl)
  refine ⟨set4_heap h0, e.heap h1 (by omega), hr.ext e (fun b hb e' => by have := g3 b hb; omega), g1, g2, g3, ?_, ?_⟩
  · exact below_at hb e (by omega) (by omega)
  · exact Nat.le_trans hz e.size

set_option maxRecDepth 100000 in
set_option maxHeartbeats 4000000 in
theorem v_simple1 (m : Nat) (ih : ∀ (op n : Int) (s : ByteArray) (a : F) (p : Option Addr) (c : Nat) (fa : List Nat) (w : World), a.size < m → a.size ≤ 100000 → (F.cons op n s a .nil).Small → (F.cons op n s a .nil).Fits → RdP w a p fa → a.len ≤ c → c ≤ 9223372036854775807 →
      Calls Tryz.prog 70 #[.agg #[.int .i64 op, .int .i64 n, .string s, .slice p a.len c]] w (GotNew (simE op n s a) w))
    (op n : Int) (s : ByteArray) (a : F) (p : Option Addr) (c : Nat) (fa : List Nat) (w : World) (ham : a.size ≤ m) (hbig : a.size ≤ 100000) (hsm : (F.cons op n s a .nil).Small) (hft : (F.cons op n s a .nil).Fits) (hp : RdP w a p fa) (hac : a.len ≤ c) (hc : c ≤ 9223372036854775807) :
    Calls Tryz.prog 70 #[.agg #[.int .i64 op, .int .i64 n, .string s, .slice p a.len c]] w (GotNew (simE op n s a) w) := by
  have HS := hid (And.intro hsm hft)
  have hlz := F.len_le_size a
  have EZ := hid (((Ext.refl (S := fun _ => False) w).alloc (.cells #[.int .i64 op, .int .i64 n, .string s, .slice p a.len c] 28)).alloc (.cells #[.int .i64 0, .int .i64 0, .string ⟨#[]⟩, .slice none 0 0] 28))
  have HBZ := hid (show Below w.heap.size w _ from EZ.out.below (Below.refl _ _) (fun _ _ => id))
  obtain ⟨HB, HR⟩ : Hid ((((w.alloc (.cells #[.int .i64 op, .int .i64 n, .string s, .slice p a.len c] 28)).alloc (.cells #[.int .i64 0, .int .i64 0, .string ⟨#[]⟩, .slice none 0 0] 28))).heap[w.heap.size]? = some (.cells #[.int .i64 op, .int .i64 n, .string s, .slice p a.len c] 28 (0, 0))) ∧ Hid ((((w.alloc (.cells #[.int .i64 op, .int .i64 n, .string s, .slice p a.len c] 28)).alloc (.cells #[.int .i64 0, .int .i64 0, .string ⟨#[]⟩, .slice none 0 0] 28))).heap[w.heap.size + 1]? = some (.cells #[.int .i64 0, .int .i64 0, .string ⟨#[]⟩, .slice none 0 0] 28 (0, 0))) := by
    have h1 := heap_new w (.cells #[.int .i64 op, .int .i64 n, .string s, .slice p a.len c] 28)
    have h2 := heap_new (w.alloc (.cells #[.int .i64 op, .int .i64 n, .string s, .slice p a.len c] 28)) (.cells #[.int .i64 0, .int .i64 0, .string ⟨#[]⟩, .slice none 0 0] 28)
    rw [show (w.alloc (.cells #[.int .i64 op, .int .i64 n, .string s, .slice p a.len c] 28)).heap.size = w.heap.size + 1 by simp] at h2
    exact ⟨hid (((Ext.refl (S := fun _ => False) _).alloc _).heap h1 id), hid h2⟩
  have HWi := hid (v_withArgs 70 #[] simE op n s a p c fa ((w.alloc (.cells #[.int .i64 op, .int .i64 n, .string s, .slice p a.len c] 28)).alloc (.cells #[.int .i64 0, .int .i64 0, .string ⟨#[]⟩, .slice none 0 0] 28)) (enters_of Tryz.func70 (by kernel_rfl) rfl) (by omega) (fun k op' n' s' a' r p' c' fa' w' hd _ hp' hl' hc' => by
    have hszk : a'.size + 1 ≤ a.size := by
      have hk : k < a.len := by
        rcases Nat.lt_or_ge k a.len with h | h
        · exact h
        · rw [F.eq_nil_of_len (f := a.drop k) (by rw [F.len_drop]; omega)] at hd; cases hd
      obtain ⟨o2, n2, s2, a2, h2⟩ := F.drop_cons hk
      have h3 := F.size_split k a h2
      rw [h2] at hd
      injection hd with _ _ _ h4 _
      subst h4; omega
    have hsmk := F.small_drop k HS.out.1.2.1
    have hftk := F.fits_drop k HS.out.2.2.2.2.1
    rw [hd] at hsmk hftk
    exact ih op' n' s' a' p' c' fa' w' (by omega) (by omega) ⟨hsmk.1, hsmk.2.1, trivial⟩ ⟨hftk.1, hftk.2.1, hftk.2.2.1, hftk.2.2.2.1, trivial⟩ hp' hl' hc') (hp.ext EZ.out (fun _ _ => id)) hac hc)
  clear hp ih hsm hft
  go_enter Tryz.func70, Tryz.ntmps70
  go_wp2_with fail
  refine HWi.out.mono ?_
  rintro e w3 ⟨⟨o1, n1, s1, a1, p1, c1, f1, rfl, h1, h2, h3, h4, h5⟩, hb3⟩
  have h1' : F.cons op n s (simF a) .nil = .cons o1 n1 s1 a1 .nil := by
    rw [← h1]; congr 1
    have hw : ∀ a : F, wiF simE a = simF a := fun a => by
      induction a with
      | nil => rfl
      | cons op n s b r _ ih => rw [wiF, simF_cons, ih]
    exact (hw a).symm
  obtain ⟨rfl, rfl, rfl, rfl, _⟩ := F.cons.inj h1'
  have E3 := hid (Ext.of_below (S := fun _ => False) hb3)
  have HB3 := hid (E3.out.heap HB.out id)
  have HZ3 := hid (E3.out.heap HR.out id)
  have hz3 : w.heap.size + 1 < w3.heap.size := by
    obtain ⟨⟨z0, _⟩, _⟩ := blk4 HZ3.out
    exact World.block_lt_of_cell? _ _ z0
  have HIn := hid (in_put (op' := op) (n' := n) (s' := s) HB3.out HZ3.out rfl (below_ext HBZ.out E3.out (by simp; omega)) (by omega) h2 h3 h4 (fun b hb => by have := h5 b hb; simp at this; omega))
  have HGo := hid (goes_start HS.out.1 HS.out.2)
  obtain ⟨⟨o0, o1, o2, o3⟩, g0, g1, g2, g3⟩ := blk4 HB3.out
  clear h1 h2 h3 h4 h5 h1' hb3
  generalize simE op n s a = E at *
  go_wp2_with fail
  go_loopg [] ((simF a).size + 1) (fun gh wr => ∃ (op' n' : Int) (s' : ByteArray) (a' : F) (p' : Option Addr) (c' : Nat) (f' : List Nat) (j : Nat), Goes E j op' n' s' a' ∧ InAt w op' n' s' a' p' c' f' wr ∧ gh = a'.size + 1)
  case atStart => exact ⟨_, _, _, _, _, _, _, _, HGo.out, HIn.out, rfl⟩
  case round =>
    obtain ⟨op', n', s', a', p', c', f', j, hgo, hin, hgh⟩ := hrel
    have HGo2 := hid hgo
    have HIn2 := hid hin
    have HGh := hid hgh
    obtain ⟨⟨o0, o1, o2, o3⟩, g0, g1, g2, g3⟩ := blk4 hin.1
    have hzw : w.heap.size + 2 ≤ wr.heap.size := hin.2.2.2.2.2.2.2
    clear hgo hin hgh
    go_wp2_with fail
    refine (v_firstRule op' n' s' a' p' c' f' _ HGo2.out.2.2.1 HGo2.out.2.2.2 HIn2.out.2.2.1 HIn2.out.2.2.2.1 HIn2.out.2.2.2.2.1).mono ?_
    rintro e w6 ⟨⟨o9, n9, s9, a9, p9, c9, f9, rfl, h1, h2, h3, h4, h5⟩, hb6⟩
    have E6 := hid (Ext.of_below (S := fun _ => False) hb6)
    have HIn6 := hid (HIn2.out.ext E6.out)
    have HG := hid (And.intro h1 (And.intro h2 (And.intro h3 (And.intro h4 h5))))
    clear h1 h2 h3 h4 h5 hb6 g0 g1 g2 g3 o0 o1 o2 o3
    generalize hyy : (ruleF op' a').isSome = got
    have HYes := hid hyy
    clear hyy
    obtain ⟨⟨o0, o1, o2, o3⟩, g0, g1, g2, g3⟩ := blk4 HIn6.out.1
    obtain ⟨⟨z0, z1, z2, z3⟩, r0, r1, r2, r3⟩ := blk4 HIn6.out.2.1
    have hz6 : w.heap.size < w6.heap.size := World.block_lt_of_cell? _ _ o0
    have hz61 : w.heap.size + 1 < w6.heap.size := World.block_lt_of_cell? _ _ z0
    cases got with
    | true =>
      obtain ⟨gx, hg⟩ := Option.isSome_iff_exists.1 HYes.out
      have hgx := HG.out.1 gx hg
      obtain ⟨i, hgo, hsz⟩ := goes_step (op' := o9) (n' := n9) (s' := s9) (a' := a9) HGo2.out (by rw [hg, hgx])
      have HGo3 := hid (And.intro hgo hsz)
      have HH := hid ((in_put (op' := o9) (n' := n9) (s' := s9) HIn6.out.1 HIn6.out.2.1 rfl HIn6.out.2.2.2.2.2.2.1 HIn6.out.2.2.2.2.2.2.2 HG.out.2.1 HG.out.2.2.1 HG.out.2.2.2.1 (fun b hb => (HG.out.2.2.2.2 b hb).elim (HIn2.out.2.2.2.2.2.1 b) (fun h => by omega))).ext ((Ext.refl (S := fun _ => False) _).alloc (.cells #[.int .i64 o9, .int .i64 n9, .string s9, .slice p9 a9.len c9] 28)))
      clear hg hgx hgo hsz
      go_wp2_with fail
      go_roundg (a9.size + 1)
      case rel => exact ⟨o9, n9, s9, a9, p9, c9, f9, i, HGo3.out.1, HH.out, rfl⟩
      case measure => have h := HGh.out; have h2 := HGo3.out.2; omega
    | false =>
      have HE := hid (goes_end HGo2.out (by
        have h := HYes.out
        cases hr : ruleF op' a' with
        | none => rfl
        | some _ => rw [hr] at h; cases h))
      go_wp2_with fail
      obtain ⟨W, hW, u0, u1, u2, u3, _, eW⟩ := set4_row (a0 := .int .i64 op') (a1 := .int .i64 n') (a2 := .string s') (a3 := .slice p' a'.len c') (o := .cells #[.int .i64 o9, .int .i64 n9, .string s9, .slice p9 a9.len c9] 28) z0 z1 z2 z3
      rw [hW]
      exact bodyPost_ret (v := .agg #[.int .i64 op', .int .i64 n', .string s', .slice p' a'.len c']) (by simp [results, Tryz.results70, go_sem, u0, u1, u2, u3]) rfl ⟨⟨op', n', s', a', p', c', f', rfl, HE.out, HIn6.out.2.2.1.ext eW (fun b hb e => by have := HIn6.out.2.2.2.2.2.1 b hb; omega), HIn6.out.2.2.2.1, HIn6.out.2.2.2.2.1, fun b hb => by have := HIn6.out.2.2.2.2.2.1 b hb; omega⟩, below_at HIn6.out.2.2.2.2.2.2.1 eW (by omega) (by omega)⟩
theorem v_simple (m : Nat) : ∀ (op n : Int) (s : ByteArray) (a : F) (p : Option Addr) (c : Nat) (fa : List Nat) (w : World), a.size < m → a.size ≤ 100000 → (F.cons op n s a .nil).Small → (F.cons op n s a .nil).Fits → RdP w a p fa → a.len ≤ c → c ≤ 9223372036854775807 →
      Calls Tryz.prog 70 #[.agg #[.int .i64 op, .int .i64 n, .string s, .slice p a.len c]] w (GotNew (simE op n s a) w) := by
  induction m with
  | zero => intro op n s a p c fa w h; omega
  | succ m ih => intro op n s a p c fa w h h1 h2 h3 h4 h5 h6; exact v_simple1 m ih op n s a p c fa w (by omega) h1 h2 h3 h4 h5 h6
end Go.Proofs.YtkgciohebloffaaGreat
/- Expr of package fresh: a copy of an expression in new memory. -/
namespace Go.Proofs.YtkgciohebloffaaGreat
open Go.RowKit

/-- A list of cells that lies in memory from p on, in the words of an append. -/
theorem CellsP.of_rd {w : World} {a : F} {p : Option Addr} {fa : List Nat} (h : RdP w a p fa) : ∃ xs fb, RdV w a xs fb ∧ CellsP w p xs ∧ (∀ b ∈ fb, b ∈ fa) := by
  rcases h with ⟨rfl, rfl⟩ | ⟨b, o, xa, fb, rfl, rfl, h0, hc, hf, hx⟩
  · exact ⟨[], [], ⟨rfl, rfl⟩, .inl rfl, fun _ h => h⟩
  · exact ⟨xa, fb, hx, .inr ⟨b, o, rfl, hc⟩, fun x h => List.mem_cons_of_mem _ h⟩
theorem eqn_none (l c : Nat) (w : World) : Sem.run Tryz.prog (binOp BinOp.eql 26 (.slice none l c) (.slice none 0 0)) w = .ok (.bool true) w := by kernel_rfl
theorem eqn_some (x : Addr) (l c : Nat) (w : World) : Sem.run Tryz.prog (binOp BinOp.eql 26 (.slice (some x) l c) (.slice none 0 0)) w = .ok (.bool false) w := by kernel_rfl

set_option maxRecDepth 100000 in
set_option maxHeartbeats 2000000 in
theorem f_Clone (a : F) (p : Option Addr) (c : Nat) (xs : List Value) (fb : List Nat) (w : World) (hbig : a.len ≤ 100000) (hx : RdV w a xs fb) (hp : CellsP w p xs) (hpn : 0 < a.len → ∃ b o, p = some ⟨b, o, none⟩) :
    Calls Tryz.prog 186 #[.slice p a.len c] w fun e w' => (∃ q cq, e = .returned (.slice q a.len cq) ∧ a.len ≤ cq ∧ cq ≤ maxLen ∧ (a.len = 0 ∨ w'.ownsRow (w.heap.size + 1) 28 4 (.slice q a.len cq) a.len xs)) ∧ Below w.heap.size w w' := by
  obtain ⟨i0, hi0, hz0, hz1, hz2⟩ := info_parts info_expr
  cases p with
  | none =>
    have h0 : a.len = 0 := by
      rcases Nat.eq_zero_or_pos a.len with h | h
      · exact h
      · obtain ⟨b, o, h'⟩ := hpn h; cases h'
    have HE := hid h0
    have hq := eqn_none a.len c
    clear hpn hx hp h0
    go_enter Tryz.func186, Tryz.ntmps186
    go_wp2_with fail
    go_ret
    exact ⟨⟨none, 0, by rw [HE.out]; rfl, by rw [HE.out]; exact Nat.le_refl _, by decide, .inl HE.out⟩, Below.refl _ _⟩
  | some x =>
    have hq := eqn_some x a.len c
    have E1 := (Ext.refl (S := fun _ => False) w).alloc (.cells #[] 28)
    obtain ⟨q', c', w4, hr, _, hg4, hle, hcm, hcase⟩ := run_app_full (P := Tryz.prog) (w.alloc (.cells #[] 28)) 26 26 28 i0 _ 4 56 Tryz.underlying26 hi0 hz0 hz1 hz2 rfl (by decide) (some ⟨w.heap.size, 0, none⟩) 0 [] rfl (.inl rfl) (some x) a.len c xs (by rw [hx.length]; omega) (hp.ext E1 (fun _ _ => id)) hx.one (by unfold maxLen; omega) (by omega)
    rw [Nat.zero_add] at hr hle
    have HR := hid hr
    have E4 := hid (E1.trans ((Ext.refl (S := fun _ => False) _).grown hg4 (fun _ h => by cases h)))
    have HC := hid (show a.len ≤ c' ∧ c' ≤ maxLen ∧ (a.len = 0 ∨ w4.ownsRow (w.heap.size + 1) 28 4 (.slice q' a.len c') a.len xs) from ⟨hle, hcm, by
      rcases hcase with ⟨_, h⟩ | ⟨h, _⟩
      · right
        rw [show (w.alloc (.cells #[] 28)).heap.size = w.heap.size + 1 by simp] at h
        simpa using h
      · exact .inl h⟩)
    clear hx hp hpn hr hg4 hle hcm hcase E1
    go_enter Tryz.func186, Tryz.ntmps186
    go_wp2_with (at_builtin; refine wpList_app _ rfl _ _ 26 rfl _ _ _ _ rfl rfl HR.out ?_)
    go_wp2_with fail
    go_ret
    exact ⟨⟨q', c', rfl, HC.out⟩, E4.out.below (Below.refl _ _) (fun _ _ => id)⟩
end Go.Proofs.YtkgciohebloffaaGreat
