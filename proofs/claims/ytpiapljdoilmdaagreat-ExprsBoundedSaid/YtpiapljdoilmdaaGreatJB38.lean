/- Texts joined: Table. -/
import Derived.Test.YtpiapljdoilmdaaGreatJB37
import Derived.Maps.Own
import Derived.Maps.OwnOps
import Derived.Maps.Views
/- Table: variables by their names, the reference's. -/
namespace Go.Proofs.YtpiapljdoilmdaaGreat
open Go.RowKit Go.WideMaps Go.Maps

theorem klaw : Keyed Tryz.prog 9 := string_keyed Tryz.underlying9
theorem kzero (w : World) : (zeroValue 3).run Tryz.prog w = .ok (.int .i64 0) w := by kernel_rfl

def tabD (L : List (ByteArray × Int)) : DataW Unit := L.foldl (fun D x => D.put (.string x.1.data.toList) (.lit (.int .i64 x.2))) (.map [])
/-- The value of a variable: the last one of its name. -/
def valL (s : List UInt8) (L : List (ByteArray × Int)) : Int := L.foldl (fun v x => if x.1.data.toList = s then x.2 else v) 0

theorem tab_step (L : List (ByteArray × Int)) (k : Nat) (x : ByteArray × Int) (h : L[k]? = some x) : tabD (L.take (k + 1)) = (tabD (L.take k)).put (.string x.1.data.toList) (.lit (.int .i64 x.2)) := by
  unfold tabD
  rw [List.take_add_one, h, List.foldl_append]
  rfl

set_option maxRecDepth 100000 in
set_option maxHeartbeats 2000000 in
theorem r_Table (L : List (ByteArray × Int)) (lp : Option Addr) (lc : Nat) (w : World) (hp : SlP w L lp) (_hlc : L.length ≤ lc) (_hlm : lc ≤ maxLen) (h4 : L.length ≤ 4) (hok : ∀ x ∈ L, SlOk x) :
    Calls Tryz.prog 16 #[.slice lp L.length lc] w fun e w' => e = .returned (.map (some w.heap.size)) ∧ w'.ownsMap Tryz.prog 9 (plainElem (H := Unit) Tryz.prog 3) w.heap.size L.length (tabD L) ∧ Below w.heap.size w w' := by
  have HP := hid hp
  have HK := hid hok
  have hmm := @run_makeMap Tryz.prog
  clear hp hok
  go_enter Tryz.func16, Tryz.ntmps16
  go_wp2_with fail
  go_loopw [9] (fun i wr => ∃ k : Nat, k ≤ L.length ∧ i = .int .i64 k ∧ wr.ownsMap Tryz.prog 9 (plainElem (H := Unit) Tryz.prog 3) w.heap.size k (tabD (L.take k)) ∧ Below w.heap.size w wr) (fun i _ => L.length - (intOf i).toNat)
  case atStart => exact ⟨0, by omega, rfl, World.ownsMap_made _ _ _ _, (Below.refl _ _).alloc (Nat.le_refl _) _⟩
  case round =>
    obtain ⟨k, hk, rfl, hown, hbl⟩ := hrel
    have HO := hid hown
    have HB := hid hbl
    have hzr : w.heap.size ≤ wr.heap.size := hbl.size
    have hbw : w.heap.size < wr.heap.size := hown.lt
    clear hown hbl
    by_cases hlt : k < L.length
    · rcases HP.out with h0 | ⟨b, rfl, hat⟩
      · rw [h0] at hlt; simp at hlt
      have HA := hid (hat.ext (S := fun _ => False) (Ext.of_below HB.out) id)
      obtain ⟨c0, c1⟩ := HA.out k _ (List.getElem?_eq_getElem hlt)
      have HX := hid (List.getElem?_eq_getElem hlt)
      have HKx := hid (HK.out _ (List.getElem_mem hlt))
      generalize L[k] = x at c0 c1 HX HKx
      obtain ⟨x1, x2⟩ := x
      dsimp only at c0 c1
      have hv : -1099511627776 ≤ x2 ∧ x2 ≤ 1099511627776 := HKx.out.2
      have hkey : keyOf Tryz.prog 9 (.string x1) = some (.string x1.data.toList) := keyOf_string_mk Tryz.underlying9 (by have := HKx.out.1; unfold maxLen; dsimp only at this; omega)
      have hwf := WalkArith.wf_i64 (n := x2) (by omega)
      go_wp2_with (at_mapUpdate; refine wpList_mapUpdate_own _ rfl _ _ _ 43 rfl 9 3 klaw Tryz.underlying43 _ w.heap.size k _ rfl (HO.out.alloc _) (by unfold maxLen; omega) _ _ _ rfl rfl hkey _ [] (plainElem_int Tryz.underlying3 hwf) ?_; intro w1 hown1 hgrow1)
      have R1 := (tab_step L k (x1, x2) HX.out).symm ▸ hown1
      have R2 := (HB.out.alloc hzr (.cells #[.string x1, .int .i64 x2] 86)).grown hgrow1 (by simp; omega) (fun j hj => by cases hj; exact Nat.le_refl _)
      clear hown1 hgrow1
      go_wp2_with fail
      go_roundw
      case rel => exact ⟨k + 1, by omega, by go_num, R1, R2⟩
      case measure => simp [intOf]; omega
    · have hkl : k = L.length := by omega
      subst hkl
      go_wp2_with fail
      go_ret
      exact ⟨rfl, by have := HO.out; rwa [List.take_length] at this, HB.out⟩
theorem tab_at (s : List UInt8) : ∀ (L : List (ByteArray × Int)) (D : DataW Unit) (v : Int), IsMap D → D.atKey (.string s) (.lit (.int .i64 0)) = .lit (.int .i64 v) →
    (L.foldl (fun D x => D.put (.string x.1.data.toList) (.lit (.int .i64 x.2))) D).atKey (.string s) (.lit (.int .i64 0)) = .lit (.int .i64 (L.foldl (fun v x => if x.1.data.toList = s then x.2 else v) v))
  | [], _, _, _, h => h
  | x :: r, D, v, hD, h => by
    simp only [List.foldl_cons]
    by_cases e : x.1.data.toList = s
    · subst e
      rw [if_pos rfl]
      exact tab_at _ r _ _ (hD.put _ _) (atKey_put_same hD (show WideAt.IsKeyLit (.string x.1.data.toList) from trivial) _ _)
    · rw [if_neg e]
      exact tab_at s r _ _ (hD.put _ _) ((atKey_put_other (by intro k; exact e (Lit.string.inj k).symm) _ _).trans h)
theorem tabD_at (s : List UInt8) (L : List (ByteArray × Int)) : (tabD L).atKey (.string s) (.lit (.int .i64 0)) = .lit (.int .i64 (valL s L)) := tab_at s L _ _ isMap_empty rfl
end Go.Proofs.YtpiapljdoilmdaaGreat
