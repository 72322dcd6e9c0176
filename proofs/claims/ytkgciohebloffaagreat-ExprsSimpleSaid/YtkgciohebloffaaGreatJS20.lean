/- Texts joined: Name. -/
import Derived.Test.YtkgciohebloffaaGreatJS07
/- isName (package script): says whether a string is a name. -/
namespace Go.Proofs.YtkgciohebloffaaGreat
open Go.RowKit

set_option maxHeartbeats 400000 in
theorem p_small (c : Int) (w : World) : Calls Tryz.prog 117 #[.int .u8 c] w fun e w' => e = .returned (.bool (decide (97 ≤ c ∧ c ≤ 122))) ∧ w = w' := by
  by_cases h1 : 97 ≤ c
  · go_enter Tryz.func117, Tryz.ntmps117
    go_wp2
    go_ret
    exact ⟨by simp [h1], rfl⟩
  · have h2 : decide (97 ≤ c) = false := by simpa using h1
    go_enter Tryz.func117, Tryz.ntmps117
    go_wp2
    go_ret
    exact ⟨by simp, rfl⟩

set_option maxHeartbeats 400000 in
theorem p_digit (c : Int) (w : World) : Calls Tryz.prog 119 #[.int .u8 c] w fun e w' => e = .returned (.bool (decide (48 ≤ c ∧ c ≤ 57))) ∧ w = w' := by
  by_cases h1 : 48 ≤ c
  · go_enter Tryz.func119, Tryz.ntmps119
    go_wp2
    go_ret
    exact ⟨by simp [h1], rfl⟩
  · have h2 : decide (48 ≤ c) = false := by simpa using h1
    go_enter Tryz.func119, Tryz.ntmps119
    go_wp2
    go_ret
    exact ⟨by simp, rfl⟩

theorem p_small_b (c : Int) (b : Bool) (hb : decide (97 ≤ c ∧ c ≤ 122) = b) (w : World) : Calls Tryz.prog 117 #[.int .u8 c] w fun e w' => e = .returned (.bool b) ∧ w = w' := by subst hb; exact p_small c w
theorem p_digit_b (c : Int) (b : Bool) (hb : decide (48 ≤ c ∧ c ≤ 57) = b) (w : World) : Calls Tryz.prog 119 #[.int .u8 c] w fun e w' => e = .returned (.bool b) ∧ w = w' := by subst hb; exact p_digit c w


set_option maxHeartbeats 400000 in
theorem p_reserved (s : ByteArray) (b : Bool) (hb : reserved s.data.toList = b) (w : World) : Calls Tryz.prog 118 #[.string s] w fun e w' => e = .returned (.bool b) ∧ w = w' := by
  rw [← ByteArray.toList_eq] at hb
  have HB := hid hb
  clear hb
  have hc : (s.toList == [112, 114, 111, 99]) = true ∨ ((s.toList == [112, 114, 111, 99]) = false ∧ (s.toList == [109, 97, 105, 110]) = true) ∨ ((s.toList == [112, 114, 111, 99]) = false ∧ (s.toList == [109, 97, 105, 110]) = false ∧ (s.toList == [105, 102]) = true) ∨ ((s.toList == [112, 114, 111, 99]) = false ∧ (s.toList == [109, 97, 105, 110]) = false ∧ (s.toList == [105, 102]) = false ∧ (s.toList == [101, 108, 115, 101]) = true) ∨ ((s.toList == [112, 114, 111, 99]) = false ∧ (s.toList == [109, 97, 105, 110]) = false ∧ (s.toList == [105, 102]) = false ∧ (s.toList == [101, 108, 115, 101]) = false) := by
    cases (s.toList == [112, 114, 111, 99]) <;> cases (s.toList == [109, 97, 105, 110]) <;> cases (s.toList == [105, 102]) <;> cases (s.toList == [101, 108, 115, 101]) <;> simp
  rcases hc with h1 | ⟨h1, h2⟩ | ⟨h1, h2, h3⟩ | ⟨h1, h2, h3, h4⟩ | ⟨h1, h2, h3, h4⟩
  · go_enter Tryz.func118, Tryz.ntmps118
    go_wp2
    go_ret
    exact ⟨ret_bool (by rw [← HB.out, reserved, h1]; rfl), rfl⟩
  · go_enter Tryz.func118, Tryz.ntmps118
    go_wp2
    go_ret
    exact ⟨ret_bool (by rw [← HB.out, reserved, h1, h2]; rfl), rfl⟩
  · go_enter Tryz.func118, Tryz.ntmps118
    go_wp2
    go_ret
    exact ⟨ret_bool (by rw [← HB.out, reserved, h1, h2, h3]; rfl), rfl⟩
  · go_enter Tryz.func118, Tryz.ntmps118
    go_wp2
    go_ret
    exact ⟨ret_bool (by rw [← HB.out, reserved, h1, h2, h3, h4]; rfl), rfl⟩
  · go_enter Tryz.func118, Tryz.ntmps118
    go_wp2
    go_ret
    exact ⟨ret_bool (by rw [← HB.out, reserved, h1, h2, h3, h4]; rfl), rfl⟩

set_option maxRecDepth 100000 in
set_option maxHeartbeats 1000000 in
theorem p_isName (s : ByteArray) (b : Bool) (hb : nameB s.data.toList = b) (w : World) (hs : s.size ≤ 9223372036854775807) : Calls Tryz.prog 72 #[.string s] w fun e w' => e = .returned (.bool b) ∧ w = w' := by
  have HB := hid hb
  clear hb
  by_cases h0 : s.size < 1
  · go_enter Tryz.func72, Tryz.ntmps72
    go_wp2_with fail
    go_ret
    exact ⟨ret_bool (by rw [← HB.out, nameB, size_data, decide_eq_false (by omega)]; rfl), rfl⟩
  by_cases h1 : 40 < s.size
  · go_enter Tryz.func72, Tryz.ntmps72
    go_wp2_with fail
    go_ret
    exact ⟨ret_bool (by rw [← HB.out, nameB, size_data, decide_eq_false (show ¬ s.size ≤ 40 by omega)]; simp), rfl⟩
  have hp : 0 < s.size := by omega
  have HN : Hid (nameB s.data.toList = (isSm s[0] && !reserved s.data.toList && s.data.toList.all isWb)) := hid (by
    rw [nameB, size_data, head_byte s hp, decide_eq_true (show 1 ≤ s.size by omega), decide_eq_true (show s.size ≤ 40 by omega)]; simp)
  by_cases h2 : isSm s[0] = true
  · by_cases h3 : reserved s.data.toList = true
    · have H2 := hid h2
      have H3 := hid h3
      clear h2 h3
      go_enter Tryz.func72, Tryz.ntmps72
      go_wp2_with fail
      refine (p_small_b _ true ((isSm_int s[0]).trans H2.out) _).mono ?_
      rintro e w' ⟨rfl, rfl⟩
      go_wp2_with fail
      refine (p_reserved s true H3.out _).mono ?_
      rintro e w' ⟨rfl, rfl⟩
      go_wp2_with fail
      go_ret
      exact ⟨ret_bool (by rw [← HB.out, HN.out, H3.out]; simp), rfl⟩
    · have H2 := hid h2
      have H3 := hid (show reserved s.data.toList = false by simpa using h3)
      clear h2 h3
      go_enter Tryz.func72, Tryz.ntmps72
      go_wp2_with fail
      refine (p_small_b _ true ((isSm_int s[0]).trans H2.out) _).mono ?_
      rintro e w' ⟨rfl, rfl⟩
      go_wp2_with fail
      refine (p_reserved s false H3.out _).mono ?_
      rintro e w' ⟨rfl, rfl⟩
      go_wp2_with fail
      go_loop [24] (fun i => ∃ k : Nat, k ≤ s.size ∧ i = .int .i64 k ∧ (s.data.toList.take k).all isWb = true) (fun i => s.size - (intOf i).toNat)
      case atStart => exact ⟨0, by omega, rfl, by simp⟩
      case round =>
        obtain ⟨k, hk, rfl, hall⟩ := hrel
        have HA := hid hall
        clear hall
        by_cases hlt : k < s.size
        · have HG : ∀ r, isWb s[k] = r → Hid (isWb s[k] = r) := fun r h => hid h
          by_cases g1 : isSm s[k] = true
          · have G1 := hid g1
            have HW := hid (show isWb s[k] = true by simp [isWb, g1])
            clear g1 HG
            go_wp2_with fail
            refine (p_small_b _ true ((isSm_int s[k]).trans G1.out) _).mono ?_
            rintro e w' ⟨rfl, rfl⟩
            go_wp2_with fail
            go_round
            case rel => exact ⟨k + 1, by omega, by go_num, all_step _ s k hlt HA.out HW.out⟩
            case measure => simp [intOf]; omega
          · have G1 := hid (show isSm s[k] = false by simpa using g1)
            clear HG
            by_cases g2 : isDg s[k] = true
            · have G2 := hid g2
              have HW := hid (show isWb s[k] = true by simp [isWb, g2])
              clear g1 g2
              go_wp2_with fail
              refine (p_small_b _ false ((isSm_int s[k]).trans G1.out) _).mono ?_
              rintro e w' ⟨rfl, rfl⟩
              go_wp2_with fail
              refine (p_digit_b _ true ((isDg_int s[k]).trans G2.out) _).mono ?_
              rintro e w' ⟨rfl, rfl⟩
              go_wp2_with fail
              go_round
              case rel => exact ⟨k + 1, by omega, by go_num, all_step _ s k hlt HA.out HW.out⟩
              case measure => simp [intOf]; omega
            · have G2 := hid (show isDg s[k] = false by simpa using g2)
              by_cases g3 : s[k].toNat = 95
              · have HW := hid (show isWb s[k] = true by simp [isWb, g3])
                have g4 : ((s[k].toNat : Int) != 95) = false := by simp; omega
                clear g1 g2 g3
                go_wp2_with fail
                refine (p_small_b _ false ((isSm_int s[k]).trans G1.out) _).mono ?_
                rintro e w' ⟨rfl, rfl⟩
                go_wp2_with fail
                refine (p_digit_b _ false ((isDg_int s[k]).trans G2.out) _).mono ?_
                rintro e w' ⟨rfl, rfl⟩
                go_wp2_with fail
                go_round
                case rel => exact ⟨k + 1, by omega, by go_num, all_step _ s k hlt HA.out HW.out⟩
                case measure => simp [intOf]; omega
              · have HW := hid (show isWb s[k] = false by simp [isWb, G1.out, G2.out, g3])
                have g4 : ((s[k].toNat : Int) != 95) = true := by simp; omega
                clear g1 g2 g3
                go_wp2_with fail
                refine (p_small_b _ false ((isSm_int s[k]).trans G1.out) _).mono ?_
                rintro e w' ⟨rfl, rfl⟩
                go_wp2_with fail
                refine (p_digit_b _ false ((isDg_int s[k]).trans G2.out) _).mono ?_
                rintro e w' ⟨rfl, rfl⟩
                go_wp2_with fail
                go_ret
                exact ⟨ret_bool (by rw [← HB.out, HN.out, all_stop _ s k hlt HW.out]; simp), rfl⟩
        · go_wp2_with fail
          go_ret
          exact ⟨ret_bool (by rw [← HB.out, HN.out, H2.out, H3.out, all_end _ s k (by omega) HA.out]; rfl), rfl⟩
  · have H2 := hid (show isSm s[0] = false by simpa using h2)
    clear h2
    go_enter Tryz.func72, Tryz.ntmps72
    go_wp2_with fail
    refine (p_small_b _ false ((isSm_int s[0]).trans H2.out) _).mono ?_
    rintro e w' ⟨rfl, rfl⟩
    go_wp2_with fail
    go_ret
    exact ⟨ret_bool (by rw [← HB.out, HN.out, H2.out]; rfl), rfl⟩

end Go.Proofs.YtkgciohebloffaaGreat
