/- Upper and lower case; keywords. -/
import Derived.Test.YtdkkflmhpncglaaDoorLxs
import Derived.Lib.TrimAscii
import Derived.Lib.MapLaws
namespace Go.Proofs.YtdkkflmhpncglaaDoor
open Go.ChangeShapes Go.WideShapes Go.ChangeAt Go.RowKit Go.ChangeMaps

/-- What the library reads. -/
structure LEnv (w : World) : Prop where
  max : ∃ m, w.cell? ⟨0, 0, none⟩ = some (.int .i64 m)
  tabs : Lib.Utf8Tabs 1 2 w
theorem LEnv.below {w w' : World} (h : LEnv w) (hb : Below w.heap.size w w') : LEnv w' := ⟨h.max.imp fun _ hm => keepcell hb hm, Utf8Tabs_below h.tabs hb⟩
def upF (c : Int) : Int := if 97 ≤ c ∧ c ≤ 122 then c - 32 else c
def loF (c : Int) : Int := if 65 ≤ c ∧ c ≤ 90 then c + 32 else c
def upB (c : UInt8) : UInt8 := if 97 ≤ c.toNat ∧ c.toNat ≤ 122 then c - 32 else c
def loB (c : UInt8) : UInt8 := if 65 ≤ c.toNat ∧ c.toNat ≤ 90 then c + 32 else c
set_option maxRecDepth 100000 in
set_option maxHeartbeats 1000000 in
theorem upFn_any (x : Nat) (hx : x ≤ 1114111) (w : World) : Calls Tryd.prog 49 #[.int .i32 (x : Int)] w fun e w' => e = .returned (.int .i32 (upF x)) ∧ w' = w := by
  by_cases h1 : (97 : Int) ≤ x
  · by_cases h2 : (x : Int) ≤ 122
    · have HF := Lib.hid (show upF x = (x : Int) - 32 by unfold upF; rw [if_pos ⟨h1, h2⟩])
      have d1 : decide ((97 : Int) ≤ x) = true := decide_eq_true h1
      have d2 : decide ((x : Int) ≤ 122) = true := decide_eq_true h2
      go_enter Tryd.func49, Tryd.ntmps49
      go_wp2
      go_ret
      exact ⟨ret_int (by rw [HF.out]; omega), rfl⟩
    · have HF := Lib.hid (show upF x = (x : Int) by unfold upF; rw [if_neg (by omega)])
      have d1 : decide ((97 : Int) ≤ x) = true := decide_eq_true h1
      have d2 : decide ((x : Int) ≤ 122) = false := decide_eq_false h2
      go_enter Tryd.func49, Tryd.ntmps49
      go_wp2
      go_ret
      exact ⟨ret_int (by rw [HF.out]), rfl⟩
  · have HF := Lib.hid (show upF x = (x : Int) by unfold upF; rw [if_neg (by omega)])
    have d1 : decide ((97 : Int) ≤ x) = false := decide_eq_false h1
    go_enter Tryd.func49, Tryd.ntmps49
    go_wp2
    go_ret
    exact ⟨ret_int (by rw [HF.out]), rfl⟩
set_option maxRecDepth 100000 in
set_option maxHeartbeats 1000000 in
theorem loFn_any (x : Nat) (hx : x ≤ 1114111) (w : World) : Calls Tryd.prog 65 #[.int .i32 (x : Int)] w fun e w' => e = .returned (.int .i32 (loF x)) ∧ w' = w := by
  by_cases h1 : (65 : Int) ≤ x
  · by_cases h2 : (x : Int) ≤ 90
    · have HF := Lib.hid (show loF x = (x : Int) + 32 by unfold loF; rw [if_pos ⟨h1, h2⟩])
      have d1 : decide ((65 : Int) ≤ x) = true := decide_eq_true h1
      have d2 : decide ((x : Int) ≤ 90) = true := decide_eq_true h2
      go_enter Tryd.func65, Tryd.ntmps65
      go_wp2
      go_ret
      exact ⟨ret_int (by rw [HF.out]; omega), rfl⟩
    · have HF := Lib.hid (show loF x = (x : Int) by unfold loF; rw [if_neg (by omega)])
      have d1 : decide ((65 : Int) ≤ x) = true := decide_eq_true h1
      have d2 : decide ((x : Int) ≤ 90) = false := decide_eq_false h2
      go_enter Tryd.func65, Tryd.ntmps65
      go_wp2
      go_ret
      exact ⟨ret_int (by rw [HF.out]), rfl⟩
  · have HF := Lib.hid (show loF x = (x : Int) by unfold loF; rw [if_neg (by omega)])
    have d1 : decide ((65 : Int) ≤ x) = false := decide_eq_false h1
    go_enter Tryd.func65, Tryd.ntmps65
    go_wp2
    go_ret
    exact ⟨ret_int (by rw [HF.out]), rfl⟩
set_option maxRecDepth 100000 in
set_option maxHeartbeats 1000000 in
theorem Upper_any (s : ByteArray) (w : World) (hs : s.size ≤ 100000) (hE : LEnv w) : Calls Tryd.prog 30 #[.string s] w fun e w' => e = .returned (.string ⟨(Lib.mapD upF (lst s)).toArray⟩) ∧ Below w.heap.size w w' := by
  have CM := Lib.hid (Tryd.strings_Map_runes 49 #[] (fun args w => rfl) upF s w (by omega) (fun W x hx _ => (upFn_any x hx W).mono fun e w' ⟨h1, h2⟩ => ⟨h1, 0, by rw [h2]; rfl⟩) (fun x hx => by unfold upF; split <;> omega) hE.tabs)
  go_enter Tryd.func30, Tryd.ntmps30
  go_wp2_with fail
  refine CM.out.mono ?_
  rintro e w2 ⟨rfl, hb⟩
  have HB := Lib.hid hb
  clear hb CM
  go_wp2
  go_ret
  exact ⟨rfl, HB.out⟩
set_option maxRecDepth 100000 in
set_option maxHeartbeats 1000000 in
theorem Lower_any (s : ByteArray) (w : World) (hs : s.size ≤ 100000) (hE : LEnv w) : Calls Tryd.prog 54 #[.string s] w fun e w' => e = .returned (.string ⟨(Lib.mapD loF (lst s)).toArray⟩) ∧ Below w.heap.size w w' := by
  have CM := Lib.hid (Tryd.strings_Map_runes 65 #[] (fun args w => rfl) loF s w (by omega) (fun W x hx _ => (loFn_any x hx W).mono fun e w' ⟨h1, h2⟩ => ⟨h1, 0, by rw [h2]; rfl⟩) (fun x hx => by unfold loF; split <;> omega) hE.tabs)
  go_enter Tryd.func54, Tryd.ntmps54
  go_wp2_with fail
  refine CM.out.mono ?_
  rintro e w2 ⟨rfl, hb⟩
  have HB := Lib.hid hb
  clear hb CM
  go_wp2
  go_ret
  exact ⟨rfl, HB.out⟩
theorem enc_one {z : Int} (h0 : 0 ≤ z) (h1 : z ≤ 127) : Lib.encodeRune z = [z.toNat.toUInt8] := by
  unfold Lib.encodeRune
  rw [Lib.encodeRuneZ_one h0 h1]
  rfl
theorem map_up : ∀ (l : List UInt8), (∀ c ∈ l, c.toNat < 128) → Lib.mapD upF l = l.map upB
  | [], _ => rfl
  | c :: l, h => by
    have hc := h c (by simp)
    rw [Lib.mapD_step upF _ (by simp), Lib.decodeL_ascii c l hc]
    show (if 0 ≤ upF (c.toNat : Int) then Lib.encodeRune (upF (c.toNat : Int)) else []) ++ Lib.mapD upF l = upB c :: l.map upB
    rw [map_up l (fun d hd => h d (by simp [hd]))]
    have hb : 0 ≤ upF (c.toNat : Int) ∧ upF (c.toNat : Int) ≤ 127 := by unfold upF; split <;> omega
    rw [if_pos hb.1, enc_one hb.1 hb.2]
    show _ :: _ = _
    congr 1
    rw [← UInt8.toNat_inj]
    unfold upF upB
    by_cases g : 97 ≤ c.toNat ∧ c.toNat ≤ 122
    · rw [if_pos (by omega), if_pos g, UInt8.toNat_sub_of_le _ _ (by rw [UInt8.le_iff_toNat_le]; show 32 ≤ c.toNat; omega)]
      show ((c.toNat : Int) - 32).toNat.toUInt8.toNat = c.toNat - 32
      rw [show ((c.toNat : Int) - 32).toNat = c.toNat - 32 by omega]
      show (c.toNat - 32) % 256 = _
      omega
    · rw [if_neg (by omega), if_neg g]
      show (c.toNat : Int).toNat % 256 = _
      omega
theorem map_lo : ∀ (l : List UInt8), (∀ c ∈ l, c.toNat < 128) → Lib.mapD loF l = l.map loB
  | [], _ => rfl
  | c :: l, h => by
    have hc := h c (by simp)
    rw [Lib.mapD_step loF _ (by simp), Lib.decodeL_ascii c l hc]
    show (if 0 ≤ loF (c.toNat : Int) then Lib.encodeRune (loF (c.toNat : Int)) else []) ++ Lib.mapD loF l = loB c :: l.map loB
    rw [map_lo l (fun d hd => h d (by simp [hd]))]
    have hb : 0 ≤ loF (c.toNat : Int) ∧ loF (c.toNat : Int) ≤ 127 := by unfold loF; split <;> omega
    rw [if_pos hb.1, enc_one hb.1 hb.2]
    show _ :: _ = _
    congr 1
    rw [← UInt8.toNat_inj]
    unfold loF loB
    by_cases g : 65 ≤ c.toNat ∧ c.toNat ≤ 90
    · rw [if_pos (by omega), if_pos g, UInt8.toNat_add]
      show ((c.toNat : Int) + 32).toNat % 256 = (c.toNat + 32) % 256
      congr 1
    · rw [if_neg (by omega), if_neg g]
      show (c.toNat : Int).toNat % 256 = _
      omega
end Go.Proofs.YtdkkflmhpncglaaDoor
