/- Digits times a digit, plus a digit, in place. -/
import Derived.Test.YtndkcimdbidgaaaDoorBtr
namespace Go.Proofs.YtndkcimdbidgaaaDoor
open Go.ChangeShapes Go.WideShapes Go.ChangeAt Go.RowKit Go.ChangeMaps

def dcl (D : List Nat) : List Value := D.map fun (d : Nat) => Value.int .u32 (d : Int)
theorem dcl_len (D : List Nat) : (dcl D).length = D.length := by simp [dcl]
theorem dcl_get {D : List Nat} {i d : Nat} (h : D[i]? = some d) : (dcl D)[i]? = some (.int .u32 (d : Int)) := by simp [dcl, h]
theorem dcl_set (D : List Nat) (i d : Nat) : (dcl D).set i (.int .u32 (d : Int)) = dcl (D.set i d) := by simp [dcl, List.map_set]
theorem own_set {w : World} {b e n i : Nat} {v : Value} {xs : List Value} (h : w.ownsRow b e 1 v n xs) (hi : i < n) : ∃ g cap, v = .slice (some ⟨g, 0, none⟩) n cap ∧ b ≤ g ∧ w.cell? ⟨g, i, none⟩ = xs[i]? ∧ w.frozen? ⟨g, i, none⟩ = false ∧
    ∀ u, (w.setCell ⟨g, i, none⟩ u).ownsRow b e 1 v n (xs.set i u) ∧ ∀ B w0, Below B w0 w → B ≤ b → Below B w0 (w.setCell ⟨g, i, none⟩ u) := by
  have h0 := h
  rcases h.2 with ⟨_, hl⟩ | ⟨g, cap, cur, rfl, hg, hh, hnc, hcap, hsz, htake⟩
  · omega
  · refine ⟨g, cap, rfl, hg, World.ownsRow.cellAt h0 i (by omega), Joins.unfrozen_of_block hh _, fun u => ⟨⟨by rw [List.length_set]; exact h.1, .inr ⟨g, cap, cur.setIfInBounds i u, rfl, hg, Joins.block_setCell hh _, hnc, hcap, by simpa using hsz, ?_⟩⟩, fun B w0 hB hb => (store_step (show Blk w g e cur from hh) i u).2.2 B w0 hB (by omega)⟩⟩
    rw [← htake]
    simp [List.take_set]
theorem tp_round {B : Nat} (R D : List Nat) (i c x m t : Nat) (hi : i < R.length) (hx : D.getD i 0 = x) (ht : t = c + x * m) {nn : Nat} (h : dv B (R.take i) + B ^ i * c = dv B (D.take i) * m + nn) : dv B ((R.set i (t % B)).take (i + 1)) + B ^ (i + 1) * (t / B) = dv B (D.take (i + 1)) * m + nn := by
  rw [set_step B R i _ hi, dv_take_getD, hx, Nat.pow_succ]
  have := carry_step B (B ^ i) (dv B (R.take i)) c _ (x * m) t ht h
  rw [this, Nat.add_mul, Nat.mul_assoc]
  omega
theorem dcl_one (D : List Nat) : ∀ u ∈ dcl D, u.oneCell' = true := by
  intro u hu
  obtain ⟨x, _, rfl⟩ := List.mem_map.1 hu
  rfl
set_option maxRecDepth 100000 in
set_option maxHeartbeats 4000000 in
theorem timesPlus_any (v : Value) (n : Nat) (D : List Nat) (b0 m nn : Nat) (w : World) (h : w.ownsRow b0 47 1 v n (dcl D)) (hDk : dok 4294967296 D) (hn : n ≤ 100000) (hm : m < 4294967296) (hnn : nn < 4294967296) (hb0 : b0 ≤ w.heap.size) :
    Calls Tryd.prog 68 #[v, .int .u32 (m : Int), .int .u32 (nn : Int)] w fun e w' => ∃ v' R, e = .returned v' ∧ w'.ownsRow b0 47 1 v' R.length (dcl R) ∧ dok 4294967296 R ∧ dv 4294967296 R = dv 4294967296 D * m + nn ∧ R.length = n + 1 ∧ Below b0 w w' := by
  obtain ⟨i0, hi, hz0, hz1, hz2⟩ := info_parts (show (Tryd.prog.info? 47).map (fun i => (i.zero, i.size, i.bytes)) = some (some (.int .u32 0), 1, 4) by kernel_rfl)
  have HL := Lib.hid (show D.length = n by have := h.1; rw [dcl_len] at this; omega)
  have HD := Lib.hid hDk
  have HO := Lib.hid h
  have hmI : (m : Int) < 4294967296 := by omega
  have hnI : (nn : Int) < 4294967296 := by omega
  have HB0 := Lib.hid hb0
  have hv : ∃ A cap, v = .slice A n cap := by
    rcases h.2 with ⟨rfl, rfl⟩ | ⟨g, cap, cur, rfl, _⟩
    · exact ⟨_, _, rfl⟩
    · exact ⟨_, _, rfl⟩
  obtain ⟨A, cap, rfl⟩ := hv
  clear h hDk hb0
  go_enter Tryd.func68, Tryd.ntmps68
  go_wp2
  go_loopw [7, 14] (fun s7 s14 wr => ∃ (i c : Nat) (T : List Nat), s7 = .int .u64 (c : Int) ∧ s14 = .int .i64 (i : Int) ∧ i ≤ n ∧ c < 4294967296 ∧ T.length = n ∧ dok 4294967296 T ∧ T.drop i = D.drop i ∧ dv 4294967296 (T.take i) + 4294967296 ^ i * c = dv 4294967296 (D.take i) * m + nn ∧ wr.ownsRow b0 47 1 (.slice A n cap) n (dcl T) ∧ Below b0 w wr ∧ b0 ≤ wr.heap.size) (fun _ s14 _ => n - (intOf s14).toNat)
  case atStart => exact ⟨0, nn, D, rfl, rfl, Nat.zero_le _, hnn, HL.out, HD.out, rfl, by simp [dv], HO.out, Below.refl _ _, HB0.out⟩
  case round =>
    obtain ⟨i, c, T, rfl, rfl, hin, hc, hTl, hTd, hdr, hinv, ho, hb, hsz⟩ := hrel
    have HI := Lib.hid hinv
    have HT := Lib.hid hTd
    have HTL := Lib.hid hTl
    have HDR := Lib.hid hdr
    have HOW := Lib.hid ho
    have HBW := Lib.hid hb
    have HSZ := Lib.hid hsz
    clear hinv hTd hTl hdr ho hb hsz HO HB0
    have hcI : (c : Int) < 4294967296 := by omega
    by_cases hlt : i < n
    · have hlti : (i : Int) < n := by omega
      obtain ⟨g, cap', ev, hbg, hcell, hfr, hst⟩ := own_set HOW.out hlt
      injection ev with ev1 ev2 ev3
      subst ev1 ev3
      obtain ⟨x, hx⟩ : ∃ d, D[i]? = some d := ⟨_, List.getElem?_eq_getElem (by have := HL.out; omega)⟩
      have hxT : T[i]? = some x := by
        have h1 : (T.drop i)[0]? = (D.drop i)[0]? := by rw [HDR.out]
        rw [List.getElem?_drop, List.getElem?_drop] at h1
        simpa [hx] using h1
      have hxB := dok_at HD.out hx
      rw [dcl_get hxT] at hcell
      have hxI : (x : Int) < 4294967296 := by omega
      obtain ⟨p, hp⟩ : ∃ p, p = x * m := ⟨_, rfl⟩
      have hpB : p ≤ 18446744065119617025 := by
        rw [hp]
        exact Nat.le_trans (Nat.mul_le_mul (by omega : x ≤ 4294967295) (by omega : m ≤ 4294967295)) (by decide)
      have hpI : (x : Int) * (m : Int) = (p : Int) := by rw [hp]; simp
      have hpb : (p : Int) ≤ 18446744065119617025 := by omega
      have HDt := Lib.hid (show D.getD i 0 = x by simp [List.getD, hx])
      have HP := Lib.hid hp
      have HST := Lib.hid hst
      have HNx := Lib.hid (show ∀ (u z : Int), u = (((c + p) / 4294967296 : Nat) : Int) → z = (((c + p) % 4294967296 : Nat) : Int) → ∃ (i' c' : Nat) (T' : List Nat), Value.int .u64 u = .int .u64 (c' : Int) ∧ Value.int .i64 ((i : Int) + 1) = .int .i64 (i' : Int) ∧ i' ≤ n ∧ c' < 4294967296 ∧ T'.length = n ∧ dok 4294967296 T' ∧ T'.drop i' = D.drop i' ∧ dv 4294967296 (T'.take i') + 4294967296 ^ i' * c' = dv 4294967296 (D.take i') * m + nn ∧ (wr.setCell ⟨g, i, none⟩ (.int .u32 z)).ownsRow b0 47 1 (.slice (some ⟨g, 0, none⟩) n cap) n (dcl T') ∧ Below b0 w (wr.setCell ⟨g, i, none⟩ (.int .u32 z)) ∧ b0 ≤ (wr.setCell ⟨g, i, none⟩ (.int .u32 z)).heap.size from by
        intro u z hu hz
        subst hu hz
        refine ⟨i + 1, (c + p) / 4294967296, T.set i ((c + p) % 4294967296), rfl, by go_num, by omega, by omega, by rw [List.length_set]; exact HTL.out, dok_set HT.out _ _ (Nat.mod_lt _ (by decide)), ?_, tp_round T D i c x m (c + p) (by have := HTL.out; omega) HDt.out (by rw [HP.out]) HI.out, ?_, (HST.out _).2 _ _ HBW.out (Nat.le_refl _), by have := HSZ.out; simpa [World.setCell] using this⟩
        · have h1 := congrArg (List.drop 1) HDR.out
          rw [List.drop_drop, List.drop_drop] at h1
          rw [← h1]
          apply List.ext_getElem?
          intro q
          rw [List.getElem?_drop, List.getElem?_drop, List.getElem?_set_ne (by omega)]
        · rw [← dcl_set]; exact (HST.out _).1)
      clear hx hxT hp hst
      go_wp2
      go_roundw
      case rel => exact HNx.out _ _ (by omega) (by omega)
      case measure => simp only [intOf]; rw [show ((i : Int) + 1).toNat = i + 1 by omega]; omega
    · have hlti : ¬ (i : Int) < n := by omega
      obtain rfl : n = i := by omega
      have HF := Lib.hid (show dv 4294967296 (T ++ [c]) = dv 4294967296 D * m + nn by
        have := HI.out
        rw [List.take_of_length_le (show T.length ≤ n by rw [HTL.out]; exact Nat.le_refl _), List.take_of_length_le (show D.length ≤ n by rw [HL.out]; exact Nat.le_refl _)] at this
        rw [dv_app, HTL.out]
        simpa [dv] using this)
      obtain ⟨W3, hW3⟩ : ∃ W, W = wr.alloc (.cells #[.int .u32 (c : Int)] 47) := ⟨_, rfl⟩
      have HO3 := Lib.hid (show W3.ownsRow b0 47 1 (.slice A n cap) n (dcl T) by rw [hW3]; exact HOW.out.alloc _)
      have HB3 := Lib.hid (show Below b0 w W3 by rw [hW3]; exact HBW.out.alloc HSZ.out _)
      have HS3 := Lib.hid (show b0 ≤ W3.heap.size by rw [hW3]; have := HSZ.out; simp; omega)
      have HN3 : Hid (Src Tryd.prog 1 22 (.slice (some ⟨wr.heap.size, 0, none⟩) 1 1) 1 [.int .u32 (c : Int)] W3) := Lib.hid (src_blk (c := 1) Tryd.underlying22 rfl (by intro u hu; obtain rfl : u = .int .u32 (c : Int) := (by simpa using hu); rfl) (show Blk W3 wr.heap.size 47 [Value.int .u32 (c : Int)].toArray by rw [hW3]; exact Blk.new _ _ _))
      subst hW3
      go_wp2_with (at_builtin; go_loud (refine wpList_append_src _ rfl _ _ 22 22 rfl b0 47 i0 _ 1 4 Tryd.underlying22 hi hz0 hz1 hz2 rfl (.slice A n cap) n _ rfl HO3.out _ 1 _ rfl HN3.out ?c1 ?c2 HS3.out ?_))
      case c1 => unfold maxLen; omega
      case c2 => omega
      intro v' w1 own' hg _
      have HOF := Lib.hid (show w1.ownsRow b0 47 1 v' (T ++ [c]).length (dcl (T ++ [c])) by
        have e1 : dcl (T ++ [c]) = dcl T ++ [.int .u32 (c : Int)] := by simp [dcl]
        rw [e1, List.length_append, HTL.out]
        exact own')
      have HBF := Lib.hid (show Below b0 w w1 from HB3.out.grown hg HS3.out (fun j hj => (HO3.out.lt j hj).1))
      obtain ⟨A3, a3, rfl, -⟩ := At.of_own own'
      clear own' hg
      go_wp2
      go_ret
      exact ⟨_, T ++ [c], rfl, HOF.out, dok_app.2 ⟨HT.out, fun d hd => by obtain rfl : d = c := (by simpa using hd); exact hc⟩, HF.out, by rw [List.length_append, HTL.out]; rfl, HBF.out⟩
end Go.Proofs.YtndkcimdbidgaaaDoor
