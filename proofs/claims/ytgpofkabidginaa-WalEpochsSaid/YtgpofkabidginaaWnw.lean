/- New logs; free bytes; the end of a sector. -/
import Derived.Test.YtgpofkabidginaaWse
namespace Go.Proofs.Ytgpofkabidginaa
open Go.ChangeShapes Go.WideShapes Go.ChangeAt Go.RowKit Go.ChangeMaps

theorem flip {P : Program} {f : FuncId} {args : Array Value} {w : World} {e0 : Ending} (h : Calls P f args w fun e w' => e = e0 ∧ w = w') : Calls P f args w fun e w' => e = e0 ∧ w' = w := h.mono fun _ _ ⟨a, b⟩ => ⟨a, b.symm⟩
theorem below_dn {w w' : World} (h : ∃ k, w' = w.drewN k) : Below w.heap.size w w' := by
  obtain ⟨k, rfl⟩ := h
  exact below_drewN (Below.refl _ _)
theorem valid_any (w : World) (p q : Nat) (s : St) (h : Dk w p q s) (f c e : Int) (b : Bool) (hb : mayB (s.R.length : Nat) f c e = b) : Calls Try.prog 42 #[.pointer (some ⟨p, 0, none⟩), .int .i64 f, .int .i64 c, .int .u32 e] w fun e' w' => e' = .returned (.bool b) ∧ w = w' := by
  have HS := Lib.hid (Sectors_any w p q s h)
  have hn : s.R.length ≤ 65536 := h.2.2.2.2.2.1
  have H : Hid (mayB (s.R.length : Nat) f c e = decide (0 ≤ f ∧ f ≤ (s.R.length : Nat) ∧ 1 ≤ c ∧ c ≤ (s.R.length : Nat) - f ∧ 1 ≤ e)) := Lib.hid rfl
  have HB := Lib.hid hb
  clear hb h
  generalize s.R.length = n at *
  go_enter Try.func42, Try.ntmps42
  go_wp2_with (go_at_call 57; refine HS.out.mono ?_; rintro e w' ⟨rfl, rfl⟩)
  all_goals go_ret
  all_goals refine ⟨ret_bool ?_, rfl⟩
  all_goals rw [← HB.out, H.out, Bool.eq_iff_iff]
  all_goals simp only [decide_eq_true_eq, Bool.false_eq_true, false_iff]
  all_goals omega
theorem NewL_bad (w : World) (p q : Nat) (s : St) (h : Dk w p q s) (f c e : Int) (hb : mayB (s.R.length : Nat) f c e = false) : Calls Try.prog 15 #[.pointer (some ⟨p, 0, none⟩), .int .i64 f, .int .i64 c, .int .u32 e] w fun e' w' => e' = .returned (.tuple #[.pointer none, .int .i64 1]) ∧ w = w' := by
  have HV := Lib.hid (valid_any w p q s h f c e false hb)
  clear hb h
  go_enter Try.func15, Try.ntmps15
  go_wp2_with (go_at_call 42; refine HV.out.mono ?_; rintro e w' ⟨rfl, rfl⟩)
  go_ret2
  exact ⟨rfl, rfl⟩
theorem NewL_ok (w : World) (p q : Nat) (s : St) (h : Dk w p q s) (f c e : Nat) (hb : mayB (s.R.length : Nat) f c e = true) : Calls Try.prog 15 #[.pointer (some ⟨p, 0, none⟩), .int .i64 (f : Int), .int .i64 (c : Int), .int .u32 (e : Int)] w fun e' w' => e' = .returned (.tuple #[.pointer (some ⟨w.heap.size, 0, none⟩), .int .i64 0]) ∧ (∀ F, Lk F w' w.heap.size p ⟨f, c, e, 0, 0, []⟩) ∧ Below w.heap.size w w' := by
  have HV := Lib.hid (valid_any w p q s h f c e true hb)
  clear hb h
  go_enter Try.func15, Try.ntmps15
  go_wp2_with (go_at_call 42; refine HV.out.mono ?_; rintro e w' ⟨rfl, rfl⟩)
  go_ret2
  exact ⟨by simp, fun F => ⟨none, 0, by simpa using Blk.new w 68 _, ⟨rfl, fun h => absurd h (by simp)⟩, Nat.le_refl _, by decide⟩, (Below.refl _ w).alloc (Nat.le_refl _) _⟩
/-- The reference's log. -/
def Rg (B : Nat) (w : World) (m r : Nat) (f c e k : Nat) (s : List UInt8) (v : Value) : Prop := Blk w m 42 #[.pointer (some ⟨r, 0, none⟩), .int .i64 (f : Int), .int .i64 (c : Int), .int .u32 (e : Int), v, .int .i64 (k : Int)] ∧ w.ownsRow B 5 1 v s.length (bc s)
/-- Blocks that may change, among them that of a row. -/
def FO (base : Nat → Prop) (v : Value) : Nat → Prop := fun k => base k ∨ v.ownBlock = some k
theorem own_chg {F : Nat → Prop} {w w' : World} {B : Nat} {e : TypeId} {size n : Nat} {v : Value} {xs : List Value} (h : w.ownsRow B e size v n xs) (hc : Chg F w w') (hF : ∀ j, v.ownBlock = some j → ¬ F j) : w'.ownsRow B e size v n xs := by
  have h0 := h
  refine ⟨h.1, ?_⟩
  rcases h.2 with h1 | ⟨g, cap, cur, rfl, hg, hh, rest⟩
  · exact .inl h1
  · exact .inr ⟨g, cap, cur, rfl, hg, (hc.block g (h0.lt g rfl).2 (hF g rfl)).trans hh, rest⟩
theorem Rg.chg {G : Nat → Prop} {B : Nat} {w w' : World} {m r f c e k : Nat} {s : List UInt8} {v : Value} (h : Rg B w m r f c e k s v) (hc : Chg G w w') (hG : ∀ j, v.ownBlock = some j → ¬ G j) (hm : ¬ G m) : Rg B w' m r f c e k s v :=
  ⟨h.1.chg hc hm, own_chg h.2 hc hG⟩
theorem Rg.below {B : Nat} {w w' : World} {m r f c e k : Nat} {s : List UInt8} {v : Value} (h : Rg B w m r f c e k s v) (hb : Below w.heap.size w w') : Rg B w' m r f c e k s v :=
  ⟨h.1.below hb, own_below h.2 hb⟩
theorem NewR_any (w : World) (r : Nat) (f c e : Nat) : Calls Try.prog 16 #[.pointer (some ⟨r, 0, none⟩), .int .i64 (f : Int), .int .i64 (c : Int), .int .u32 (e : Int)] w fun e' w' => e' = .returned (.pointer (some ⟨w.heap.size, 0, none⟩)) ∧ (∀ B, Rg B w' w.heap.size r f c e 0 [] (.slice none 0 0)) ∧ Below w.heap.size w w' := by
  go_enter Try.func16, Try.ntmps16
  go_wp2
  go_ret
  exact ⟨by simp, fun B => ⟨by simpa using Blk.new w 42 _, World.ownsRow_nil _ _ _ _⟩, (Below.refl _ w).alloc (Nat.le_refl _) _⟩
theorem FreeL_any (F : Nat → Prop) (w : World) (g p : Nat) (L : Lg) (h : Lk F w g p L) (hc : L.c ≤ 65536) (hn : L.n ≤ 100000000) : Calls Try.prog 19 #[.pointer (some ⟨g, 0, none⟩)] w fun e w' => e = .returned (.int .i64 (freeM (59 * (L.c : Int) - (L.n : Int)))) ∧ ∃ k, w' = w.drewN k := by
  obtain ⟨A, cap, hb, -⟩ := h
  have c2 : w.cell? ⟨g, 2, none⟩ = some (.int .i64 (L.c : Int)) := hb.cell 2
  have c4 : w.cell? ⟨g, 4, none⟩ = some (.int .i64 (L.n : Int)) := hb.cell 4
  clear hb
  generalize L.c = c at *
  generalize L.n = n at *
  have e1 : IntKind.i64.wrap (59 * (c : Int)) = 59 * (c : Int) := IntWalk.i64_in _ (by omega)
  have e2 : IntKind.i64.wrap (59 * (c : Int) - (n : Int)) = 59 * (c : Int) - (n : Int) := IntWalk.i64_in _ (by omega)
  have HF := Lib.hid (fun W => free_any W (59 * (c : Int) - (n : Int)) (by omega) (by omega))
  go_enter Try.func19, Try.ntmps19
  go_wp2
  go_quiet ((go_at_call 49; exact Calls.quiet_of_same (flip (HF.out _))))
  go_wp2
  go_ret
  exact ⟨rfl, _, rfl⟩
theorem RecL_any (F : Nat → Prop) (w : World) (g p : Nat) (L : Lg) (h : Lk F w g p L) : Calls Try.prog 21 #[.pointer (some ⟨g, 0, none⟩)] w fun e w' => e = .returned (.int .i64 (L.k : Int)) ∧ w = w' := by
  obtain ⟨A, cap, hb, -⟩ := h
  have c2 : w.cell? ⟨g, 6, none⟩ = some (.int .i64 (L.k : Int)) := hb.cell 6
  clear hb
  go_enter Try.func21, Try.ntmps21
  go_wp2
  go_ret
  exact ⟨rfl, rfl⟩
theorem FreeR_any (B : Nat) (w : World) (m r f c e k : Nat) (s : List UInt8) (v : Value) (h : Rg B w m r f c e k s v) (hc : c ≤ 65536) (hn : s.length ≤ 100000000) : Calls Try.prog 20 #[.pointer (some ⟨m, 0, none⟩)] w fun e w' => e = .returned (.int .i64 (freeM (59 * (c : Int) - (s.length : Nat)))) ∧ ∃ k, w' = w.drewN k := by
  obtain ⟨hb, ho⟩ := h
  obtain ⟨A, cap, rfl, -⟩ := own_bytes ho
  have c2 : w.cell? ⟨m, 2, none⟩ = some (.int .i64 (c : Int)) := hb.cell 2
  have c4 : w.cell? ⟨m, 4, none⟩ = some (.slice A s.length cap) := hb.cell 4
  clear hb ho
  generalize s.length = n at *
  have e1 : IntKind.i64.wrap ((c : Int) * 59) = (c : Int) * 59 := IntWalk.i64_in _ (by omega)
  have e2 : IntKind.i64.wrap ((c : Int) * 59 - (n : Int)) = (c : Int) * 59 - (n : Int) := IntWalk.i64_in _ (by omega)
  have HF := Lib.hid (fun W => rfree_any W ((c : Int) * 59 - (n : Int)) (by omega) (by omega))
  have HE : Hid (freeM (59 * (c : Int) - (n : Int)) = freeM ((c : Int) * 59 - (n : Int))) := Lib.hid (by congr 1; omega)
  go_enter Try.func20, Try.ntmps20
  go_wp2
  go_quiet ((go_at_call 50; exact Calls.quiet_of_same (flip (HF.out _))))
  go_wp2
  go_ret
  exact ⟨ret_int HE.out.symm, _, rfl⟩
set_option maxRecDepth 100000 in
theorem Ends_any (F : Nat → Prop) (w : World) (r t : Nat) (s : St) (h : Rk F w r t s) (k : Nat) (hk : k < s.R.length) (e : Nat) (b : Bool) (hb : decide (ends (s.R.getD k []) = e) = b) : Calls Try.prog 41 #[.pointer (some ⟨r, 0, none⟩), .int .i64 (k : Int), .int .u32 (e : Int)] w fun e' w' => e' = .returned (.bool b) ∧ ∃ k, w' = w.drewN k := by
  obtain ⟨cap, hcap, c0, -⟩ := h.cells
  obtain ⟨A9, c9, e9, h9, h9', b9, -⟩ := h.sec k hk
  have hn : s.R.length ≤ 65536 := h.ok.2.2.1
  obtain ⟨ob, ooff, rfl⟩ := b9.at.some (by decide)
  have hki : (k : Int) < s.R.length := by omega
  have hkk : (0 : Int) ≤ k := by omega
  have HR := Lib.hid (read_any w ob (ooff + 60) (64 - 60) (c9 - 60) _ (b9.at.drop (by decide)) (by decide) (by decide) _ rfl)
  have HB : Hid (decide ((ends (s.R.getD k []) : Int) = (e : Int)) = b) := Lib.hid (by rw [← hb]; simp only [decide_eq_decide]; omega)
  have h60 : ¬ c9 = 60 := by omega
  have hc60 : (60 : Int) ≤ (c9 : Int) := by omega
  change Hid (Calls Try.prog 54 #[.slice (some ⟨ob, ooff + 60, none⟩) 4 (c9 - 60)] w fun e w' => e = .returned (.int .u32 (ends (s.R.getD k []) : Nat)) ∧ ∃ k, w' = w.drewN k) at HR
  generalize ends (s.R.getD k []) = x at *
  clear h b9 hb
  generalize s.R.length = nn at *
  go_enter Try.func41, Try.ntmps41
  go_wp2_with fail
  refine HR.out.mono ?_
  rintro e w2 ⟨rfl, kk, rfl⟩
  go_wp2
  go_ret
  exact ⟨ret_bool HB.out, _, rfl⟩
end Go.Proofs.Ytgpofkabidginaa
