/- sig.New, Issued, Issue, Len, keySet, Derivable. -/
import Derived.Test.YtefpenjcgplamaaDoorSig1
namespace Go.Proofs.YtefpenjcgplamaaDoor
open Go.RowKit Go.Shelf
set_option linter.unusedVariables false
set_option linter.unusedSimpArgs false

/-- The ledger in block g, its map m: it holds ss. -/
def LG (W : World) (g : Nat) (m : Option Nat) (ss : List Sg) : Prop := Blk W g 52 [.map m] ∧ ((m = none ∧ ss = []) ∨ ∃ b, m = some b ∧ SetM sigv goodS W b ss)
theorem LG.keep {W W' : World} {g : Nat} {m : Option Nat} {ss : List Sg} (h : LG W g m ss) (hg : W'.heap[g]? = W.heap[g]?) (hm : ∀ b, m = some b → b < W.heap.size → W'.heap[b]? = W.heap[b]?) : LG W' g m ss :=
  ⟨hg.trans h.1, h.2.imp id fun ⟨b, h1, h2⟩ => ⟨b, h1, h2.keep (hm b h1 h2.lt)⟩⟩
theorem LG.below {W W' : World} {g : Nat} {m : Option Nat} {ss : List Sg} (h : LG W g m ss) (hB : Below W.heap.size W W') : LG W' g m ss := h.keep (hB.block g h.1.lt) fun b _ hb => hB.block b hb
/-- No old block but the ledger's has turned. -/
structure KL (g : Nat) (m : Option Nat) (w w' : World) : Prop where
  os : w'.os = w.os
  tape : w'.tape = w.tape
  output : w'.output = w.output
  size : w.heap.size ≤ w'.heap.size
  block : ∀ k, k < w.heap.size → k ≠ g → m ≠ some k → w'.heap[k]? = w.heap[k]?
theorem KL.of_below {g : Nat} {m : Option Nat} {w w' : World} (h : Below w.heap.size w w') : KL g m w w' := ⟨h.os, h.tape, h.output, h.size, fun k hk _ _ => h.block k hk⟩
theorem KL.young {g : Nat} {m : Option Nat} {w0 w w' : World} (h : KL g m w w') (h0 : Below w0.heap.size w0 w) (hg : w0.heap.size ≤ g) (hm : ∀ b, m = some b → w0.heap.size ≤ b) : Below w0.heap.size w0 w' :=
  h0.trans ⟨h.os, h.tape, h.output, h.size, fun k hk => h.block k (Nat.lt_of_lt_of_le hk h0.size) (by omega) (fun e => by have := hm k e; omega)⟩
theorem KL.only {g b : Nat} {m : Option Nat} {w w' w'' : World} (h : KL g m w w') (o : Only b w' w'') (hb : b = g ∨ m = some b ∨ w.heap.size ≤ b) : KL g m w w'' :=
  ⟨o.os.trans h.os, o.tape.trans h.tape, o.output.trans h.output, by rw [o.size]; exact h.size, fun k hk h1 h2 => (o.block k (by rintro rfl; rcases hb with hb | hb | hb; exact h1 hb; exact h2 hb; omega)).trans (h.block k hk h1 h2)⟩
theorem KL.below {g : Nat} {m : Option Nat} {w w' w'' : World} (h : KL g m w w') (B : Below w'.heap.size w' w'') : KL g m w w'' :=
  ⟨B.os.trans h.os, B.tape.trans h.tape, B.output.trans h.output, Nat.le_trans h.size B.size, fun k hk h1 h2 => (B.block k (Nat.lt_of_lt_of_le hk h.size)).trans (h.block k hk h1 h2)⟩
theorem KL.blk {g c t : Nat} {m : Option Nat} {w w' : World} {cs : List Value} (h : KL g m w w') (hB : Blk w c t cs) (h1 : c ≠ g) (h2 : m ≠ some c) : Blk w' c t cs := (h.block c hB.lt h1 h2).trans hB
theorem built52 (w : World) : (Instr.build 52 #[]).run Tryd.prog w = .ok (.agg [Value.map none].toArray) w := run_build w 52 #[] _ (by kernel_rfl)
theorem built53 (w : World) : (Instr.build 53 #[]).run Tryd.prog w = .ok (.agg #[]) w := run_build w 53 #[] _ (by kernel_rfl)
theorem size53 : (Tryd.prog.info? 53).map (·.size) = some ([] : List Value).length := by kernel_rfl
theorem zero53' : (Tryd.prog.info? 53).bind (·.zero) = some (.agg ([] : List Value).toArray) := by kernel_rfl
section
variable {n d : Nat} {l : List (Nat × Value)} {w : World} {x y : Operand}
theorem x_fldM {g : Nat} (hx : ov l x = some (.pointer (some ⟨g, 0, none⟩))) : Runs Tryd.prog n l w (.fieldAddr 52 x 0) (.pointer (some ⟨g, 0, none⟩)) := x_field hx (by
  have := m_field (P := Tryd.prog) (w := w) (b := g) (o := 0) (f := 0) Tryd.underlying52 rfl (by kernel_rfl) (by kernel_rfl)
  simpa using this)
theorem x_ldM {g t0 : Nat} {m : Option Nat} (h : Blk w g t0 [.map m]) (hx : ov l x = some (.pointer (some ⟨g, 0, none⟩))) : Runs Tryd.prog n l w (.load 50 x) (.map m) := x_load hx (m_load flat50 (h.cell rfl))
theorem x_lookI {b : Nat} {ys : List Int} {u : Int} {c : Bool} (h : SetM intv (fun _ => True) w b ys) (hb : decide (u ∈ ys) = c) (hx : ov l x = some (.map (some b))) (hy : ov l y = some (.int .i64 u)) : Runs Tryd.prog n l w (.lookup 55 x y true) (.tuple #[.agg #[], .bool c]) := by
  subst hb
  exact x_look keyI Tryd.underlying55 zero53 trivial h hx hy
theorem x_bld {t : TypeId} {v : Value} (h : (Instr.build t #[]).run Tryd.prog w = .ok v w) : Runs Tryd.prog n l w (.build t #[]) v := x_build (parts := []) (vs := []) rfl h
end

/-- A new ledger. -/
theorem new12 (w0 : World) : Calls Tryd.prog 12 #[] w0 fun e w' => ∃ v, e = .returned v ∧ (∃ g, v = .pointer (some ⟨g, 0, none⟩) ∧ g = w0.heap.size ∧ Blk w' g 52 [.map none]) ∧ Below w0.heap.size w0 w' := by
  have hB := Below.refl w0.heap.size w0
  refine calls_fs (vs := []) 3 [] Tryd.func12 rfl rfl rfl rfl rfl fun a hF => ?_
  refine wp_rs fun K1 hK1 => ?_
  refine s_val hF (x_assign rfl) (by decide) fun a hF => ?_
  refine s_end (hK1 _ _ ?_)
  refine wp_rs fun K2 hK2 => ?_
  refine s_val hF (x_bld (built52 _)) (by decide) fun a hF => ?_
  refine s_box ([.map none]) hF (by decide) rfl rfl fun w2 bg a ebg mg B3 zbg hF => ?_
  have sB3 := B3.size
  have hB := hB.trans (B3.mono hB.size)
  refine s_val hF (x_assign rfl) (by decide) fun a hF => ?_
  refine s_end (hK2 _ _ ?_)
  refine wp_ret (res_slot hF rfl rfl ⟨_, rfl, ⟨bg, rfl, ebg, mg⟩, hB⟩)

set_option maxRecDepth 100000 in
set_option maxHeartbeats 800000 in
theorem issued14n (s : Sg) (w0 : World) : Calls Tryd.prog 14 #[.pointer none, sigv s] w0 fun e w' => e = .returned (.bool false) ∧ Below w0.heap.size w0 w' := by
  have hB := Below.refl w0.heap.size w0
  refine calls_fs 19 [(0, .pointer none), (1, sigv s)] Tryd.func14 rfl rfl rfl rfl rfl fun a hF => ?_
  refine wp_rs fun K1 hK1 => ?_
  refine s_box (sigL s) hF (by decide) rfl rfl fun w2 b3 a eb3 m3 B3 zb3 hF => ?_
  have sB3 := B3.size
  have hB := hB.trans (B3.mono hB.size)
  refine s_val hF (x_assign rfl) (by decide) fun a hF => ?_
  refine s_end (hK1 _ _ ?_)
  refine wp_seq_k fun K2 hK2 => ?_
  refine wp_rs fun K3 hK3 => ?_
  refine s_val hF (x_move rfl) (by decide) fun a hF => ?_
  refine s_val hF (x_ptr Tryd.underlying34 rfl rfl) (by decide) fun a hF => ?_
  refine s_end (hK3 _ _ ?_)
  refine wp_if hF rfl ?_
  refine wp_rs fun K4 hK4 => ?_
  refine s_val hF (x_assign rfl) (by decide) fun a hF => ?_
  refine s_end (hK4 _ _ ?_)
  refine wp_ret (then_ret (res_slot hF rfl rfl ⟨rfl, hB⟩))

set_option maxRecDepth 100000 in
set_option maxHeartbeats 800000 in
theorem issued14 (g : Nat) (m : Option Nat) (ss : List Sg) (s : Sg) (hs : goodS s) (w0 : World) (hL : LG w0 g m ss) : Calls Tryd.prog 14 #[.pointer (some ⟨g, 0, none⟩), sigv s] w0 fun e w' => e = .returned (.bool (decide (s ∈ ss))) ∧ Below w0.heap.size w0 w' := by
  have hB := Below.refl w0.heap.size w0
  have hgl := hL.1.lt
  refine calls_fs 19 [(0, .pointer (some ⟨g, 0, none⟩)), (1, sigv s)] Tryd.func14 rfl rfl rfl rfl rfl fun a hF => ?_
  refine wp_rs fun K1 hK1 => ?_
  refine s_box (sigL s) hF (by decide) rfl rfl fun w2 b3 a eb3 m3 B3 zb3 hF => ?_
  have sB3 := B3.size
  have hB := hB.trans (B3.mono hB.size)
  refine s_val hF (x_assign rfl) (by decide) fun a hF => ?_
  refine s_end (hK1 _ _ ?_)
  refine wp_seq_k fun K2 hK2 => ?_
  refine wp_rs fun K3 hK3 => ?_
  refine s_val hF (x_move rfl) (by decide) fun a hF => ?_
  refine s_val hF (x_ptr Tryd.underlying34 rfl rfl) (by decide) fun a hF => ?_
  refine s_end (hK3 _ _ ?_)
  refine wp_if hF rfl ?_
  refine wp_skip (hK2 _ _ ?_)
  rcases hL.2 with ⟨rfl, rfl⟩ | ⟨bm, rfl, hM⟩
  · have mg := hL.1.old hB
    refine dk_seq (w2.heap.size) (ops := regOps Tryd.f14 3) (N := 12) (by kernel_rfl) wide_orders (by kernel_rfl) fun w4 hw4 B5 hS K5 hK5 => ?_
    have zw4 : w4.heap.size = w2.heap.size := by rw [hw4]
    have sB5 := B5.size
    have hB := hB.trans (B5.mono hB.size)
    have m3 := m3.old B5
    have mg := mg.old B5
    have m3_d := m3
    have mg_d := mg
    have hB_d := hB
    refine d_val 0 10 (op := (Go.Op.move (Go.Operand.tmp 0))) hF hS (by kernel_rfl) (fun W hW => x_move rfl) (by kernel_rfl) (by decide) fun a hF => ?_
    refine d_val 1 11 (op := (Go.Op.nilCheck (Go.Operand.tmp 10))) hF hS (by kernel_rfl) (fun W hW => x_nil rfl) (by kernel_rfl) (by decide) fun a hF => ?_
    refine d_val 2 12 (op := (Go.Op.fieldAddr 52 (Go.Operand.tmp 11) 0)) hF hS (by kernel_rfl) (fun W hW => x_fldM rfl) (by kernel_rfl) (by decide) fun a hF => ?_
    refine d_val 3 13 (op := (Go.Op.load 50 (Go.Operand.tmp 12))) hF hS (by kernel_rfl) (fun W hW => x_ldM (mg_d.kq hW (by omega)) rfl) (by kernel_rfl) (by decide) fun a hF => ?_
    refine d_val 4 14 (op := (Go.Op.load 26 (Go.Operand.tmp 3))) hF hS (by kernel_rfl) (fun W hW => x_loadG hs (m3_d.kq hW (by omega)) rfl) (by kernel_rfl) (by decide) fun a hF => ?_
    refine d_val 5 15 (op := (Go.Op.lookup 50 (Go.Operand.tmp 13) (Go.Operand.tmp 14) true)) hF hS (by kernel_rfl) (fun W hW => x_look0 keyS Tryd.underlying50 zero53 hs rfl rfl) (by kernel_rfl) (by decide) fun a hF => ?_
    refine d_val 6 9 (op := (Go.Op.move (Go.Operand.tmp 15))) hF hS (by kernel_rfl) (fun W hW => x_move rfl) (by kernel_rfl) (by decide) fun a hF => ?_
    refine d_val 7 16 (op := (Go.Op.extract (Go.Operand.tmp 9) 0)) hF hS (by kernel_rfl) (fun W hW => x_ext rfl rfl) (by kernel_rfl) (by decide) fun a hF => ?_
    refine d_val 8 17 (op := (Go.Op.extract (Go.Operand.tmp 9) 1)) hF hS (by kernel_rfl) (fun W hW => x_ext rfl rfl) (by kernel_rfl) (by decide) fun a hF => ?_
    refine d_one 9 (some 5) (Go.Op.alloc 53) (by kernel_rfl) (by kernel_rfl) fun ty pos af => ?_
    refine s_alloc hF (by decide) zero53' fun w6 b5 a eb5 m5 B7 zb5 hF => ?_
    have sB7 := B7.size
    have hB := hB.trans (B7.mono hB.size)
    have m3 := m3.old B7
    have mg := mg.old B7
    have hS := hS.below B7
    refine s_end ⟨hS, ?_⟩
    refine d_one 10 none (Go.Op.store 53 (Go.Operand.tmp 5) (Go.Operand.tmp 16)) (by kernel_rfl) (by kernel_rfl) fun ty pos af => ?_
    refine s_putW (vs := []) hF rfl rfl size53 m5 rfl (by simp) fun w8 m5 o9 => ?_
    have so9 := o9.size
    have hB := hB.trans (o9.below (by omega))
    have m3 := m3.only o9 (by omega)
    have mg := mg.only o9 (by omega)
    have hS := hS.only o9 (by omega)
    refine s_end ⟨hS, ?_⟩
    refine d_val 11 6 (op := (Go.Op.assign (Go.Operand.tmp 17))) hF hS (by kernel_rfl) (fun W hW => x_assign rfl) (by kernel_rfl) (by decide) fun a hF => ?_
    refine d_end (by kernel_rfl) (hK5 _ _ ?_)
    refine wp_rs fun K6 hK6 => ?_
    refine s_val hF (x_move rfl) (by decide) fun a hF => ?_
    refine s_val hF (x_assign rfl) (by decide) fun a hF => ?_
    refine s_end (hK6 _ _ ?_)
    refine wp_ret (res_slot hF rfl rfl ⟨by simp, hB⟩)
  · have mg := hL.1.old hB
    have hM := hM.below hB
    have hMl := hM.lt
    refine dk_seq (w2.heap.size) (ops := regOps Tryd.f14 3) (N := 12) (by kernel_rfl) wide_orders (by kernel_rfl) fun w10 hw10 B11 hS K7 hK7 => ?_
    have zw10 : w10.heap.size = w2.heap.size := by rw [hw10]
    have sB11 := B11.size
    have hB := hB.trans (B11.mono hB.size)
    have m3 := m3.old B11
    have mg := mg.old B11
    have hM := hM.below B11
    have m3_d := m3
    have mg_d := mg
    have hM_d := hM
    have hB_d := hB
    refine d_val 0 10 (op := (Go.Op.move (Go.Operand.tmp 0))) hF hS (by kernel_rfl) (fun W hW => x_move rfl) (by kernel_rfl) (by decide) fun a hF => ?_
    refine d_val 1 11 (op := (Go.Op.nilCheck (Go.Operand.tmp 10))) hF hS (by kernel_rfl) (fun W hW => x_nil rfl) (by kernel_rfl) (by decide) fun a hF => ?_
    refine d_val 2 12 (op := (Go.Op.fieldAddr 52 (Go.Operand.tmp 11) 0)) hF hS (by kernel_rfl) (fun W hW => x_fldM rfl) (by kernel_rfl) (by decide) fun a hF => ?_
    refine d_val 3 13 (op := (Go.Op.load 50 (Go.Operand.tmp 12))) hF hS (by kernel_rfl) (fun W hW => x_ldM (mg_d.kq hW (by omega)) rfl) (by kernel_rfl) (by decide) fun a hF => ?_
    refine d_val 4 14 (op := (Go.Op.load 26 (Go.Operand.tmp 3))) hF hS (by kernel_rfl) (fun W hW => x_loadG hs (m3_d.kq hW (by omega)) rfl) (by kernel_rfl) (by decide) fun a hF => ?_
    refine d_val 5 15 (op := (Go.Op.lookup 50 (Go.Operand.tmp 13) (Go.Operand.tmp 14) true)) hF hS (by kernel_rfl) (fun W hW => x_look keyS Tryd.underlying50 zero53 hs (hM_d.kq hW (by omega)) rfl rfl) (by kernel_rfl) (by decide) fun a hF => ?_
    refine d_val 6 9 (op := (Go.Op.move (Go.Operand.tmp 15))) hF hS (by kernel_rfl) (fun W hW => x_move rfl) (by kernel_rfl) (by decide) fun a hF => ?_
    refine d_val 7 16 (op := (Go.Op.extract (Go.Operand.tmp 9) 0)) hF hS (by kernel_rfl) (fun W hW => x_ext rfl rfl) (by kernel_rfl) (by decide) fun a hF => ?_
    refine d_val 8 17 (op := (Go.Op.extract (Go.Operand.tmp 9) 1)) hF hS (by kernel_rfl) (fun W hW => x_ext rfl rfl) (by kernel_rfl) (by decide) fun a hF => ?_
    refine d_one 9 (some 5) (Go.Op.alloc 53) (by kernel_rfl) (by kernel_rfl) fun ty pos af => ?_
    refine s_alloc hF (by decide) zero53' fun w12 b5 a eb5 m5 B13 zb5 hF => ?_
    have sB13 := B13.size
    have hB := hB.trans (B13.mono hB.size)
    have m3 := m3.old B13
    have mg := mg.old B13
    have hM := hM.below B13
    have hS := hS.below B13
    refine s_end ⟨hS, ?_⟩
    refine d_one 10 none (Go.Op.store 53 (Go.Operand.tmp 5) (Go.Operand.tmp 16)) (by kernel_rfl) (by kernel_rfl) fun ty pos af => ?_
    refine s_putW (vs := []) hF rfl rfl size53 m5 rfl (by simp) fun w14 m5 o15 => ?_
    have so15 := o15.size
    have hB := hB.trans (o15.below (by omega))
    have m3 := m3.only o15 (by omega)
    have mg := mg.only o15 (by omega)
    have hM := hM.only o15 (by omega)
    have hS := hS.only o15 (by omega)
    refine s_end ⟨hS, ?_⟩
    refine d_val 11 6 (op := (Go.Op.assign (Go.Operand.tmp 17))) hF hS (by kernel_rfl) (fun W hW => x_assign rfl) (by kernel_rfl) (by decide) fun a hF => ?_
    refine d_end (by kernel_rfl) (hK7 _ _ ?_)
    refine wp_rs fun K8 hK8 => ?_
    refine s_val hF (x_move rfl) (by decide) fun a hF => ?_
    refine s_val hF (x_assign rfl) (by decide) fun a hF => ?_
    refine s_end (hK8 _ _ ?_)
    refine wp_ret (res_slot hF rfl rfl ⟨by simp, hB⟩)

set_option maxRecDepth 100000 in
set_option maxHeartbeats 800000 in
theorem issue13n (s : Sg) (hs : goodS s) (w0 : World) : Calls Tryd.prog 13 #[.pointer none, sigv s] w0 fun e w' => e = .returned (.bool false) ∧ Below w0.heap.size w0 w' := by
  have hB := Below.refl w0.heap.size w0
  refine calls_fs 27 [(0, .pointer none), (1, sigv s)] Tryd.func13 rfl rfl rfl rfl rfl fun a hF => ?_
  refine wp_rs fun K1 hK1 => ?_
  refine s_box (sigL s) hF (by decide) rfl rfl fun w2 b3 a eb3 m3 B3 zb3 hF => ?_
  have sB3 := B3.size
  have hB := hB.trans (B3.mono hB.size)
  refine s_val hF (x_assign rfl) (by decide) fun a hF => ?_
  refine s_end (hK1 _ _ ?_)
  refine wp_seq_k fun K2 hK2 => ?_
  refine wp_rs fun K3 hK3 => ?_
  refine s_val hF (x_move rfl) (by decide) fun a hF => ?_
  refine s_val hF (x_ptr Tryd.underlying34 rfl rfl) (by decide) fun a hF => ?_
  refine s_val hF (x_move rfl) (by decide) fun a hF => ?_
  refine s_grdn 7 hF rfl rfl (by decide) fun a hF => ?_
  refine s_grdn 7 hF rfl rfl (by decide) fun a hF => ?_
  refine s_grdn 7 hF rfl rfl (by decide) fun a hF => ?_
  refine s_val hF (x_pick rfl rfl) (by decide) fun a hF => ?_
  refine s_end (hK3 _ _ ?_)
  refine wp_if hF rfl ?_
  refine wp_rs fun K4 hK4 => ?_
  refine s_val hF (x_assign rfl) (by decide) fun a hF => ?_
  refine s_end (hK4 _ _ ?_)
  refine wp_ret (then_ret (res_slot hF rfl rfl ⟨rfl, hB⟩))

set_option maxRecDepth 100000 in
set_option maxHeartbeats 800000 in
theorem issue13 (g : Nat) (m : Option Nat) (ss : List Sg) (s : Sg) (hs : goodS s) (w0 : World) (hL : LG w0 g m ss) : Calls Tryd.prog 13 #[.pointer (some ⟨g, 0, none⟩), sigv s] w0 fun e w' => ∃ v, e = .returned v ∧ v = .bool (!decide (s ∈ ss)) ∧ KL g m w0 w' ∧ ∃ m', LG w' g m' (if s ∈ ss then ss else ss ++ [s]) ∧ (m' = m ∨ ∃ b, m' = some b ∧ w0.heap.size ≤ b) := by
  have hB := Below.refl w0.heap.size w0
  have hgl := hL.1.lt
  refine calls_fs 27 [(0, .pointer (some ⟨g, 0, none⟩)), (1, sigv s)] Tryd.func13 rfl rfl rfl rfl rfl fun a hF => ?_
  refine wp_rs fun K1 hK1 => ?_
  refine s_box (sigL s) hF (by decide) rfl rfl fun w2 b3 a eb3 m3 B3 zb3 hF => ?_
  have sB3 := B3.size
  have hB := hB.trans (B3.mono hB.size)
  refine s_val hF (x_assign rfl) (by decide) fun a hF => ?_
  refine s_end (hK1 _ _ ?_)
  refine wp_seq_k fun K2 hK2 => ?_
  refine wp_rs fun K3 hK3 => ?_
  refine s_val hF (x_move rfl) (by decide) fun a hF => ?_
  refine s_val hF (x_ptr Tryd.underlying34 rfl rfl) (by decide) fun a hF => ?_
  refine s_val hF (x_move rfl) (by decide) fun a hF => ?_
  refine s_grd 7 hF rfl rfl rfl ?_
  refine s_val hF (x_move rfl) (by decide) fun a hF => ?_
  refine s_grd 7 hF rfl rfl rfl ?_
  refine s_val hF (x_loadG hs m3 rfl) (by decide) fun a hF => ?_
  refine s_grd 7 hF rfl rfl rfl ?_
  refine s_callB [.pointer (some ⟨g, 0, none⟩), sigv s] hF (enters_of Tryd.func14 (by kernel_rfl) rfl) rfl (by decide) (issued14 g m ss s hs w2 (hL.below hB)) fun w4 a B5 hF => ?_
  have sB5 := B5.size
  have hB := hB.trans (B5.mono hB.size)
  have m3 := m3.old B5
  refine s_val hF (x_pick rfl rfl) (by decide) fun a hF => ?_
  refine s_end (hK3 _ _ ?_)
  refine wp_iff hF rfl (fun hc11 => ?_) (fun hc11 => ?_)
  · refine wp_rs fun K4 hK4 => ?_
    refine s_val hF (x_assign rfl) (by decide) fun a hF => ?_
    refine s_end (hK4 _ _ ?_)
    refine wp_ret (then_ret (res_slot hF rfl rfl ⟨_, rfl, by simp [hc11], KL.of_below hB, m, by rw [if_pos hc11]; exact hL.below hB, .inl rfl⟩))
  · refine wp_skip (hK2 _ _ ?_)
    refine wp_seq_k fun K5 hK5 => ?_
    rcases hL.2 with ⟨rfl, rfl⟩ | ⟨bm, rfl, hM⟩
    · have hKL := KL.of_below (g := g) (m := none) hB
      have mg := hL.1.old hB
      have hm3 := m3.lt
      have sB := hB.size
      clear hB
      refine wp_rs fun K7 hK7 => ?_
      refine s_val hF (x_move rfl) (by decide) fun a hF => ?_
      refine s_val hF (x_nil rfl) (by decide) fun a hF => ?_
      refine s_val hF (x_fldM rfl) (by decide) fun a hF => ?_
      refine s_val hF (x_ldM mg rfl) (by decide) fun a hF => ?_
      refine s_val hF (x_eqM Tryd.underlying50 rfl rfl) (by decide) fun a hF => ?_
      refine s_end (hK7 _ _ ?_)
      refine wp_if hF rfl ?_
      refine wp_region_lit ?_
      refine s_val hF (x_move rfl) (by decide) fun a hF => ?_
      refine s_mkm0 sigv goodS hF (by decide) fun w6 bm a ebm hM B7 zbm hF => ?_
      have hKL := hKL.below B7
      have sB7 := B7.size
      have m3 := m3.old B7
      have mg := mg.old B7
      have hsz := hKL.size
      refine s_val hF (x_nil rfl) (by decide) fun a hF => ?_
      refine s_val hF (x_fldM rfl) (by decide) fun a hF => ?_
      refine s_put hF rfl rfl flat50 mg (by simp) rfl fun w8 mg o9 => ?_
      have hKL := hKL.only o9 (.inl rfl)
      have so9 := o9.size
      have m3 := m3.only o9 (by omega)
      have hM := hM.only o9 (by omega)
      refine s_end (hK5 _ _ ?_)
      refine dk_seq (bm) (ops := regOps Tryd.f13 5) (N := 7) (by kernel_rfl) wide_orders (by kernel_rfl) fun w10 hw10 B11 hS K8 hK8 => ?_
      have zw10 : w10.heap.size = w8.heap.size := by rw [hw10]
      have sB11 := B11.size
      have m3 := m3.old B11
      have mg := mg.old B11
      have hM := hM.below B11
      have m3_d := m3
      have mg_d := mg
      have hM_d := hM
      have hKL := hKL.below B11
      refine d_val 0 21 (op := (Go.Op.move (Go.Operand.tmp 0))) hF hS (by kernel_rfl) (fun W hW => x_move rfl) (by kernel_rfl) (by decide) fun a hF => ?_
      refine d_val 1 22 (op := (Go.Op.nilCheck (Go.Operand.tmp 21))) hF hS (by kernel_rfl) (fun W hW => x_nil rfl) (by kernel_rfl) (by decide) fun a hF => ?_
      refine d_val 2 23 (op := (Go.Op.fieldAddr 52 (Go.Operand.tmp 22) 0)) hF hS (by kernel_rfl) (fun W hW => x_fldM rfl) (by kernel_rfl) (by decide) fun a hF => ?_
      refine d_val 3 24 (op := (Go.Op.load 50 (Go.Operand.tmp 23))) hF hS (by kernel_rfl) (fun W hW => x_ldM (mg_d.kq hW (by omega)) rfl) (by kernel_rfl) (by decide) fun a hF => ?_
      refine d_val 4 25 (op := (Go.Op.load 26 (Go.Operand.tmp 3))) hF hS (by kernel_rfl) (fun W hW => x_loadG hs (m3_d.kq hW (by omega)) rfl) (by kernel_rfl) (by decide) fun a hF => ?_
      refine d_val 5 26 (op := (Go.Op.build 53 #[])) hF hS (by kernel_rfl) (fun W hW => x_bld (built53 _)) (by kernel_rfl) (by decide) fun a hF => ?_
      refine d_one 6 none (Go.Op.mapUpdate 50 (Go.Operand.tmp 24) (Go.Operand.tmp 25) (Go.Operand.tmp 26)) (by kernel_rfl) (by kernel_rfl) fun ty pos af => ?_
      refine s_mapu keyS Tryd.underlying50 hs hM hF rfl rfl rfl fun w12 hM o13 => ?_
      have hKL := hKL.only o13 (by first | exact .inr (.inl rfl) | (refine .inr (.inr ?_); omega))
      have so13 := o13.size
      have m3 := m3.only o13 (by omega)
      have mg := mg.only o13 (by omega)
      have hS := hS.only o13 (by omega)
      refine s_end ⟨hS, ?_⟩
      refine d_end (by kernel_rfl) (hK8 _ _ ?_)
      refine wp_rs fun K9 hK9 => ?_
      refine s_val hF (x_assign rfl) (by decide) fun a hF => ?_
      refine s_end (hK9 _ _ ?_)
      refine wp_ret (res_slot hF rfl rfl ⟨_, rfl, by simp, hKL, some bm, ⟨mg, .inr ⟨bm, rfl, hM⟩⟩, .inr ⟨bm, rfl, by omega⟩⟩)
    · have hKL := KL.of_below (g := g) (m := some bm) hB
      have hMl := hM.lt
      have mg := hL.1.old hB
      have hM := hM.below hB
      have hgm := hM.ne mg
      have hm3 := m3.lt
      have h3m := hM.ne m3
      have sB := hB.size
      clear hB
      refine wp_rs fun K10 hK10 => ?_
      refine s_val hF (x_move rfl) (by decide) fun a hF => ?_
      refine s_val hF (x_nil rfl) (by decide) fun a hF => ?_
      refine s_val hF (x_fldM rfl) (by decide) fun a hF => ?_
      refine s_val hF (x_ldM mg rfl) (by decide) fun a hF => ?_
      refine s_val hF (x_eqM Tryd.underlying50 rfl rfl) (by decide) fun a hF => ?_
      refine s_end (hK10 _ _ ?_)
      refine wp_if hF rfl ?_
      refine wp_skip (hK5 _ _ ?_)
      refine dk_seq (bm) (ops := regOps Tryd.f13 5) (N := 7) (by kernel_rfl) wide_orders (by kernel_rfl) fun w14 hw14 B15 hS K11 hK11 => ?_
      have zw14 : w14.heap.size = w4.heap.size := by rw [hw14]
      have sB15 := B15.size
      have m3 := m3.old B15
      have mg := mg.old B15
      have hM := hM.below B15
      have m3_d := m3
      have mg_d := mg
      have hM_d := hM
      have hKL := hKL.below B15
      refine d_val 0 21 (op := (Go.Op.move (Go.Operand.tmp 0))) hF hS (by kernel_rfl) (fun W hW => x_move rfl) (by kernel_rfl) (by decide) fun a hF => ?_
      refine d_val 1 22 (op := (Go.Op.nilCheck (Go.Operand.tmp 21))) hF hS (by kernel_rfl) (fun W hW => x_nil rfl) (by kernel_rfl) (by decide) fun a hF => ?_
      refine d_val 2 23 (op := (Go.Op.fieldAddr 52 (Go.Operand.tmp 22) 0)) hF hS (by kernel_rfl) (fun W hW => x_fldM rfl) (by kernel_rfl) (by decide) fun a hF => ?_
      refine d_val 3 24 (op := (Go.Op.load 50 (Go.Operand.tmp 23))) hF hS (by kernel_rfl) (fun W hW => x_ldM (mg_d.kq hW (by omega)) rfl) (by kernel_rfl) (by decide) fun a hF => ?_
      refine d_val 4 25 (op := (Go.Op.load 26 (Go.Operand.tmp 3))) hF hS (by kernel_rfl) (fun W hW => x_loadG hs (m3_d.kq hW (by omega)) rfl) (by kernel_rfl) (by decide) fun a hF => ?_
      refine d_val 5 26 (op := (Go.Op.build 53 #[])) hF hS (by kernel_rfl) (fun W hW => x_bld (built53 _)) (by kernel_rfl) (by decide) fun a hF => ?_
      refine d_one 6 none (Go.Op.mapUpdate 50 (Go.Operand.tmp 24) (Go.Operand.tmp 25) (Go.Operand.tmp 26)) (by kernel_rfl) (by kernel_rfl) fun ty pos af => ?_
      refine s_mapu keyS Tryd.underlying50 hs hM hF rfl rfl rfl fun w16 hM o17 => ?_
      have hKL := hKL.only o17 (by first | exact .inr (.inl rfl) | (refine .inr (.inr ?_); omega))
      have so17 := o17.size
      have m3 := m3.only o17 (by omega)
      have mg := mg.only o17 (by omega)
      have hS := hS.only o17 (by omega)
      refine s_end ⟨hS, ?_⟩
      refine d_end (by kernel_rfl) (hK11 _ _ ?_)
      refine wp_rs fun K12 hK12 => ?_
      refine s_val hF (x_assign rfl) (by decide) fun a hF => ?_
      refine s_end (hK12 _ _ ?_)
      rw [if_neg hc11] at hM
      refine wp_ret (res_slot hF rfl rfl ⟨_, rfl, by simp [hc11], hKL, some bm, ⟨mg, .inr ⟨bm, rfl, by rw [if_neg hc11]; exact hM⟩⟩, .inl rfl⟩)

set_option maxRecDepth 100000 in
set_option maxHeartbeats 800000 in
theorem len15n (w0 : World) : Calls Tryd.prog 15 #[.pointer none] w0 fun e w' => e = .returned (.int .i64 0) ∧ Below w0.heap.size w0 w' := by
  have hB := Below.refl w0.heap.size w0
  refine calls_fs 10 [(0, .pointer none)] Tryd.func15 rfl rfl rfl rfl rfl fun a hF => ?_
  refine wp_rs fun K1 hK1 => ?_
  refine s_val hF (x_assign rfl) (by decide) fun a hF => ?_
  refine s_end (hK1 _ _ ?_)
  refine wp_seq_k fun K2 hK2 => ?_
  refine wp_rs fun K3 hK3 => ?_
  refine s_val hF (x_move rfl) (by decide) fun a hF => ?_
  refine s_val hF (x_ptr Tryd.underlying34 rfl rfl) (by decide) fun a hF => ?_
  refine s_end (hK3 _ _ ?_)
  refine wp_if hF rfl ?_
  refine wp_rs fun K4 hK4 => ?_
  refine s_val hF (x_assign rfl) (by decide) fun a hF => ?_
  refine s_end (hK4 _ _ ?_)
  refine wp_ret (then_ret (res_slot hF rfl rfl ⟨rfl, hB⟩))

set_option maxRecDepth 100000 in
set_option maxHeartbeats 800000 in
theorem len15 (g : Nat) (m : Option Nat) (ss : List Sg) (w0 : World) (hL : LG w0 g m ss) : Calls Tryd.prog 15 #[.pointer (some ⟨g, 0, none⟩)] w0 fun e w' => e = .returned (.int .i64 (ss.length : Int)) ∧ Below w0.heap.size w0 w' := by
  have hB := Below.refl w0.heap.size w0
  refine calls_fs 10 [(0, .pointer (some ⟨g, 0, none⟩))] Tryd.func15 rfl rfl rfl rfl rfl fun a hF => ?_
  refine wp_rs fun K1 hK1 => ?_
  refine s_val hF (x_assign rfl) (by decide) fun a hF => ?_
  refine s_end (hK1 _ _ ?_)
  refine wp_seq_k fun K2 hK2 => ?_
  refine wp_rs fun K3 hK3 => ?_
  refine s_val hF (x_move rfl) (by decide) fun a hF => ?_
  refine s_val hF (x_ptr Tryd.underlying34 rfl rfl) (by decide) fun a hF => ?_
  refine s_end (hK3 _ _ ?_)
  refine wp_if hF rfl ?_
  refine wp_skip (hK2 _ _ ?_)
  rcases hL.2 with ⟨rfl, rfl⟩ | ⟨bm, rfl, hM⟩
  · skip
    refine wp_rs fun K5 hK5 => ?_
    refine s_val hF (x_move rfl) (by decide) fun a hF => ?_
    refine s_val hF (x_nil rfl) (by decide) fun a hF => ?_
    refine s_val hF (x_fldM rfl) (by decide) fun a hF => ?_
    refine s_val hF (x_ldM hL.1 rfl) (by decide) fun a hF => ?_
    refine s_val hF (x_lenM0 Tryd.underlying50 rfl) (by decide) fun a hF => ?_
    refine s_val hF (x_assign rfl) (by decide) fun a hF => ?_
    refine s_end (hK5 _ _ ?_)
    refine wp_ret (res_slot hF rfl rfl ⟨rfl, hB⟩)
  · skip
    refine wp_rs fun K6 hK6 => ?_
    refine s_val hF (x_move rfl) (by decide) fun a hF => ?_
    refine s_val hF (x_nil rfl) (by decide) fun a hF => ?_
    refine s_val hF (x_fldM rfl) (by decide) fun a hF => ?_
    refine s_val hF (x_ldM hL.1 rfl) (by decide) fun a hF => ?_
    refine s_val hF (x_lenM Tryd.underlying50 hM rfl) (by decide) fun a hF => ?_
    refine s_val hF (x_assign rfl) (by decide) fun a hF => ?_
    refine s_end (hK6 _ _ ?_)
    refine wp_ret (res_slot hF rfl rfl ⟨rfl, hB⟩)

theorem set_step {ys xs xs' : List Int} {z : Int} (h : ∀ x, x ∈ ys ↔ x ∈ xs) (e : xs' = xs ++ [z]) : ∀ x, x ∈ (if z ∈ ys then ys else ys ++ [z]) ↔ x ∈ xs' := by
  subst e
  intro x
  split
  · next hz =>
    rw [h x, List.mem_append]
    refine ⟨.inl, fun hx => hx.elim id fun hx => ?_⟩
    simp at hx
    subst hx
    exact (h x).1 hz
  · rw [List.mem_append, List.mem_append, h x]

set_option maxRecDepth 100000 in
set_option maxHeartbeats 800000 in
theorem keySet22 (zs : List Int) (v : Value) (w0 : World) (hR : RI w0 v zs) (hn : zs.length ≤ 9223372036854775807) : Calls Tryd.prog 22 #[v] w0 fun e w' => ∃ v, e = .returned v ∧ (∃ b ys, v = .map (some b) ∧ SetM intv (fun _ => True) w' b ys ∧ ∀ z, z ∈ ys ↔ z ∈ zs) ∧ Below w0.heap.size w0 w' := by
  obtain ⟨av, cv, rfl, _⟩ := hR.form
  have hB := Below.refl w0.heap.size w0
  refine calls_fs 20 [(0, .slice av zs.length cv)] Tryd.func22 rfl rfl rfl rfl rfl fun a hF => ?_

  refine wp_rs fun K1 hK1 => ?_
  refine s_val hF (x_assign rfl) (by decide) fun a hF => ?_
  refine s_end (hK1 _ _ ?_)
  refine wp_rs fun K2 hK2 => ?_
  refine s_val hF (x_move rfl) (by decide) fun a hF => ?_
  refine s_val hF (x_len Tryd.underlying33 rfl) (by decide) fun a hF => ?_
  refine s_mkm intv (fun _ => True) Tryd.underlying55 hF (by decide) rfl fun w2 bm a ebm hM B3 zbm hF => ?_
  have sB3 := B3.size
  have hB := hB.trans (B3.mono hB.size)
  refine s_val hF (x_assign rfl) (by decide) fun a hF => ?_
  refine s_end (hK2 _ _ ?_)
  refine wp_seq_k fun K3 hK3 => ?_
  refine wp_rs fun K4 hK4 => ?_
  refine s_val hF (x_move rfl) (by decide) fun a hF => ?_
  refine s_val hF (x_len Tryd.underlying33 rfl) (by decide) fun a hF => ?_
  refine s_val hF (x_move rfl) (by decide) fun a hF => ?_
  refine s_end (hK4 _ _ ?_)
  refine wp_block ?_
  refine wp_up zs.length (fun i a w => ∃ ys, SetM intv (fun _ => True) w bm ys ∧ (∀ z, z ∈ ys ↔ z ∈ zs.take i) ∧ Below w0.heap.size w0 w ∧ Fs 20 a [(11, .int .i64 (i : Int)), (10, .int .i64 (zs.length : Int)), (9, .slice av zs.length cv), (3, .map (some bm))]) ⟨[], hM, by simp, hB, hF.sub _ rfl⟩ ?_
  clear hF hB hM
  rintro i a w hi ⟨ys, hM, hys, hB, hF⟩ K' hK'
  refine wp_rs fun K5 hK5 => ?_
  refine s_val hF (x_lss rfl rfl rfl) (by decide) fun a hF => ?_
  refine s_end (hK5 _ _ ?_)
  refine wp_seq_k fun K6 hK6 => ?_
  refine wp_iff hF rfl (fun hc12 => ?_) (fun hc12 => ?_)
  · obtain ⟨b, off, c, hve, _⟩ := hR.some (by omega)
    cases hve
    refine wp_skip (hK6 _ _ ?_)
    refine wp_seq_k fun K7 hK7 => ?_
    refine wp_block ?_
    refine wp_rs fun K8 hK8 => ?_
    refine s_val hF (x_ixa rfl rfl (m_ixs i Tryd.underlying33 el33.size rfl (by omega))) (by decide) fun a hF => ?_
    refine s_val hF ((hR.below hB).load (j := i) (by omega) rfl) (by decide) fun a hF => ?_
    refine s_val hF (x_assign rfl) (by decide) fun a hF => ?_
    refine s_end (hK8 _ _ ?_)
    refine wp_region_lit ?_
    refine s_val hF (x_move rfl) (by decide) fun a hF => ?_
    refine s_val hF (x_move rfl) (by decide) fun a hF => ?_
    refine s_val hF (x_bld (built53 _)) (by decide) fun a hF => ?_
    refine s_mapu keyI Tryd.underlying55 (u := zs.getD i 0) trivial hM hF rfl rfl rfl fun w4 hM o5 => ?_
    have so5 := o5.size
    have hB := hB.trans (o5.below (by omega))
    refine s_end (hK7 _ _ ?_)
    refine wp_region_lit ?_
    refine s_val hF (x_addn (i + 1) (by omega) (by omega) rfl rfl) (by decide) fun a hF => ?_
    refine s_val hF (x_move rfl) (by decide) fun a hF => ?_
    refine s_end (hK' _ _ (by omega) ⟨_, hM, set_step hys (take_snoc zs i 0 (by omega)), hB, hF.sub _ rfl⟩)
  · obtain rfl : i = zs.length := by omega
    rw [List.take_length] at hys
    refine wp_exit (hK3 _ _ ?_)
    refine wp_rs fun K9 hK9 => ?_
    refine s_val hF (x_move rfl) (by decide) fun a hF => ?_
    refine s_val hF (x_assign rfl) (by decide) fun a hF => ?_
    refine s_end (hK9 _ _ ?_)
    refine wp_ret (res_slot hF rfl rfl ⟨_, rfl, ⟨bm, ys, rfl, hM, hys⟩, hB⟩)

/-- Each was issued, or is a faulty one's. -/
def der (ss : List Sg) (zs : List Int) (ts : List Sg) : Bool := ts.all fun t => decide (t.1 ∈ zs) || decide (t ∈ ss)
theorem der_snoc {ss : List Sg} {zs : List Int} {ts : List Sg} {t : Sg} : der ss zs (ts ++ [t]) = (der ss zs ts && (decide (t.1 ∈ zs) || decide (t ∈ ss))) := by simp [der]
theorem der_take {ss : List Sg} {zs : List Int} {ts : List Sg} {i : Nat} (hi : i < ts.length) (h : der ss zs (ts.take i) = true) (h1 : (ts.getD i z0).1 ∈ zs ∨ ts.getD i z0 ∈ ss) : der ss zs (ts.take (i + 1)) = true := by
  rw [take_snoc ts i z0 hi, der_snoc, h]
  simpa using h1
theorem der_not {ss : List Sg} {zs : List Int} {ts : List Sg} {i : Nat} (hi : i < ts.length) (h1 : (ts.getD i z0).1 ∉ zs) (h2 : ts.getD i z0 ∉ ss) : der ss zs ts = false := by
  unfold der
  rw [List.all_eq_false]
  exact ⟨_, List.mem_of_getElem? (getD_get ts i z0 hi), by simp only [decide_eq_false h1, decide_eq_false h2]; decide⟩

set_option maxRecDepth 100000 in
set_option maxHeartbeats 800000 in
theorem der16n (v1 v2 : Value) (w0 : World) : Calls Tryd.prog 16 #[.pointer none, v1, v2] w0 fun e w' => e = .returned (.bool false) ∧ Below w0.heap.size w0 w' := by
  have hB := Below.refl w0.heap.size w0
  refine calls_fs 38 [(0, .pointer none), (1, v1), (2, v2)] Tryd.func16 rfl rfl rfl rfl rfl fun a hF => ?_
  refine wp_rs fun K1 hK1 => ?_
  refine s_val hF (x_assign rfl) (by decide) fun a hF => ?_
  refine s_end (hK1 _ _ ?_)
  refine wp_seq_k fun K2 hK2 => ?_
  refine wp_rs fun K3 hK3 => ?_
  refine s_val hF (x_move rfl) (by decide) fun a hF => ?_
  refine s_val hF (x_ptr Tryd.underlying34 rfl rfl) (by decide) fun a hF => ?_
  refine s_end (hK3 _ _ ?_)
  refine wp_if hF rfl ?_
  refine wp_rs fun K4 hK4 => ?_
  refine s_val hF (x_assign rfl) (by decide) fun a hF => ?_
  refine s_end (hK4 _ _ ?_)
  refine wp_ret (then_ret (res_slot hF rfl rfl ⟨rfl, hB⟩))

set_option maxRecDepth 100000 in
set_option maxHeartbeats 1600000 in
theorem der16 (g : Nat) (m : Option Nat) (ss ts : List Sg) (zs : List Int) (v1 v2 : Value) (w0 : World) (hL : LG w0 g m ss) (hR1 : RG w0 v1 ts) (hR2 : RI w0 v2 zs) (hn1 : ts.length ≤ 9223372036854775807) (hn2 : zs.length ≤ 9223372036854775807) : Calls Tryd.prog 16 #[.pointer (some ⟨g, 0, none⟩), v1, v2] w0 fun e w' => e = .returned (.bool (der ss zs ts)) ∧ Below w0.heap.size w0 w' := by
  obtain ⟨a1, c1, rfl, _⟩ := hR1.form
  obtain ⟨a2, c2, rfl, _⟩ := hR2.form
  have hB := Below.refl w0.heap.size w0
  refine calls_fs 38 [(0, .pointer (some ⟨g, 0, none⟩)), (1, .slice a1 ts.length c1), (2, .slice a2 zs.length c2)] Tryd.func16 rfl rfl rfl rfl rfl fun a hF => ?_
  refine wp_rs fun K1 hK1 => ?_
  refine s_val hF (x_assign rfl) (by decide) fun a hF => ?_
  refine s_end (hK1 _ _ ?_)
  refine wp_seq_k fun K2 hK2 => ?_
  refine wp_rs fun K3 hK3 => ?_
  refine s_val hF (x_move rfl) (by decide) fun a hF => ?_
  refine s_val hF (x_ptr Tryd.underlying34 rfl rfl) (by decide) fun a hF => ?_
  refine s_end (hK3 _ _ ?_)
  refine wp_if hF rfl ?_
  refine wp_skip (hK2 _ _ ?_)
  refine wp_rs fun K4 hK4 => ?_
  refine s_val hF (x_move rfl) (by decide) fun a hF => ?_
  refine s_callR (R := fun v w' => ∃ b ys, v = .map (some b) ∧ SetM intv (fun _ => True) w' b ys ∧ ∀ z, z ∈ ys ↔ z ∈ zs) [.slice a2 zs.length c2] hF (enters_of Tryd.func22 (by kernel_rfl) rfl) rfl (by decide) (keySet22 zs _ w0 (hR2.below hB) hn2) ?_
  rintro _ w2 a ⟨bm, ys, rfl, hM, hys⟩ B3 hF
  have sB3 := B3.size
  have hB := hB.trans (B3.mono hB.size)
  refine s_val hF (x_assign rfl) (by decide) fun a hF => ?_
  refine s_end (hK4 _ _ ?_)
  refine wp_seq_k fun K5 hK5 => ?_
  refine wp_rs fun K6 hK6 => ?_
  refine s_val hF (x_move rfl) (by decide) fun a hF => ?_
  refine s_val hF (x_len Tryd.underlying31 rfl) (by decide) fun a hF => ?_
  refine s_val hF (x_move rfl) (by decide) fun a hF => ?_
  refine s_end (hK6 _ _ ?_)
  refine wp_block ?_
  have hBm := Below.refl w2.heap.size w2
  refine wp_up ts.length (fun i a w => der ss zs (ts.take i) = true ∧ Below w0.heap.size w0 w ∧ Below w2.heap.size w2 w ∧ Fs 38 a [(18, .int .i64 (i : Int)), (17, .int .i64 (ts.length : Int)), (16, .slice a1 ts.length c1), (7, .map (some bm)), (0, .pointer (some ⟨g, 0, none⟩))]) ⟨by simp [der], hB, hBm, hF.sub _ rfl⟩ ?_
  clear hF hB hBm
  rintro i a w hi ⟨hd, hB, hBm, hF⟩ K' hK'
  have sB := hB.size
  have sBm := hBm.size
  refine wp_rs fun K7 hK7 => ?_
  refine s_val hF (x_lss rfl rfl rfl) (by decide) fun a hF => ?_
  refine s_end (hK7 _ _ ?_)
  refine wp_seq_k fun K8 hK8 => ?_
  refine wp_iff hF rfl (fun hc19 => ?_) (fun hc19 => ?_)
  · obtain ⟨bq, off, c, hve, _⟩ := hR1.some (by omega)
    cases hve
    refine wp_skip (hK8 _ _ ?_)
    refine wp_seq_k fun K9 hK9 => ?_
    refine wp_block ?_
    refine wp_rs fun K10 hK10 => ?_
    refine s_val hF (x_ixa rfl rfl (m_ixsK i Tryd.underlying31 el31.size rfl (by omega))) (by decide) fun a hF => ?_
    refine s_val hF ((hR1.below hB).load (j := i) (by omega) rfl) (by decide) fun a hF => ?_
    refine s_alloc hF (by decide) zero26 fun w4 b9 a eb9 m9 B5 zb9 hF => ?_
    have sB5 := B5.size
    have hB := hB.trans (B5.mono hB.size)
    have hBm := hBm.trans (B5.mono hBm.size)
    have hb9 := hB.size
    have hb9m := hBm.size
    refine s_putG z0g (hR1.good (j := i) (by omega)) m9 hF rfl rfl fun w6 m9 o7 => ?_
    have so7 := o7.size
    have hB := hB.trans (o7.below (by omega))
    have hBm := hBm.trans (o7.below (by omega))
    refine s_end (hK10 _ _ ?_)
    by_cases hk : (ts.getD i z0).1 ∈ zs
    · skip
      refine wp_rs fun K12 hK12 => ?_
      refine s_val hF (x_move rfl) (by decide) fun a hF => ?_
      refine s_val hF (x_key rfl) (by decide) fun a hF => ?_
      refine s_val hF (x_loadK m9 rfl) (by decide) fun a hF => ?_
      refine s_val hF (x_lookI (c := true) (hM.below hBm) (decide_eq_true ((hys _).2 hk)) rfl rfl) (by decide) fun a hF => ?_
      refine s_val hF (x_move rfl) (by decide) fun a hF => ?_
      refine s_val hF (x_ext rfl rfl) (by decide) fun a hF => ?_
      refine s_val hF (x_ext rfl rfl) (by decide) fun a hF => ?_
      refine s_alloc hF (by decide) zero53' fun w8 b10 a eb10 m10 B9 zb10 hF => ?_
      have sB9 := B9.size
      have hB := hB.trans (B9.mono hB.size)
      have hBm := hBm.trans (B9.mono hBm.size)
      have m9 := m9.old B9
      refine s_putW (vs := []) hF rfl rfl size53 m10 rfl (by simp) fun w10 m10 o11 => ?_
      have so11 := o11.size
      have hB := hB.trans (o11.below (by omega))
      have hBm := hBm.trans (o11.below (by omega))
      have m9 := m9.only o11 (by omega)
      refine s_val hF (x_assign rfl) (by decide) fun a hF => ?_
      refine s_end (hK12 _ _ ?_)
      refine wp_rs fun K13 hK13 => ?_
      refine s_val hF (x_move rfl) (by decide) fun a hF => ?_
      refine s_val hF (x_not rfl) (by decide) fun a hF => ?_
      refine s_val hF (x_move rfl) (by decide) fun a hF => ?_
      refine s_grdn 31 hF rfl rfl (by decide) fun a hF => ?_
      refine s_grdn 31 hF rfl rfl (by decide) fun a hF => ?_
      refine s_grdn 31 hF rfl rfl (by decide) fun a hF => ?_
      refine s_grdn 31 hF rfl rfl (by decide) fun a hF => ?_
      refine s_val hF (x_pick rfl rfl) (by decide) fun a hF => ?_
      refine s_end (hK13 _ _ ?_)
      refine wp_if hF rfl ?_
      refine wp_skip (hK9 _ _ ?_)
      refine wp_region_lit ?_
      refine s_val hF (x_addn (i + 1) (by omega) (by omega) rfl rfl) (by decide) fun a hF => ?_
      refine s_val hF (x_move rfl) (by decide) fun a hF => ?_
      refine s_end (hK' _ _ (by omega) ⟨der_take (by omega) hd (by first | exact .inl hk | exact .inr hk2), hB, hBm, hF.sub _ rfl⟩)
    · skip
      refine wp_rs fun K14 hK14 => ?_
      refine s_val hF (x_move rfl) (by decide) fun a hF => ?_
      refine s_val hF (x_key rfl) (by decide) fun a hF => ?_
      refine s_val hF (x_loadK m9 rfl) (by decide) fun a hF => ?_
      refine s_val hF (x_lookI (c := false) (hM.below hBm) (decide_eq_false (fun h => hk ((hys _).1 h))) rfl rfl) (by decide) fun a hF => ?_
      refine s_val hF (x_move rfl) (by decide) fun a hF => ?_
      refine s_val hF (x_ext rfl rfl) (by decide) fun a hF => ?_
      refine s_val hF (x_ext rfl rfl) (by decide) fun a hF => ?_
      refine s_alloc hF (by decide) zero53' fun w12 b10 a eb10 m10 B13 zb10 hF => ?_
      have sB13 := B13.size
      have hB := hB.trans (B13.mono hB.size)
      have hBm := hBm.trans (B13.mono hBm.size)
      have m9 := m9.old B13
      refine s_putW (vs := []) hF rfl rfl size53 m10 rfl (by simp) fun w14 m10 o15 => ?_
      have so15 := o15.size
      have hB := hB.trans (o15.below (by omega))
      have hBm := hBm.trans (o15.below (by omega))
      have m9 := m9.only o15 (by omega)
      refine s_val hF (x_assign rfl) (by decide) fun a hF => ?_
      refine s_end (hK14 _ _ ?_)
      refine wp_rs fun K15 hK15 => ?_
      refine s_val hF (x_move rfl) (by decide) fun a hF => ?_
      refine s_val hF (x_not rfl) (by decide) fun a hF => ?_
      refine s_val hF (x_move rfl) (by decide) fun a hF => ?_
      refine s_grd 31 hF rfl rfl rfl ?_
      refine s_val hF (x_move rfl) (by decide) fun a hF => ?_
      refine s_grd 31 hF rfl rfl rfl ?_
      refine s_val hF (x_loadG (hR1.good (j := i) (by omega)) m9 rfl) (by decide) fun a hF => ?_
      refine s_grd 31 hF rfl rfl rfl ?_
      refine s_callB [.pointer (some ⟨g, 0, none⟩), sigv (ts.getD i z0)] hF (enters_of Tryd.func14 (by kernel_rfl) rfl) rfl (by decide) (issued14 g m ss _ (hR1.good (j := i) (by omega)) w14 (hL.below hB)) fun w16 a B17 hF => ?_
      have sB17 := B17.size
      have hB := hB.trans (B17.mono hB.size)
      have hBm := hBm.trans (B17.mono hBm.size)
      have m9 := m9.old B17
      have m10 := m10.old B17
      refine s_grd 31 hF rfl rfl rfl ?_
      refine s_val hF (x_not rfl) (by decide) fun a hF => ?_
      refine s_val hF (x_pick rfl rfl) (by decide) fun a hF => ?_
      refine s_end (hK15 _ _ ?_)
      refine wp_ifb hF rfl (fun hc36 => ?_) (fun hc36 => ?_)
      · have hk2 : ts.getD i z0 ∉ ss := by simpa using hc36
        refine wp_rs fun K16 hK16 => ?_
        refine s_val hF (x_assign rfl) (by decide) fun a hF => ?_
        refine s_end (hK16 _ _ ?_)
        refine wp_ret (inb_ret (then_ret (then_ret (inb_ret (then_ret (res_slot hF rfl rfl ⟨by first | rw [hd] | rw [der_not (i := i) (by omega) hk hk2], hB⟩))))))
      · have hk2 : ts.getD i z0 ∈ ss := by simpa using hc36
        refine wp_skip (hK9 _ _ ?_)
        refine wp_region_lit ?_
        refine s_val hF (x_addn (i + 1) (by omega) (by omega) rfl rfl) (by decide) fun a hF => ?_
        refine s_val hF (x_move rfl) (by decide) fun a hF => ?_
        refine s_end (hK' _ _ (by omega) ⟨der_take (by omega) hd (by first | exact .inl hk | exact .inr hk2), hB, hBm, hF.sub _ rfl⟩)
  · obtain rfl : i = ts.length := by omega
    rw [List.take_length] at hd
    refine wp_exit (hK5 _ _ ?_)
    refine wp_rs fun K17 hK17 => ?_
    refine s_val hF (x_assign rfl) (by decide) fun a hF => ?_
    refine s_end (hK17 _ _ ?_)
    refine wp_ret (res_slot hF rfl rfl ⟨by first | rw [hd] | rw [der_not (i := i) (by omega) hk hk2], hB⟩)
end Go.Proofs.YtefpenjcgplamaaDoor
