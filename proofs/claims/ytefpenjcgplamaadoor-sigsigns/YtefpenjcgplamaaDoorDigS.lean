/- Digests, signatures and what sig's functions want of the seat's types. -/
import Derived.Test.YtefpenjcgplamaaDoorRsum
import Derived.Test.YtefpenjcgplamaaDoorSymU
import Derived.Laws.StructEq
namespace Go.Proofs.YtefpenjcgplamaaDoor
open Go.RowKit Go.Shelf
set_option linter.unusedVariables false
set_option linter.unusedSimpArgs false

/-- A digest as a value. -/
abbrev dig (ds : List UInt8) : Value := .agg (ds.map encB).toArray
theorem el22 : Elem Tryd.prog 22 5 1 1 := elem_of (by kernel_rfl)
theorem el31 : Elem Tryd.prog 31 26 33 40 := elem_of (by kernel_rfl)
theorem el33 : Elem Tryd.prog 33 3 1 8 := elem_of (by kernel_rfl)
theorem el32 : Elem Tryd.prog 32 4 1 1 := elem_of (by kernel_rfl)
theorem flat4 : Flat Tryd.prog 4 = true := by kernel_rfl
theorem flat50 : Flat Tryd.prog 50 = true := by kernel_rfl
theorem guard26 : Tryd.prog.eqGuardType Tryd.prog.depth 26 = false := by kernel_rfl
theorem wide26 : Wide Tryd.prog 26 33 = true := by kernel_rfl
theorem stood26 : Tryd.prog.stoodInHeld 26 = false := by kernel_rfl
theorem fields26 : Tryd.prog.underlying 26 = some (.struct (Tryd.prog.fieldsOf 26)) := by rw [Program.fieldsOf, Tryd.underlying26]
theorem zero53 : (Tryd.prog.info? 53).bind (·.zero) = some (.agg #[]) := by kernel_rfl

/-- A signature: its key, its digest. -/
abbrev Sg := Int × List UInt8
def sigL (s : Sg) : List Value := .int .i64 s.1 :: s.2.map encB
abbrev sigv (s : Sg) : Value := .agg (sigL s).toArray
def goodS (s : Sg) : Prop := s.2.length = 32
theorem sigL_length {s : Sg} (h : goodS s) : (sigL s).length = 33 := by unfold goodS at h; simp [sigL, h]
theorem oneS (s : Sg) : ∀ u ∈ sigL s, u.oneCell' = true := by
  intro u hu
  rcases List.mem_cons.1 hu with rfl | hu
  · rfl
  · exact oneB _ u hu
theorem wdS {s : Sg} (h : goodS s) : Wide Tryd.prog 26 (sigL s).length = true := by rw [sigL_length h]; exact wide26
theorem szS {s : Sg} (h : goodS s) : (Tryd.prog.info? 26).map (·.size) = some (sigL s).length := by rw [sigL_length h]; exact size_wide wide26
def z0 : Sg := (0, List.replicate 32 0)
theorem z0g : goodS z0 := rfl
theorem zero26 : (Tryd.prog.info? 26).bind (·.zero) = some (.agg (sigL z0).toArray) := by kernel_rfl

theorem uncons {o : List UInt8} {n : Nat} (h : o.length = n + 1) : ∃ a t, o = a :: t ∧ t.length = n := by
  rcases o with _ | ⟨a, t⟩
  · simp at h
  · exact ⟨a, t, rfl, by simpa using h⟩
/-! ### Two signatures -/
theorem part_key {w : World} (s : Sg) : (part 3 (sigL s).toArray 0).run Tryd.prog w = .ok (.int .i64 s.1) w := by
  simp [part, run_isAgg_flat flat3, sigL]
theorem part_of {w : World} {s : Sg} (h : goodS s) : (part 24 (sigL s).toArray 1).run Tryd.prog w = .ok (dig s.2) w := by
  unfold goodS at h
  have e : (sigL s).toArray.extract 1 33 = (s.2.map encB).toArray := by
    have : List.take 32 (s.2.map encB) = s.2.map encB := List.take_of_length_le (by simp [h])
    simp [sigL, this]
  simp only [part, Sem.run_bind, run_isAgg_wide wide24, Result.andThen_ok, if_true, run_sizeOf_of (size_wide wide24)]
  show Result.ok (Value.agg ((sigL s).toArray.extract 1 33)) w = _
  rw [e]
theorem run_eqS {w : World} {s u : Sg} (hs : goodS s) (hu : goodS u) (d : Nat) : (Op.equalIn (d + 3) 26 (sigv s) (sigv u)).run Tryd.prog w = .ok (decide (s = u)) w := by
  rw [show d + 3 = (d + 2) + 1 from rfl, run_equalIn_struct w (d + 2) 26 _ _ fields26 stood26]
  have hf : (Tryd.prog.fieldsOf 26).toList = [⟨"Key", 3, 0, false, "", "", 0⟩, ⟨"Of", 24, 1, false, "", "", 8⟩] := by rw [Program.fieldsOf, Tryd.underlying26]
  have h1 := run_equalIn_array (P := Tryd.prog) (w := w) (d := d + 1) (xs := (s.2.map encB).toArray) (ys := (u.2.map encB).toArray) Tryd.underlying24 (size_flat flat5)
  have h2 := run_eqFrom (P := Tryd.prog) (w := w) (d := d) Tryd.underlying5 flat5 s.2 u.2 (hs.trans hu.symm) (List.range 32) (fun i hi => by rw [hs]; simpa using hi)
  have h3 : ((List.range 32).all fun i => s.2.getD i 0 == u.2.getD i 0) = decide (s.2 = u.2) := by rw [← hs]; exact all_eq s.2 u.2 (hs.trans hu.symm)
  have h4 : (Op.equalIn (d + 1 + 1) 24 (dig s.2) (dig u.2)).run Tryd.prog w = .ok (decide (s.2 = u.2)) w := by rw [h1, h2, h3]
  rw [hf]
  simp only [Op.eqFields, Sem.run_bind, part_key, part_of hs, part_of hu, Result.andThen_ok, run_equalIn_int w (d + 1) 3 .i64 .i64 s.1 u.1 Tryd.underlying3, Sem.run_ite, h4]
  obtain ⟨k1, o1⟩ := s
  obtain ⟨k2, o2⟩ := u
  by_cases hk : k1 = k2
  · subst hk
    by_cases ho : o1 = o2
    · simp [ho]
    · simp [ho]
  · simp [hk]
theorem checkS {w : World} {s : Sg} (hs : goodS s) (e : Bool) : (Instr.checkKey e 10000 26 (sigv s)).run Tryd.prog w = .ok () w := by
  have h5 : ∀ d (x : UInt8), (Instr.checkKey e (d + 1) 5 (encB x)).run Tryd.prog w = .ok () w := fun d x => by
    unfold encB
    simp [Instr.checkKey, run_underlying Tryd.underlying5]
  have h3 : ∀ d, (Instr.checkKey e (d + 1) 3 (.int .i64 s.1)).run Tryd.prog w = .ok () w := fun d => by
    simp [Instr.checkKey, run_underlying Tryd.underlying3]
  have h24 : ∀ d, (Instr.checkKey e (d + 1 + 1) 24 (dig s.2)).run Tryd.prog w = .ok () w := fun d => by
    rw [Instr.checkKey]
    simp only [Sem.run_bind, run_underlying Tryd.underlying24, Result.andThen_ok]
    rw [Std.Legacy.Range.forIn_eq_forIn_range']
    simp only [Std.Legacy.Range.size, Nat.sub_zero, Nat.add_sub_cancel, Nat.div_one, ← List.range_eq_range']
    have key : ∀ is : List Nat, (∀ i ∈ is, i < 32) → (forIn (m := Sem) is PUnit.unit fun i r => do
        let a ← part 5 (s.2.map encB).toArray (i * (← sizeOf 5))
        Instr.checkKey e (d + 1) 5 a
        pure (ForInStep.yield PUnit.unit)).run Tryd.prog w = .ok PUnit.unit w := by
      intro is
      induction is with
      | nil => intro _; simp
      | cons i is ih =>
        intro hi
        have hl : i < s.2.length := by rw [hs]; exact hi i (by simp)
        have px : (part 5 (s.2.map encB).toArray i).run Tryd.prog w = .ok (encB (s.2.getD i 0)) w := by
          have : (s.2.map encB).toArray[i]? = some (encB (s.2.getD i 0)) := by
            rw [List.getElem?_toArray, List.getElem?_map, getD_get s.2 i 0 hl]
            rfl
          simp [part, run_isAgg_flat flat5, this]
        simp only [List.forIn_cons, Sem.run_bind, run_sizeOf_of (size_flat flat5), Result.andThen_ok, Nat.mul_one, px, h5 d, Sem.run_pure]
        exact ih (fun j hj => hi j (by simp [hj]))
    have := key (List.range 32) (fun i hi => by simpa using hi)
    simp only [bind_pure_comp] at this
    simp [this]
  rw [show (10000 : Nat) = 9999 + 1 from rfl, Instr.checkKey]
  simp only [Sem.run_bind, run_underlying Tryd.underlying26, Result.andThen_ok]
  rw [← Array.forIn_toList]
  have h3' := h3 9998
  have h24' := h24 9997
  have hp := part_of (w := w) hs
  simp [List.forIn_cons, List.forIn_nil, part_key, hp, h3', h24']
theorem bits_list : ∀ (n : Nat) (bs : List UInt8), ((bs.map encB).zip (bs.map encB)).all (fun (x, y) => Instr.sameBits n x y) = true := by
  intro n bs
  induction bs with
  | nil => rfl
  | cons b bs ih =>
    rw [List.map_cons, List.zip_cons_cons, List.all_cons, ih, Bool.and_true]
    unfold encB
    cases n <;> simp [Instr.sameBits]
theorem keyS : KeyT Tryd.prog 26 (.struct #[⟨"Key", 3, 0, false, "", "", 0⟩, ⟨"Of", 24, 1, false, "", "", 8⟩]) sigv goodS where
  under := Tryd.underlying26
  eq x y W hx hy := by
    have := run_eqS (w := W) hx hy 9997
    simpa [Op.equal, Op.maxDepth] using this
  now := .inr fun x y => by simp [Instr.sameNow]
  check x e W hx := checkS hx e
  bits x hx := by
    have h := bits_list 9999 x.2
    rw [show (10000 : Nat) = 9999 + 1 from rfl]
    simp only [sigv, sigL, Instr.sameBits, List.size_toArray, beq_self_eq_true, Bool.true_and, List.zip_cons_cons, List.all_cons, h, Bool.and_true]
/-- Keys that are ints. -/
abbrev intv (z : Int) : Value := .int .i64 z
theorem keyI : KeyT Tryd.prog 3 (.int .i64) intv (fun _ => True) where
  under := Tryd.underlying3
  eq x y W _ _ := by
    have := run_equalIn_int (P := Tryd.prog) W 9999 3 .i64 .i64 x y Tryd.underlying3
    rw [Op.equal, Op.maxDepth, show (10000 : Nat) = 9999 + 1 from rfl, this]
    congr 1
  now := .inl fun x y _ _ => by simp [Instr.sameNow]; rw [Bool.eq_iff_iff]; simp
  check x e W _ := by
    have : ∀ n, (Instr.checkKey e (n + 1) 3 (intv x)).run Tryd.prog W = .ok () W := fun n => by simp [Instr.checkKey, run_underlying Tryd.underlying3]
    exact this 9999
  bits x _ := by
    have : ∀ n, Instr.sameBits n (intv x) (intv x) = true := fun n => by cases n <;> simp [Instr.sameBits]
    exact this _

section
variable {n d : Nat} {l : List (Nat × Value)} {w : World} {a : Act} {ops : Array Oper} {Q : Exit → Act → World → Prop} {rest : List Oper} {ty : TypeId} {pos : String} {af : Array Edge} {x y : Operand}
theorem x_loadG {b t0 : Nat} {s : Sg} (h : goodS s) (m : Blk w b t0 (sigL s)) (hx : ov l x = some (.pointer (some ⟨b, 0, none⟩))) : Runs Tryd.prog n l w (.load 26 x) (sigv s) := x_load hx (m_loadW (wdS h) m)
theorem x_key {b : Nat} (hx : ov l x = some (.pointer (some ⟨b, 0, none⟩))) : Runs Tryd.prog n l w (.fieldAddr 26 x 0) (.pointer (some ⟨b, 0, none⟩)) := x_field hx (by
  have := m_field (P := Tryd.prog) (w := w) (b := b) (o := 0) (f := 0) Tryd.underlying26 rfl (by kernel_rfl) (by kernel_rfl)
  simpa using this)
theorem x_loadK {b t0 : Nat} {s : Sg} (m : Blk w b t0 (sigL s)) (hx : ov l x = some (.pointer (some ⟨b, 0, none⟩))) : Runs Tryd.prog n l w (.load 3 x) (.int .i64 s.1) := x_load hx (m_load flat3 (m.cell rfl))
theorem x_eqG {s u : Sg} {t' : TypeId} {b : Bool} (h1 : goodS s) (h2 : goodS u) (hb : decide (s = u) = b) (hx : ov l x = some (sigv s)) (hy : ov l y = some (sigv u)) : Runs Tryd.prog n l w (.binOp .eql 26 x y t') (.bool b) :=
  x_bin hx hy fun W => by
    refine ⟨run_eqGuard_agg W .eql 26 x y _ _ guard26, ?_⟩
    rw [run_eql_struct]
    have := run_eqS (w := W) h1 h2 9997
    rw [show (10000 : Nat) = 9997 + 3 from rfl, this, hb]
    rfl
theorem x_buildG {s : Sg} (h : goodS s) (hx : ov l x = some (.int .i64 s.1)) (hy : ov l y = some (dig s.2)) : Runs Tryd.prog n l w (.build 26 #[(0, x), (1, y)]) (sigv s) :=
  x_build (parts := [(0, x), (1, y)]) (vs := [(0, .int .i64 s.1), (1, dig s.2)]) (by simp [hx, hy]) (by
    obtain ⟨k, o⟩ := s
    unfold goodS at h
    simp only at h
    refine run_build w 26 _ _ ?_
    obtain ⟨o0, r0, rfl, h0⟩ := uncons h
    obtain ⟨o1, r1, rfl, h1⟩ := uncons h0
    obtain ⟨o2, r2, rfl, h2⟩ := uncons h1
    obtain ⟨o3, r3, rfl, h3⟩ := uncons h2
    obtain ⟨o4, r4, rfl, h4⟩ := uncons h3
    obtain ⟨o5, r5, rfl, h5⟩ := uncons h4
    obtain ⟨o6, r6, rfl, h6⟩ := uncons h5
    obtain ⟨o7, r7, rfl, h7⟩ := uncons h6
    obtain ⟨o8, r8, rfl, h8⟩ := uncons h7
    obtain ⟨o9, r9, rfl, h9⟩ := uncons h8
    obtain ⟨o10, r10, rfl, h10⟩ := uncons h9
    obtain ⟨o11, r11, rfl, h11⟩ := uncons h10
    obtain ⟨o12, r12, rfl, h12⟩ := uncons h11
    obtain ⟨o13, r13, rfl, h13⟩ := uncons h12
    obtain ⟨o14, r14, rfl, h14⟩ := uncons h13
    obtain ⟨o15, r15, rfl, h15⟩ := uncons h14
    obtain ⟨o16, r16, rfl, h16⟩ := uncons h15
    obtain ⟨o17, r17, rfl, h17⟩ := uncons h16
    obtain ⟨o18, r18, rfl, h18⟩ := uncons h17
    obtain ⟨o19, r19, rfl, h19⟩ := uncons h18
    obtain ⟨o20, r20, rfl, h20⟩ := uncons h19
    obtain ⟨o21, r21, rfl, h21⟩ := uncons h20
    obtain ⟨o22, r22, rfl, h22⟩ := uncons h21
    obtain ⟨o23, r23, rfl, h23⟩ := uncons h22
    obtain ⟨o24, r24, rfl, h24⟩ := uncons h23
    obtain ⟨o25, r25, rfl, h25⟩ := uncons h24
    obtain ⟨o26, r26, rfl, h26⟩ := uncons h25
    obtain ⟨o27, r27, rfl, h27⟩ := uncons h26
    obtain ⟨o28, r28, rfl, h28⟩ := uncons h27
    obtain ⟨o29, r29, rfl, h29⟩ := uncons h28
    obtain ⟨o30, r30, rfl, h30⟩ := uncons h29
    obtain ⟨o31, r31, rfl, h31⟩ := uncons h30
    obtain rfl := List.eq_nil_of_length_eq_zero h31
    kernel_rfl)
theorem s_putG {t0 : TypeId} {b : Nat} {z s : Sg} (hz : goodS z) (hd : goodS s) (m : Blk w b t0 (sigL z)) (hF : Fs n a l) (hx : ov l x = some (.pointer (some ⟨b, 0, none⟩))) (hy : ov l y = some (sigv s))
    (h : ∀ w', Blk w' b t0 (sigL s) → Only b w w' → wpList Tryd.prog ops Q rest a w') : wpList Tryd.prog ops Q (⟨none, .store 26 x y, ty, pos, af, none⟩ :: rest) a w :=
  s_putW hF hx hy (szS hd) m (by rw [sigL_length hz, sigL_length hd]) (oneS _) h
theorem res_G {fn : Func} {r b t0 : Nat} {s : Sg} {R : Ending → World → Prop} (hF : Fs n a l) (hr : fn.results = #[.cell r 26]) (hl : lk l r = some (.pointer (some ⟨b, 0, none⟩))) (h : goodS s) (m : Blk w b t0 (sigL s)) (hR : R (.returned (sigv s)) w) : bodyPost Tryd.prog fn R .ret a w :=
  res_cell hF hr hl m (wdS h) hR
end

/-- A slice of signatures. -/
def RG (W : World) (v : Value) (ss : List Sg) : Prop := Rd W v 33 ss.length (ss.flatMap sigL) ∧ ∀ s ∈ ss, goodS s
theorem gm_take : ∀ (ds : List Sg) (m : Nat), (∀ d ∈ ds, goodS d) → (ds.flatMap sigL).take (m * 33) = (ds.take m).flatMap sigL
  | [], m, _ => by simp
  | d :: ds, 0, _ => by simp
  | d :: ds, m + 1, h => by
    have h0 : (sigL d).length = 33 := sigL_length (h d (by simp))
    rw [List.flatMap_cons, List.take_succ_cons, List.flatMap_cons, List.take_append, List.take_of_length_le (by omega), h0, show (m + 1) * 33 - 33 = m * 33 by omega, gm_take ds m (fun d hd => h d (by simp [hd]))]
theorem gm_get : ∀ (ds : List Sg) (j i : Nat) (d : Sg) (x : Value), (∀ d ∈ ds, goodS d) → ds[j]? = some d → (sigL d)[i]? = some x → (ds.flatMap sigL)[j * 33 + i]? = some x
  | [], j, i, d, x, _, h1, _ => by simp at h1
  | c :: ds, 0, i, d, x, h, h1, h2 => by
    simp at h1
    subst h1
    rw [List.flatMap_cons, List.getElem?_append_left (by have := (List.getElem?_eq_some_iff.1 h2).1; omega), Nat.zero_mul, Nat.zero_add, h2]
  | c :: ds, j + 1, i, d, x, h, h1, h2 => by
    have h0 : (sigL c).length = 33 := sigL_length (h c (by simp))
    rw [List.flatMap_cons, List.getElem?_append_right (by omega), h0, show (j + 1) * 33 + i - 33 = j * 33 + i by omega]
    exact gm_get ds j i d x (fun d hd => h d (by simp [hd])) (by simpa using h1) h2
theorem gm_len : ∀ (ds : List Sg), (∀ d ∈ ds, goodS d) → (ds.flatMap sigL).length = ds.length * 33
  | [], _ => rfl
  | d :: ds, h => by
    rw [List.flatMap_cons, List.length_append, sigL_length (h d (by simp)), gm_len ds (fun d hd => h d (by simp [hd])), List.length_cons]
    omega
theorem gm_one (ds : List Sg) : ∀ u ∈ ds.flatMap sigL, u.oneCell' = true := by
  intro u hu
  obtain ⟨d, _, h⟩ := List.mem_flatMap.1 hu
  exact oneS d u h
section
variable {W W' : World} {v : Value} {ds : List Sg}
theorem RG.form (h : RG W v ds) : ∃ a c, v = .slice a ds.length c ∧ ds.length ≤ c := by
  obtain ⟨a, c, h1, h2, _⟩ := h.1.form
  exact ⟨a, c, h1, h2⟩
theorem RG.nil (W : World) : RG W (.slice none 0 0) [] := ⟨Rd.nil _ _, by simp⟩
theorem RG.below (h : RG W v ds) (hB : Below W.heap.size W W') : RG W' v ds := ⟨h.1.below hB, h.2⟩
theorem RG.upto {a : Option Addr} {N c : Nat} (h : RG W (.slice a N c) ds) (m : Nat) (hm : m ≤ ds.length) : RG W (.slice a m c) (ds.take m) := by
  refine ⟨?_, fun d hd => h.2 d (List.mem_of_mem_take hd)⟩
  have := h.1.upto m hm
  rw [gm_take ds m h.2] at this
  rwa [show (ds.take m).length = m by rw [List.length_take]; omega]
theorem RG.some (h : RG W v ds) (hn : 0 < ds.length) : ∃ b off c, v = .slice (some ⟨b, off, none⟩) ds.length c ∧ b < W.heap.size := h.1.some hn
theorem RG.good (h : RG W v ds) {j : Nat} (hj : j < ds.length) : goodS (ds.getD j z0) := h.2 _ (List.mem_of_getElem? (getD_get ds j z0 hj))
/-- The jth, at its address. -/
theorem RG.load {b off N c : Nat} {n : Nat} {l : List (Nat × Value)} {x : Operand} (h : RG W (.slice (Option.some ⟨b, off, none⟩) N c) ds) {j : Nat} (hj : j < ds.length) (hx : ov l x = Option.some (.pointer (Option.some ⟨b, off + j * 33, none⟩))) : Runs Tryd.prog n l W (.load 26 x) (sigv (ds.getD j z0)) := by
  have hd := getD_get ds j z0 hj
  refine x_load hx (m_loadA (wdS (h.2 _ (List.mem_of_getElem? hd))) fun i u hi => ?_)
  rw [addr_addn, Nat.add_assoc]
  exact h.1.cell (gm_get ds j i _ u h.2 hd hi)
theorem RG.one {b : Nat} {s : Sg} (hs : goodS s) (m : Blk W b 26 (sigL s)) : RG W (.slice (Option.some ⟨b, 0, none⟩) 1 1) [s] := by
  refine ⟨?_, by simpa using hs⟩
  have : [s].flatMap sigL = sigL s := by simp
  rw [this]
  exact Rd.blk m (by rw [sigL_length hs])
end
/-- A slice of ints. -/
def RI (W : World) (v : Value) (zs : List Int) : Prop := Rd W v 1 zs.length (zs.map intv)
section
variable {W W' : World} {v : Value} {zs : List Int}
theorem RI.form (h : RI W v zs) : ∃ a c, v = .slice a zs.length c ∧ zs.length ≤ c := by
  obtain ⟨a, c, h1, h2, _⟩ := Rd.form h
  exact ⟨a, c, h1, h2⟩
theorem RI.nil (W : World) : RI W (.slice none 0 0) [] := Rd.nil _ _
theorem RI.below (h : RI W v zs) (hB : Below W.heap.size W W') : RI W' v zs := Rd.below h hB
theorem RI.some (h : RI W v zs) (hn : 0 < zs.length) : ∃ b off c, v = .slice (some ⟨b, off, none⟩) zs.length c ∧ b < W.heap.size := Rd.some h hn
theorem RI.load {b off N c : Nat} {n : Nat} {l : List (Nat × Value)} {x : Operand} (h : RI W (.slice (Option.some ⟨b, off, none⟩) N c) zs) {j : Nat} (hj : j < zs.length) (hx : ov l x = Option.some (.pointer (Option.some ⟨b, off + j, none⟩))) : Runs Tryd.prog n l W (.load 3 x) (.int .i64 (zs.getD j 0)) :=
  x_load hx (m_load flat3 (Rd.cell h (by rw [List.getElem?_map, getD_get zs j 0 hj]; rfl)))
theorem RI.one {b : Nat} {z : Int} (m : Blk W b 3 [.int .i64 z]) : RI W (.slice (Option.some ⟨b, 0, none⟩) 1 1) [z] := Rd.blk m rfl
end
end Go.Proofs.YtefpenjcgplamaaDoor
