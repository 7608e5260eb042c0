import Derived.Test.YtceappncglfciaaGreatM23
import Derived.Deep.RegionWith
set_option linter.unusedVariables false
set_option linter.unusedSimpArgs false
/-
  One step of a script, on the program's town.
-/
namespace Go.Proofs.YtceappncglfciaaGreat
open Go.RowKit
attribute [local go_sem ↓] Go.wp_at_zero Go.wp_at_succ

/-- The statement's own block: where its town is, and how many peers there are. -/
structure KW (W : World) (bw bt n : Nat) : Prop where
  lt : bw < W.heap.size
  c0 : W.cell? ⟨bw, 0, none⟩ = some (.pointer (some ⟨bt, 0, none⟩))
  c1 : W.cell? ⟨bw, 1, none⟩ = some (.int .i64 n)
theorem KW.keep {W W' : World} {bw bt n : Nat} {fp : List Nat} (h : KW W bw bt n) (hk : Keeps fp W W') (hb : bw ∉ fp) : KW W' bw bt n :=
  ⟨Nat.lt_of_lt_of_le h.lt hk.size, (World.cell?_of_block (hk.block bw h.lt hb)).trans h.c0, (World.cell?_of_block (hk.block bw h.lt hb)).trans h.c1⟩
theorem KW.below {W W' : World} {bw bt n : Nat} (h : KW W bw bt n) (hk : Below W.heap.size W W') : KW W' bw bt n := h.keep (Keeps.of_below (fp := []) hk) (by simp)

/-- The town behind some calls, and what else lies there as it lay. -/
structure Amid (S : TownRep) (W1 : World) (bt : Nat) (bs : List Nat) (T : TownM) (w : World) (bs2 : List Nat) : Prop where
  rep : S.R w bt bs2 T
  keeps : Keeps bs W1 w
  blocks : ∀ x ∈ bs2, x ∈ bs ∨ W1.heap.size ≤ x
theorem Amid.of {S : TownRep} {W1 w : World} {bt : Nat} {bs : List Nat} {T : TownM} (h : TDid S W1 bt bs w T) : ∃ bs2, Amid S W1 bt bs T w bs2 := by
  obtain ⟨b2, h1, h2, h3⟩ := h
  exact ⟨b2, h1, h2, h3⟩
theorem Amid.next {S : TownRep} {W1 w w' : World} {bt : Nat} {bs bs2 : List Nat} {T T' : TownM} (h : Amid S W1 bt bs T w bs2) (h' : TDid S w bt bs2 w' T') : TDid S W1 bt bs w' T' := TDid.next h.keeps h.blocks h'
theorem Amid.cell {S : TownRep} {W1 w : World} {bt : Nat} {bs bs2 : List Nat} {T : TownM} (h : Amid S W1 bt bs T w bs2) {y j : Nat} (hy : y < W1.heap.size) (hn : y ∉ bs) : w.cell? ⟨y, j, none⟩ = W1.cell? ⟨y, j, none⟩ := World.cell?_of_block (h.keeps.block y hy hn)

theorem Amid.drewN {S : TownRep} {W1 w : World} {bt : Nat} {bs bs2 : List Nat} {T : TownM} (h : Amid S W1 bt bs T w bs2) (m : Nat) : Amid S W1 bt bs T (w.drewN m) bs2 :=
  ⟨S.keep h.rep (fun _ _ => rfl), ⟨h.keeps.os, h.keeps.tape, h.keeps.output, h.keeps.size, h.keeps.block⟩, h.blocks⟩
theorem Amid.drew {S : TownRep} {W1 w : World} {bt : Nat} {bs bs2 : List Nat} {T : TownM} (h : Amid S W1 bt bs T w bs2) : Amid S W1 bt bs T w.drew bs2 :=
  ⟨S.keep h.rep (fun _ _ => rfl), ⟨h.keeps.os, h.keeps.tape, h.keeps.output, h.keeps.size, h.keeps.block⟩, h.blocks⟩

set_option maxRecDepth 100000 in
set_option maxHeartbeats 1000000 in
theorem step_crash (S : TownRep) (D : Does S) (k a b : Int) (W : World) (bw bt : Nat) (bs : List Nat) (T : TownM) (K : Int) (hR : S.R W bt bs T) (hF : Fits K T) (hK : K + 90 ≤ 4294967294) (hW : KW W bw bt T.ps.length) (hb : bw ∉ bs) (hk : I64 k) (ha : I64 a) (hbb : I64 b)
    (h2 : pickI k 16 = 2) :
    Calls Tryz.prog 12 #[.pointer (some ⟨bw, 0, none⟩), .agg #[.int .i64 k, .int .i64 a, .int .i64 b]] W fun o w' => o = .returned (.tuple #[]) ∧ TDid S W bt bs w' (T.crash (pickI a T.ps.length)) := by
  have hn := hF.n
  have hlen := hF.len
  have hnet := hF.net
  have HM := hide (fun W bs h => D.messages W bt bs T K h hF)
  have HB1 := hide ((Below.refl W.heap.size W).alloc (Nat.le_refl _) (.cells #[.int .i64 k, .int .i64 a, .int .i64 b] 34))
  have HR1 := hide (S.below hR (unhide HB1))
  have hs1 := World.size_alloc W (.cells #[.int .i64 k, .int .i64 a, .int .i64 b] 34)
  have HX := hide (fun h : W.heap.size ∈ bs => Nat.lt_irrefl _ (S.lt hR _ h))
  have e0 := cell_of_row (W.alloc (.cells #[.int .i64 k, .int .i64 a, .int .i64 b] 34)) W.heap.size 0 _ _ (0, 0) (heap_alloc_new W _)
  have e1 := cell_of_row (W.alloc (.cells #[.int .i64 k, .int .i64 a, .int .i64 b] 34)) W.heap.size 1 _ _ (0, 0) (heap_alloc_new W _)
  have e2 := cell_of_row (W.alloc (.cells #[.int .i64 k, .int .i64 a, .int .i64 b] 34)) W.heap.size 2 _ _ (0, 0) (heap_alloc_new W _)
  have hW1 := hW.below (unhide HB1)
  have c0 := hW1.c0
  have c1 := hW1.c1
  have HL := hide hW1.lt
  have HP1 := hide (fun w => pick_any a T.ps.length w (by omega) (by omega) ha.1 ha.2)
  have HP2 := hide (fun w => pick_any k 16 w (by omega) (by omega) hk.1 hk.2)
  rw [h2] at HP2
  clear h2
  have hpr := pickI_range a T.ps.length (by omega)
  have HC := hide (fun W bs h => D.crash (pickI a T.ps.length) W bt bs T K h hF (by omega) ⟨by omega, by omega⟩)
  have HB := hide hb
  clear hR hF hK hk ha hbb hW hb hW1
  generalize pickI a T.ps.length = p at *
  go_enter Tryz.func12, Tryz.ntmps12
  go_wp2_with fail
  refine (unhide HM _ _ (unhide HR1)).mono ?_
  rintro o w1 ⟨sa, cap, rfl, _, hd, _⟩
  obtain ⟨bs2, hA⟩ := Amid.of hd
  clear hd
  have d0 := (hA.cell (j := 0) (unhide HL) (unhide HB)).trans c0
  have d1 := (hA.cell (j := 1) (unhide HL) (unhide HB)).trans c1
  have g0 := (hA.cell (y := W.heap.size) (j := 0) (by rw [hs1]; omega) (unhide HX)).trans e0
  have g1 := (hA.cell (y := W.heap.size) (j := 1) (by rw [hs1]; omega) (unhide HX)).trans e1
  have g2 := (hA.cell (y := W.heap.size) (j := 2) (by rw [hs1]; omega) (unhide HX)).trans e2
  have HA := hide hA
  clear hA c0 c1 e0 e1 e2 hs1
  go_wp2_with fail
  go_quiet ((go_at_call 15; exact Calls.quiet_of_same (unhide HP1 _)))
  go_wp2_with fail
  refine (unhide HP2 _).mono ?_
  rintro o w2 ⟨rfl, rfl⟩
  go_wp2_with fail
  refine (unhide HC _ _ (Amid.drewN (unhide HA) _).rep).mono ?_
  rintro o w3 ⟨rfl, hd⟩
  have fin := hide (((Amid.drewN (unhide HA) _).next hd).pre (unhide HB1))
  clear hd
  go_wp2
  go_end0
  exact ⟨rfl, unhide fin⟩

set_option maxRecDepth 100000 in
set_option maxHeartbeats 1000000 in
theorem step_restart3 (S : TownRep) (D : Does S) (k a b : Int) (W : World) (bw bt : Nat) (bs : List Nat) (T : TownM) (K : Int) (hR : S.R W bt bs T) (hF : Fits K T) (hK : K + 90 ≤ 4294967294) (hW : KW W bw bt T.ps.length) (hb : bw ∉ bs) (hk : I64 k) (ha : I64 a) (hbb : I64 b)
    (h2 : pickI k 16 = 3) :
    Calls Tryz.prog 12 #[.pointer (some ⟨bw, 0, none⟩), .agg #[.int .i64 k, .int .i64 a, .int .i64 b]] W fun o w' => o = .returned (.tuple #[]) ∧ TDid S W bt bs w' (T.restart (pickI a T.ps.length)) := by
  have hn := hF.n
  have hlen := hF.len
  have hnet := hF.net
  have HM := hide (fun W bs h => D.messages W bt bs T K h hF)
  have HB1 := hide ((Below.refl W.heap.size W).alloc (Nat.le_refl _) (.cells #[.int .i64 k, .int .i64 a, .int .i64 b] 34))
  have HR1 := hide (S.below hR (unhide HB1))
  have hs1 := World.size_alloc W (.cells #[.int .i64 k, .int .i64 a, .int .i64 b] 34)
  have HX := hide (fun h : W.heap.size ∈ bs => Nat.lt_irrefl _ (S.lt hR _ h))
  have e0 := cell_of_row (W.alloc (.cells #[.int .i64 k, .int .i64 a, .int .i64 b] 34)) W.heap.size 0 _ _ (0, 0) (heap_alloc_new W _)
  have e1 := cell_of_row (W.alloc (.cells #[.int .i64 k, .int .i64 a, .int .i64 b] 34)) W.heap.size 1 _ _ (0, 0) (heap_alloc_new W _)
  have e2 := cell_of_row (W.alloc (.cells #[.int .i64 k, .int .i64 a, .int .i64 b] 34)) W.heap.size 2 _ _ (0, 0) (heap_alloc_new W _)
  have hW1 := hW.below (unhide HB1)
  have c0 := hW1.c0
  have c1 := hW1.c1
  have HL := hide hW1.lt
  have HP1 := hide (fun w => pick_any a T.ps.length w (by omega) (by omega) ha.1 ha.2)
  have HP2 := hide (fun w => pick_any k 16 w (by omega) (by omega) hk.1 hk.2)
  rw [h2] at HP2
  clear h2
  have hpr := pickI_range a T.ps.length (by omega)
  have HC := hide (fun W bs h => D.restart (pickI a T.ps.length) W bt bs T K h hF (by omega) ⟨by omega, by omega⟩)
  have HB := hide hb
  clear hR hF hK hk ha hbb hW hb hW1
  generalize pickI a T.ps.length = p at *
  go_enter Tryz.func12, Tryz.ntmps12
  go_wp2_with fail
  refine (unhide HM _ _ (unhide HR1)).mono ?_
  rintro o w1 ⟨sa, cap, rfl, _, hd, _⟩
  obtain ⟨bs2, hA⟩ := Amid.of hd
  clear hd
  have d0 := (hA.cell (j := 0) (unhide HL) (unhide HB)).trans c0
  have d1 := (hA.cell (j := 1) (unhide HL) (unhide HB)).trans c1
  have g0 := (hA.cell (y := W.heap.size) (j := 0) (by rw [hs1]; omega) (unhide HX)).trans e0
  have g1 := (hA.cell (y := W.heap.size) (j := 1) (by rw [hs1]; omega) (unhide HX)).trans e1
  have g2 := (hA.cell (y := W.heap.size) (j := 2) (by rw [hs1]; omega) (unhide HX)).trans e2
  have HA := hide hA
  clear hA c0 c1 e0 e1 e2 hs1
  go_wp2_with fail
  go_quiet ((go_at_call 15; exact Calls.quiet_of_same (unhide HP1 _)))
  go_wp2_with fail
  refine (unhide HP2 _).mono ?_
  rintro o w2 ⟨rfl, rfl⟩
  go_wp2_with fail
  refine (unhide HC _ _ (Amid.drewN (unhide HA) _).rep).mono ?_
  rintro o w3 ⟨rfl, hd⟩
  have fin := hide (((Amid.drewN (unhide HA) _).next hd).pre (unhide HB1))
  clear hd
  go_wp2
  go_end0
  exact ⟨rfl, unhide fin⟩

set_option maxRecDepth 100000 in
set_option maxHeartbeats 1000000 in
theorem step_restart4 (S : TownRep) (D : Does S) (k a b : Int) (W : World) (bw bt : Nat) (bs : List Nat) (T : TownM) (K : Int) (hR : S.R W bt bs T) (hF : Fits K T) (hK : K + 90 ≤ 4294967294) (hW : KW W bw bt T.ps.length) (hb : bw ∉ bs) (hk : I64 k) (ha : I64 a) (hbb : I64 b)
    (h2 : pickI k 16 = 4) :
    Calls Tryz.prog 12 #[.pointer (some ⟨bw, 0, none⟩), .agg #[.int .i64 k, .int .i64 a, .int .i64 b]] W fun o w' => o = .returned (.tuple #[]) ∧ TDid S W bt bs w' (T.restart (pickI a T.ps.length)) := by
  have hn := hF.n
  have hlen := hF.len
  have hnet := hF.net
  have HM := hide (fun W bs h => D.messages W bt bs T K h hF)
  have HB1 := hide ((Below.refl W.heap.size W).alloc (Nat.le_refl _) (.cells #[.int .i64 k, .int .i64 a, .int .i64 b] 34))
  have HR1 := hide (S.below hR (unhide HB1))
  have hs1 := World.size_alloc W (.cells #[.int .i64 k, .int .i64 a, .int .i64 b] 34)
  have HX := hide (fun h : W.heap.size ∈ bs => Nat.lt_irrefl _ (S.lt hR _ h))
  have e0 := cell_of_row (W.alloc (.cells #[.int .i64 k, .int .i64 a, .int .i64 b] 34)) W.heap.size 0 _ _ (0, 0) (heap_alloc_new W _)
  have e1 := cell_of_row (W.alloc (.cells #[.int .i64 k, .int .i64 a, .int .i64 b] 34)) W.heap.size 1 _ _ (0, 0) (heap_alloc_new W _)
  have e2 := cell_of_row (W.alloc (.cells #[.int .i64 k, .int .i64 a, .int .i64 b] 34)) W.heap.size 2 _ _ (0, 0) (heap_alloc_new W _)
  have hW1 := hW.below (unhide HB1)
  have c0 := hW1.c0
  have c1 := hW1.c1
  have HL := hide hW1.lt
  have HP1 := hide (fun w => pick_any a T.ps.length w (by omega) (by omega) ha.1 ha.2)
  have HP2 := hide (fun w => pick_any k 16 w (by omega) (by omega) hk.1 hk.2)
  rw [h2] at HP2
  clear h2
  have hpr := pickI_range a T.ps.length (by omega)
  have HC := hide (fun W bs h => D.restart (pickI a T.ps.length) W bt bs T K h hF (by omega) ⟨by omega, by omega⟩)
  have HB := hide hb
  clear hR hF hK hk ha hbb hW hb hW1
  generalize pickI a T.ps.length = p at *
  go_enter Tryz.func12, Tryz.ntmps12
  go_wp2_with fail
  refine (unhide HM _ _ (unhide HR1)).mono ?_
  rintro o w1 ⟨sa, cap, rfl, _, hd, _⟩
  obtain ⟨bs2, hA⟩ := Amid.of hd
  clear hd
  have d0 := (hA.cell (j := 0) (unhide HL) (unhide HB)).trans c0
  have d1 := (hA.cell (j := 1) (unhide HL) (unhide HB)).trans c1
  have g0 := (hA.cell (y := W.heap.size) (j := 0) (by rw [hs1]; omega) (unhide HX)).trans e0
  have g1 := (hA.cell (y := W.heap.size) (j := 1) (by rw [hs1]; omega) (unhide HX)).trans e1
  have g2 := (hA.cell (y := W.heap.size) (j := 2) (by rw [hs1]; omega) (unhide HX)).trans e2
  have HA := hide hA
  clear hA c0 c1 e0 e1 e2 hs1
  go_wp2_with fail
  go_quiet ((go_at_call 15; exact Calls.quiet_of_same (unhide HP1 _)))
  go_wp2_with fail
  refine (unhide HP2 _).mono ?_
  rintro o w2 ⟨rfl, rfl⟩
  go_wp2_with fail
  refine (unhide HC _ _ (Amid.drewN (unhide HA) _).rep).mono ?_
  rintro o w3 ⟨rfl, hd⟩
  have fin := hide (((Amid.drewN (unhide HA) _).next hd).pre (unhide HB1))
  clear hd
  go_wp2
  go_end0
  exact ⟨rfl, unhide fin⟩

set_option maxRecDepth 100000 in
set_option maxHeartbeats 1000000 in
theorem step_hear (S : TownRep) (D : Does S) (k a b : Int) (W : World) (bw bt : Nat) (bs : List Nat) (T : TownM) (K : Int) (hR : S.R W bt bs T) (hF : Fits K T) (hK : K + 90 ≤ 4294967294) (hW : KW W bw bt T.ps.length) (hb : bw ∉ bs) (hk : I64 k) (ha : I64 a) (hbb : I64 b)
    (h2 : pickI k 16 = 6) :
    Calls Tryz.prog 12 #[.pointer (some ⟨bw, 0, none⟩), .agg #[.int .i64 k, .int .i64 a, .int .i64 b]] W fun o w' => o = .returned (.tuple #[]) ∧ TDid S W bt bs w' (T.hear (pickI a T.ps.length)) := by
  have hn := hF.n
  have hlen := hF.len
  have hnet := hF.net
  have HM := hide (fun W bs h => D.messages W bt bs T K h hF)
  have HB1 := hide ((Below.refl W.heap.size W).alloc (Nat.le_refl _) (.cells #[.int .i64 k, .int .i64 a, .int .i64 b] 34))
  have HR1 := hide (S.below hR (unhide HB1))
  have hs1 := World.size_alloc W (.cells #[.int .i64 k, .int .i64 a, .int .i64 b] 34)
  have HX := hide (fun h : W.heap.size ∈ bs => Nat.lt_irrefl _ (S.lt hR _ h))
  have e0 := cell_of_row (W.alloc (.cells #[.int .i64 k, .int .i64 a, .int .i64 b] 34)) W.heap.size 0 _ _ (0, 0) (heap_alloc_new W _)
  have e1 := cell_of_row (W.alloc (.cells #[.int .i64 k, .int .i64 a, .int .i64 b] 34)) W.heap.size 1 _ _ (0, 0) (heap_alloc_new W _)
  have e2 := cell_of_row (W.alloc (.cells #[.int .i64 k, .int .i64 a, .int .i64 b] 34)) W.heap.size 2 _ _ (0, 0) (heap_alloc_new W _)
  have hW1 := hW.below (unhide HB1)
  have c0 := hW1.c0
  have c1 := hW1.c1
  have HL := hide hW1.lt
  have HP1 := hide (fun w => pick_any a T.ps.length w (by omega) (by omega) ha.1 ha.2)
  have HP2 := hide (fun w => pick_any k 16 w (by omega) (by omega) hk.1 hk.2)
  rw [h2] at HP2
  clear h2
  have hpr := pickI_range a T.ps.length (by omega)
  have HC := hide (fun W bs h => D.hear (pickI a T.ps.length) W bt bs T K h hF (by omega) ⟨by omega, by omega⟩)
  have HB := hide hb
  clear hR hF hK hk ha hbb hW hb hW1
  generalize pickI a T.ps.length = p at *
  go_enter Tryz.func12, Tryz.ntmps12
  go_wp2_with fail
  refine (unhide HM _ _ (unhide HR1)).mono ?_
  rintro o w1 ⟨sa, cap, rfl, _, hd, _⟩
  obtain ⟨bs2, hA⟩ := Amid.of hd
  clear hd
  have d0 := (hA.cell (j := 0) (unhide HL) (unhide HB)).trans c0
  have d1 := (hA.cell (j := 1) (unhide HL) (unhide HB)).trans c1
  have g0 := (hA.cell (y := W.heap.size) (j := 0) (by rw [hs1]; omega) (unhide HX)).trans e0
  have g1 := (hA.cell (y := W.heap.size) (j := 1) (by rw [hs1]; omega) (unhide HX)).trans e1
  have g2 := (hA.cell (y := W.heap.size) (j := 2) (by rw [hs1]; omega) (unhide HX)).trans e2
  have HA := hide hA
  clear hA c0 c1 e0 e1 e2 hs1
  go_wp2_with fail
  go_quiet ((go_at_call 15; exact Calls.quiet_of_same (unhide HP1 _)))
  go_wp2_with fail
  refine (unhide HP2 _).mono ?_
  rintro o w2 ⟨rfl, rfl⟩
  go_wp2_with fail
  refine (unhide HC _ _ (Amid.drewN (unhide HA) _).rep).mono ?_
  rintro o w3 ⟨rfl, hd⟩
  have fin := hide (((Amid.drewN (unhide HA) _).next hd).pre (unhide HB1))
  clear hd
  go_wp2
  go_end0
  exact ⟨rfl, unhide fin⟩

set_option maxRecDepth 100000 in
set_option maxHeartbeats 1000000 in
theorem step_tick0 (S : TownRep) (D : Does S) (k a b : Int) (W : World) (bw bt : Nat) (bs : List Nat) (T : TownM) (K : Int) (hR : S.R W bt bs T) (hF : Fits K T) (hK : K + 90 ≤ 4294967294) (hW : KW W bw bt T.ps.length) (hb : bw ∉ bs) (hk : I64 k) (ha : I64 a) (hbb : I64 b)
    (h2 : pickI k 16 = 0) :
    Calls Tryz.prog 12 #[.pointer (some ⟨bw, 0, none⟩), .agg #[.int .i64 k, .int .i64 a, .int .i64 b]] W fun o w' => o = .returned (.tuple #[]) ∧ TDid S W bt bs w' (T.tickC (1 + pickI b 6)) := by
  have hn := hF.n
  have hlen := hF.len
  have hnet := hF.net
  have HM := hide (fun W bs h => D.messages W bt bs T K h hF)
  have HB1 := hide ((Below.refl W.heap.size W).alloc (Nat.le_refl _) (.cells #[.int .i64 k, .int .i64 a, .int .i64 b] 34))
  have HR1 := hide (S.below hR (unhide HB1))
  have hs1 := World.size_alloc W (.cells #[.int .i64 k, .int .i64 a, .int .i64 b] 34)
  have HX := hide (fun h : W.heap.size ∈ bs => Nat.lt_irrefl _ (S.lt hR _ h))
  have e0 := cell_of_row (W.alloc (.cells #[.int .i64 k, .int .i64 a, .int .i64 b] 34)) W.heap.size 0 _ _ (0, 0) (heap_alloc_new W _)
  have e1 := cell_of_row (W.alloc (.cells #[.int .i64 k, .int .i64 a, .int .i64 b] 34)) W.heap.size 1 _ _ (0, 0) (heap_alloc_new W _)
  have e2 := cell_of_row (W.alloc (.cells #[.int .i64 k, .int .i64 a, .int .i64 b] 34)) W.heap.size 2 _ _ (0, 0) (heap_alloc_new W _)
  have hW1 := hW.below (unhide HB1)
  have c0 := hW1.c0
  have c1 := hW1.c1
  have HL := hide hW1.lt
  have HP1 := hide (fun w => pick_any a T.ps.length w (by omega) (by omega) ha.1 ha.2)
  have HP2 := hide (fun w => pick_any k 16 w (by omega) (by omega) hk.1 hk.2)
  rw [h2] at HP2
  clear h2
  have hpr := pickI_range a T.ps.length (by omega)
  have hqr := pickI_range b 6 (by omega)
  have HP3 := hide (fun w => pick_any b 6 w (by omega) (by omega) hbb.1 hbb.2)
  have HC := hide (fun W bs h => D.tick (1 + pickI b 6) W bt bs T K h hF (by omega) ⟨by omega, by omega⟩)
  generalize pickI b 6 = q at *
  have HB := hide hb
  clear hR hF hK hk ha hbb hW hb hW1
  generalize pickI a T.ps.length = p at *
  go_enter Tryz.func12, Tryz.ntmps12
  go_wp2_with fail
  refine (unhide HM _ _ (unhide HR1)).mono ?_
  rintro o w1 ⟨sa, cap, rfl, _, hd, _⟩
  obtain ⟨bs2, hA⟩ := Amid.of hd
  clear hd
  have d0 := (hA.cell (j := 0) (unhide HL) (unhide HB)).trans c0
  have d1 := (hA.cell (j := 1) (unhide HL) (unhide HB)).trans c1
  have g0 := (hA.cell (y := W.heap.size) (j := 0) (by rw [hs1]; omega) (unhide HX)).trans e0
  have g1 := (hA.cell (y := W.heap.size) (j := 1) (by rw [hs1]; omega) (unhide HX)).trans e1
  have g2 := (hA.cell (y := W.heap.size) (j := 2) (by rw [hs1]; omega) (unhide HX)).trans e2
  have HA := hide hA
  clear hA c0 c1 e0 e1 e2 hs1
  go_wp2_with fail
  go_quiet ((go_at_call 15; exact Calls.quiet_of_same (unhide HP1 _)))
  go_wp2_with fail
  refine (unhide HP2 _).mono ?_
  rintro o w2 ⟨rfl, rfl⟩
  have hwr : IntKind.i64.wrap (1 + q) = 1 + q := by rw [IntKind.wrap_i64]; omega
  go_wp2_with fail
  go_region_with (first | (go_at_call 15; refine (unhide HP3 _).mono ?_; rintro o w5 ⟨rfl, rfl⟩) | (go_at_call 18; refine (unhide HC _ _ (Amid.drew (Amid.drewN (unhide HA) _)).rep).mono ?_; rintro o w3 ⟨rfl, hd⟩))
  all_goals
    have fin := hide (((Amid.drew (Amid.drewN (unhide HA) _)).next hd).pre (unhide HB1))
    clear hd
    go_wp2
    go_end0
    exact ⟨rfl, unhide fin⟩

set_option maxRecDepth 100000 in
set_option maxHeartbeats 1000000 in
theorem step_tick1 (S : TownRep) (D : Does S) (k a b : Int) (W : World) (bw bt : Nat) (bs : List Nat) (T : TownM) (K : Int) (hR : S.R W bt bs T) (hF : Fits K T) (hK : K + 90 ≤ 4294967294) (hW : KW W bw bt T.ps.length) (hb : bw ∉ bs) (hk : I64 k) (ha : I64 a) (hbb : I64 b)
    (h2 : pickI k 16 = 1) :
    Calls Tryz.prog 12 #[.pointer (some ⟨bw, 0, none⟩), .agg #[.int .i64 k, .int .i64 a, .int .i64 b]] W fun o w' => o = .returned (.tuple #[]) ∧ TDid S W bt bs w' (T.tickC (1 + pickI b 6)) := by
  have hn := hF.n
  have hlen := hF.len
  have hnet := hF.net
  have HM := hide (fun W bs h => D.messages W bt bs T K h hF)
  have HB1 := hide ((Below.refl W.heap.size W).alloc (Nat.le_refl _) (.cells #[.int .i64 k, .int .i64 a, .int .i64 b] 34))
  have HR1 := hide (S.below hR (unhide HB1))
  have hs1 := World.size_alloc W (.cells #[.int .i64 k, .int .i64 a, .int .i64 b] 34)
  have HX := hide (fun h : W.heap.size ∈ bs => Nat.lt_irrefl _ (S.lt hR _ h))
  have e0 := cell_of_row (W.alloc (.cells #[.int .i64 k, .int .i64 a, .int .i64 b] 34)) W.heap.size 0 _ _ (0, 0) (heap_alloc_new W _)
  have e1 := cell_of_row (W.alloc (.cells #[.int .i64 k, .int .i64 a, .int .i64 b] 34)) W.heap.size 1 _ _ (0, 0) (heap_alloc_new W _)
  have e2 := cell_of_row (W.alloc (.cells #[.int .i64 k, .int .i64 a, .int .i64 b] 34)) W.heap.size 2 _ _ (0, 0) (heap_alloc_new W _)
  have hW1 := hW.below (unhide HB1)
  have c0 := hW1.c0
  have c1 := hW1.c1
  have HL := hide hW1.lt
  have HP1 := hide (fun w => pick_any a T.ps.length w (by omega) (by omega) ha.1 ha.2)
  have HP2 := hide (fun w => pick_any k 16 w (by omega) (by omega) hk.1 hk.2)
  rw [h2] at HP2
  clear h2
  have hpr := pickI_range a T.ps.length (by omega)
  have hqr := pickI_range b 6 (by omega)
  have HP3 := hide (fun w => pick_any b 6 w (by omega) (by omega) hbb.1 hbb.2)
  have HC := hide (fun W bs h => D.tick (1 + pickI b 6) W bt bs T K h hF (by omega) ⟨by omega, by omega⟩)
  generalize pickI b 6 = q at *
  have HB := hide hb
  clear hR hF hK hk ha hbb hW hb hW1
  generalize pickI a T.ps.length = p at *
  go_enter Tryz.func12, Tryz.ntmps12
  go_wp2_with fail
  refine (unhide HM _ _ (unhide HR1)).mono ?_
  rintro o w1 ⟨sa, cap, rfl, _, hd, _⟩
  obtain ⟨bs2, hA⟩ := Amid.of hd
  clear hd
  have d0 := (hA.cell (j := 0) (unhide HL) (unhide HB)).trans c0
  have d1 := (hA.cell (j := 1) (unhide HL) (unhide HB)).trans c1
  have g0 := (hA.cell (y := W.heap.size) (j := 0) (by rw [hs1]; omega) (unhide HX)).trans e0
  have g1 := (hA.cell (y := W.heap.size) (j := 1) (by rw [hs1]; omega) (unhide HX)).trans e1
  have g2 := (hA.cell (y := W.heap.size) (j := 2) (by rw [hs1]; omega) (unhide HX)).trans e2
  have HA := hide hA
  clear hA c0 c1 e0 e1 e2 hs1
  go_wp2_with fail
  go_quiet ((go_at_call 15; exact Calls.quiet_of_same (unhide HP1 _)))
  go_wp2_with fail
  refine (unhide HP2 _).mono ?_
  rintro o w2 ⟨rfl, rfl⟩
  have hwr : IntKind.i64.wrap (1 + q) = 1 + q := by rw [IntKind.wrap_i64]; omega
  go_wp2_with fail
  go_region_with (first | (go_at_call 15; refine (unhide HP3 _).mono ?_; rintro o w5 ⟨rfl, rfl⟩) | (go_at_call 18; refine (unhide HC _ _ (Amid.drew (Amid.drewN (unhide HA) _)).rep).mono ?_; rintro o w3 ⟨rfl, hd⟩))
  all_goals
    have fin := hide (((Amid.drew (Amid.drewN (unhide HA) _)).next hd).pre (unhide HB1))
    clear hd
    go_wp2
    go_end0
    exact ⟨rfl, unhide fin⟩

set_option maxRecDepth 100000 in
set_option maxHeartbeats 1000000 in
theorem step_arm (S : TownRep) (D : Does S) (k a b : Int) (W : World) (bw bt : Nat) (bs : List Nat) (T : TownM) (K : Int) (hR : S.R W bt bs T) (hF : Fits K T) (hK : K + 90 ≤ 4294967294) (hW : KW W bw bt T.ps.length) (hb : bw ∉ bs) (hk : I64 k) (ha : I64 a) (hbb : I64 b)
    (h2 : pickI k 16 = 5) :
    Calls Tryz.prog 12 #[.pointer (some ⟨bw, 0, none⟩), .agg #[.int .i64 k, .int .i64 a, .int .i64 b]] W fun o w' => o = .returned (.tuple #[]) ∧ TDid S W bt bs w' (T.arm (pickI a T.ps.length) (pickI b 29)) := by
  have hn := hF.n
  have hlen := hF.len
  have hnet := hF.net
  have HM := hide (fun W bs h => D.messages W bt bs T K h hF)
  have HB1 := hide ((Below.refl W.heap.size W).alloc (Nat.le_refl _) (.cells #[.int .i64 k, .int .i64 a, .int .i64 b] 34))
  have HR1 := hide (S.below hR (unhide HB1))
  have hs1 := World.size_alloc W (.cells #[.int .i64 k, .int .i64 a, .int .i64 b] 34)
  have HX := hide (fun h : W.heap.size ∈ bs => Nat.lt_irrefl _ (S.lt hR _ h))
  have e0 := cell_of_row (W.alloc (.cells #[.int .i64 k, .int .i64 a, .int .i64 b] 34)) W.heap.size 0 _ _ (0, 0) (heap_alloc_new W _)
  have e1 := cell_of_row (W.alloc (.cells #[.int .i64 k, .int .i64 a, .int .i64 b] 34)) W.heap.size 1 _ _ (0, 0) (heap_alloc_new W _)
  have e2 := cell_of_row (W.alloc (.cells #[.int .i64 k, .int .i64 a, .int .i64 b] 34)) W.heap.size 2 _ _ (0, 0) (heap_alloc_new W _)
  have hW1 := hW.below (unhide HB1)
  have c0 := hW1.c0
  have c1 := hW1.c1
  have HL := hide hW1.lt
  have HP1 := hide (fun w => pick_any a T.ps.length w (by omega) (by omega) ha.1 ha.2)
  have HP2 := hide (fun w => pick_any k 16 w (by omega) (by omega) hk.1 hk.2)
  rw [h2] at HP2
  clear h2
  have hpr := pickI_range a T.ps.length (by omega)
  have hqr := pickI_range b 29 (by omega)
  have HP3 := hide (fun w => pick_any b 29 w (by omega) (by omega) hbb.1 hbb.2)
  have HC := hide (fun W bs h => D.arm (pickI a T.ps.length) (pickI b 29) W bt bs T K h hF (by omega) ⟨by omega, by omega⟩ ⟨by omega, by omega⟩)
  generalize pickI b 29 = q at *
  have HB := hide hb
  clear hR hF hK hk ha hbb hW hb hW1
  generalize pickI a T.ps.length = p at *
  go_enter Tryz.func12, Tryz.ntmps12
  go_wp2_with fail
  refine (unhide HM _ _ (unhide HR1)).mono ?_
  rintro o w1 ⟨sa, cap, rfl, _, hd, _⟩
  obtain ⟨bs2, hA⟩ := Amid.of hd
  clear hd
  have d0 := (hA.cell (j := 0) (unhide HL) (unhide HB)).trans c0
  have d1 := (hA.cell (j := 1) (unhide HL) (unhide HB)).trans c1
  have g0 := (hA.cell (y := W.heap.size) (j := 0) (by rw [hs1]; omega) (unhide HX)).trans e0
  have g1 := (hA.cell (y := W.heap.size) (j := 1) (by rw [hs1]; omega) (unhide HX)).trans e1
  have g2 := (hA.cell (y := W.heap.size) (j := 2) (by rw [hs1]; omega) (unhide HX)).trans e2
  have HA := hide hA
  clear hA c0 c1 e0 e1 e2 hs1
  go_wp2_with fail
  go_quiet ((go_at_call 15; exact Calls.quiet_of_same (unhide HP1 _)))
  go_wp2_with fail
  refine (unhide HP2 _).mono ?_
  rintro o w2 ⟨rfl, rfl⟩
  go_wp2_with fail
  go_region_with (first | (go_at_call 15; refine (unhide HP3 _).mono ?_; rintro o w5 ⟨rfl, rfl⟩) | (go_at_call 33; refine (unhide HC _ _ (Amid.drew (Amid.drewN (unhide HA) _)).rep).mono ?_; rintro o w3 ⟨rfl, hd⟩))
  all_goals
    have fin := hide (((Amid.drew (Amid.drewN (unhide HA) _)).next hd).pre (unhide HB1))
    clear hd
    go_wp2
    go_end0
    exact ⟨rfl, unhide fin⟩

set_option maxRecDepth 100000 in
set_option maxHeartbeats 1000000 in
theorem step_drop_some (S : TownRep) (D : Does S) (k a b : Int) (W : World) (bw bt : Nat) (bs : List Nat) (T : TownM) (K : Int) (hR : S.R W bt bs T) (hF : Fits K T) (hK : K + 90 ≤ 4294967294) (hW : KW W bw bt T.ps.length) (hb : bw ∉ bs) (hk : I64 k) (ha : I64 a) (hbb : I64 b)
    (h2 : pickI k 16 = 7) (hpos : 0 < T.way.length) :
    Calls Tryz.prog 12 #[.pointer (some ⟨bw, 0, none⟩), .agg #[.int .i64 k, .int .i64 a, .int .i64 b]] W fun o w' => o = .returned (.tuple #[]) ∧ TDid S W bt bs w' (T.drop (pickI a T.way.length)) := by
  have hn := hF.n
  have hlen := hF.len
  have hnet := hF.net
  have HM := hide (fun W bs h => D.messages W bt bs T K h hF)
  have HB1 := hide ((Below.refl W.heap.size W).alloc (Nat.le_refl _) (.cells #[.int .i64 k, .int .i64 a, .int .i64 b] 34))
  have HR1 := hide (S.below hR (unhide HB1))
  have hs1 := World.size_alloc W (.cells #[.int .i64 k, .int .i64 a, .int .i64 b] 34)
  have HX := hide (fun h : W.heap.size ∈ bs => Nat.lt_irrefl _ (S.lt hR _ h))
  have e0 := cell_of_row (W.alloc (.cells #[.int .i64 k, .int .i64 a, .int .i64 b] 34)) W.heap.size 0 _ _ (0, 0) (heap_alloc_new W _)
  have e1 := cell_of_row (W.alloc (.cells #[.int .i64 k, .int .i64 a, .int .i64 b] 34)) W.heap.size 1 _ _ (0, 0) (heap_alloc_new W _)
  have e2 := cell_of_row (W.alloc (.cells #[.int .i64 k, .int .i64 a, .int .i64 b] 34)) W.heap.size 2 _ _ (0, 0) (heap_alloc_new W _)
  have hW1 := hW.below (unhide HB1)
  have c0 := hW1.c0
  have c1 := hW1.c1
  have HL := hide hW1.lt
  have HP1 := hide (fun w => pick_any a T.ps.length w (by omega) (by omega) ha.1 ha.2)
  have HP2 := hide (fun w => pick_any k 16 w (by omega) (by omega) hk.1 hk.2)
  rw [h2] at HP2
  clear h2
  have hpr := pickI_range a T.ps.length (by omega)
  have hqr := pickI_range a T.way.length (by omega)
  have HP3 := hide (fun w => pick_any a T.way.length w (by omega) (by omega) ha.1 ha.2)
  have HC := hide (fun W bs h => D.drop (pickI a T.way.length) W bt bs T K h hF (by omega) ⟨by omega, by omega⟩)
  generalize pickI a T.way.length = q at *
  have HB := hide hb
  clear hR hF hK hk ha hbb hW hb hW1
  generalize pickI a T.ps.length = p at *
  go_enter Tryz.func12, Tryz.ntmps12
  go_wp2_with fail
  refine (unhide HM _ _ (unhide HR1)).mono ?_
  rintro o w1 ⟨sa, cap, rfl, _, hd, _⟩
  obtain ⟨bs2, hA⟩ := Amid.of hd
  clear hd
  have d0 := (hA.cell (j := 0) (unhide HL) (unhide HB)).trans c0
  have d1 := (hA.cell (j := 1) (unhide HL) (unhide HB)).trans c1
  have g0 := (hA.cell (y := W.heap.size) (j := 0) (by rw [hs1]; omega) (unhide HX)).trans e0
  have g1 := (hA.cell (y := W.heap.size) (j := 1) (by rw [hs1]; omega) (unhide HX)).trans e1
  have g2 := (hA.cell (y := W.heap.size) (j := 2) (by rw [hs1]; omega) (unhide HX)).trans e2
  have HA := hide hA
  clear hA c0 c1 e0 e1 e2 hs1
  go_wp2_with fail
  go_quiet ((go_at_call 15; exact Calls.quiet_of_same (unhide HP1 _)))
  go_wp2_with fail
  refine (unhide HP2 _).mono ?_
  rintro o w2 ⟨rfl, rfl⟩
  go_wp2_with fail
  go_region_with (first | (go_at_call 15; refine (unhide HP3 _).mono ?_; rintro o w5 ⟨rfl, rfl⟩) | (go_at_call 35; refine (unhide HC _ _ (Amid.drew (Amid.drewN (unhide HA) _)).rep).mono ?_; rintro o w3 ⟨rfl, hd⟩))
  all_goals
    have fin := hide (((Amid.drew (Amid.drewN (unhide HA) _)).next hd).pre (unhide HB1))
    clear hd
    go_wp2
    go_end0
    exact ⟨rfl, unhide fin⟩

set_option maxRecDepth 100000 in
set_option maxHeartbeats 1000000 in
theorem step_drop_none (S : TownRep) (D : Does S) (k a b : Int) (W : World) (bw bt : Nat) (bs : List Nat) (T : TownM) (K : Int) (hR : S.R W bt bs T) (hF : Fits K T) (hK : K + 90 ≤ 4294967294) (hW : KW W bw bt T.ps.length) (hb : bw ∉ bs) (hk : I64 k) (ha : I64 a) (hbb : I64 b)
    (h2 : pickI k 16 = 7) (hpos : ¬ 0 < T.way.length) :
    Calls Tryz.prog 12 #[.pointer (some ⟨bw, 0, none⟩), .agg #[.int .i64 k, .int .i64 a, .int .i64 b]] W fun o w' => o = .returned (.tuple #[]) ∧ TDid S W bt bs w' (T) := by
  have hn := hF.n
  have hlen := hF.len
  have hnet := hF.net
  have HM := hide (fun W bs h => D.messages W bt bs T K h hF)
  have HB1 := hide ((Below.refl W.heap.size W).alloc (Nat.le_refl _) (.cells #[.int .i64 k, .int .i64 a, .int .i64 b] 34))
  have HR1 := hide (S.below hR (unhide HB1))
  have hs1 := World.size_alloc W (.cells #[.int .i64 k, .int .i64 a, .int .i64 b] 34)
  have HX := hide (fun h : W.heap.size ∈ bs => Nat.lt_irrefl _ (S.lt hR _ h))
  have e0 := cell_of_row (W.alloc (.cells #[.int .i64 k, .int .i64 a, .int .i64 b] 34)) W.heap.size 0 _ _ (0, 0) (heap_alloc_new W _)
  have e1 := cell_of_row (W.alloc (.cells #[.int .i64 k, .int .i64 a, .int .i64 b] 34)) W.heap.size 1 _ _ (0, 0) (heap_alloc_new W _)
  have e2 := cell_of_row (W.alloc (.cells #[.int .i64 k, .int .i64 a, .int .i64 b] 34)) W.heap.size 2 _ _ (0, 0) (heap_alloc_new W _)
  have hW1 := hW.below (unhide HB1)
  have c0 := hW1.c0
  have c1 := hW1.c1
  have HL := hide hW1.lt
  have HP1 := hide (fun w => pick_any a T.ps.length w (by omega) (by omega) ha.1 ha.2)
  have HP2 := hide (fun w => pick_any k 16 w (by omega) (by omega) hk.1 hk.2)
  rw [h2] at HP2
  clear h2
  have hpr := pickI_range a T.ps.length (by omega)
  have HB := hide hb
  clear hR hF hK hk ha hbb hW hb hW1
  generalize pickI a T.ps.length = p at *
  go_enter Tryz.func12, Tryz.ntmps12
  go_wp2_with fail
  refine (unhide HM _ _ (unhide HR1)).mono ?_
  rintro o w1 ⟨sa, cap, rfl, _, hd, _⟩
  obtain ⟨bs2, hA⟩ := Amid.of hd
  clear hd
  have d0 := (hA.cell (j := 0) (unhide HL) (unhide HB)).trans c0
  have d1 := (hA.cell (j := 1) (unhide HL) (unhide HB)).trans c1
  have g0 := (hA.cell (y := W.heap.size) (j := 0) (by rw [hs1]; omega) (unhide HX)).trans e0
  have g1 := (hA.cell (y := W.heap.size) (j := 1) (by rw [hs1]; omega) (unhide HX)).trans e1
  have g2 := (hA.cell (y := W.heap.size) (j := 2) (by rw [hs1]; omega) (unhide HX)).trans e2
  have HA := hide hA
  clear hA c0 c1 e0 e1 e2 hs1
  go_wp2_with fail
  go_quiet ((go_at_call 15; exact Calls.quiet_of_same (unhide HP1 _)))
  go_wp2_with fail
  refine (unhide HP2 _).mono ?_
  rintro o w2 ⟨rfl, rfl⟩
  have fin := hide ((TDid.next (Amid.drewN (unhide HA) nq).keeps (Amid.drewN (unhide HA) nq).blocks (TDid.rfl' (Amid.drewN (unhide HA) nq).rep)).pre (unhide HB1))
  go_wp2
  go_end0
  exact ⟨rfl, unhide fin⟩

set_option maxRecDepth 100000 in
set_option maxHeartbeats 1000000 in
theorem step_copy_some (S : TownRep) (D : Does S) (k a b : Int) (W : World) (bw bt : Nat) (bs : List Nat) (T : TownM) (K : Int) (hR : S.R W bt bs T) (hF : Fits K T) (hK : K + 90 ≤ 4294967294) (hW : KW W bw bt T.ps.length) (hb : bw ∉ bs) (hk : I64 k) (ha : I64 a) (hbb : I64 b)
    (h2 : pickI k 16 = 8) (hpos : 0 < T.way.length) :
    Calls Tryz.prog 12 #[.pointer (some ⟨bw, 0, none⟩), .agg #[.int .i64 k, .int .i64 a, .int .i64 b]] W fun o w' => o = .returned (.tuple #[]) ∧ TDid S W bt bs w' (T.copy (pickI a T.way.length)) := by
  have hn := hF.n
  have hlen := hF.len
  have hnet := hF.net
  have HM := hide (fun W bs h => D.messages W bt bs T K h hF)
  have HB1 := hide ((Below.refl W.heap.size W).alloc (Nat.le_refl _) (.cells #[.int .i64 k, .int .i64 a, .int .i64 b] 34))
  have HR1 := hide (S.below hR (unhide HB1))
  have hs1 := World.size_alloc W (.cells #[.int .i64 k, .int .i64 a, .int .i64 b] 34)
  have HX := hide (fun h : W.heap.size ∈ bs => Nat.lt_irrefl _ (S.lt hR _ h))
  have e0 := cell_of_row (W.alloc (.cells #[.int .i64 k, .int .i64 a, .int .i64 b] 34)) W.heap.size 0 _ _ (0, 0) (heap_alloc_new W _)
  have e1 := cell_of_row (W.alloc (.cells #[.int .i64 k, .int .i64 a, .int .i64 b] 34)) W.heap.size 1 _ _ (0, 0) (heap_alloc_new W _)
  have e2 := cell_of_row (W.alloc (.cells #[.int .i64 k, .int .i64 a, .int .i64 b] 34)) W.heap.size 2 _ _ (0, 0) (heap_alloc_new W _)
  have hW1 := hW.below (unhide HB1)
  have c0 := hW1.c0
  have c1 := hW1.c1
  have HL := hide hW1.lt
  have HP1 := hide (fun w => pick_any a T.ps.length w (by omega) (by omega) ha.1 ha.2)
  have HP2 := hide (fun w => pick_any k 16 w (by omega) (by omega) hk.1 hk.2)
  rw [h2] at HP2
  clear h2
  have hpr := pickI_range a T.ps.length (by omega)
  have hqr := pickI_range a T.way.length (by omega)
  have HP3 := hide (fun w => pick_any a T.way.length w (by omega) (by omega) ha.1 ha.2)
  have HC := hide (fun W bs h => D.copy (pickI a T.way.length) W bt bs T K h hF (by omega) ⟨by omega, by omega⟩)
  generalize pickI a T.way.length = q at *
  have HB := hide hb
  clear hR hF hK hk ha hbb hW hb hW1
  generalize pickI a T.ps.length = p at *
  go_enter Tryz.func12, Tryz.ntmps12
  go_wp2_with fail
  refine (unhide HM _ _ (unhide HR1)).mono ?_
  rintro o w1 ⟨sa, cap, rfl, _, hd, _⟩
  obtain ⟨bs2, hA⟩ := Amid.of hd
  clear hd
  have d0 := (hA.cell (j := 0) (unhide HL) (unhide HB)).trans c0
  have d1 := (hA.cell (j := 1) (unhide HL) (unhide HB)).trans c1
  have g0 := (hA.cell (y := W.heap.size) (j := 0) (by rw [hs1]; omega) (unhide HX)).trans e0
  have g1 := (hA.cell (y := W.heap.size) (j := 1) (by rw [hs1]; omega) (unhide HX)).trans e1
  have g2 := (hA.cell (y := W.heap.size) (j := 2) (by rw [hs1]; omega) (unhide HX)).trans e2
  have HA := hide hA
  clear hA c0 c1 e0 e1 e2 hs1
  go_wp2_with fail
  go_quiet ((go_at_call 15; exact Calls.quiet_of_same (unhide HP1 _)))
  go_wp2_with fail
  refine (unhide HP2 _).mono ?_
  rintro o w2 ⟨rfl, rfl⟩
  go_wp2_with fail
  go_region_with (first | (go_at_call 15; refine (unhide HP3 _).mono ?_; rintro o w5 ⟨rfl, rfl⟩) | (go_at_call 36; refine (unhide HC _ _ (Amid.drew (Amid.drewN (unhide HA) _)).rep).mono ?_; rintro o w3 ⟨rfl, hd⟩))
  all_goals
    have fin := hide (((Amid.drew (Amid.drewN (unhide HA) _)).next hd).pre (unhide HB1))
    clear hd
    go_wp2
    go_end0
    exact ⟨rfl, unhide fin⟩

set_option maxRecDepth 100000 in
set_option maxHeartbeats 1000000 in
theorem step_copy_none (S : TownRep) (D : Does S) (k a b : Int) (W : World) (bw bt : Nat) (bs : List Nat) (T : TownM) (K : Int) (hR : S.R W bt bs T) (hF : Fits K T) (hK : K + 90 ≤ 4294967294) (hW : KW W bw bt T.ps.length) (hb : bw ∉ bs) (hk : I64 k) (ha : I64 a) (hbb : I64 b)
    (h2 : pickI k 16 = 8) (hpos : ¬ 0 < T.way.length) :
    Calls Tryz.prog 12 #[.pointer (some ⟨bw, 0, none⟩), .agg #[.int .i64 k, .int .i64 a, .int .i64 b]] W fun o w' => o = .returned (.tuple #[]) ∧ TDid S W bt bs w' (T) := by
  have hn := hF.n
  have hlen := hF.len
  have hnet := hF.net
  have HM := hide (fun W bs h => D.messages W bt bs T K h hF)
  have HB1 := hide ((Below.refl W.heap.size W).alloc (Nat.le_refl _) (.cells #[.int .i64 k, .int .i64 a, .int .i64 b] 34))
  have HR1 := hide (S.below hR (unhide HB1))
  have hs1 := World.size_alloc W (.cells #[.int .i64 k, .int .i64 a, .int .i64 b] 34)
  have HX := hide (fun h : W.heap.size ∈ bs => Nat.lt_irrefl _ (S.lt hR _ h))
  have e0 := cell_of_row (W.alloc (.cells #[.int .i64 k, .int .i64 a, .int .i64 b] 34)) W.heap.size 0 _ _ (0, 0) (heap_alloc_new W _)
  have e1 := cell_of_row (W.alloc (.cells #[.int .i64 k, .int .i64 a, .int .i64 b] 34)) W.heap.size 1 _ _ (0, 0) (heap_alloc_new W _)
  have e2 := cell_of_row (W.alloc (.cells #[.int .i64 k, .int .i64 a, .int .i64 b] 34)) W.heap.size 2 _ _ (0, 0) (heap_alloc_new W _)
  have hW1 := hW.below (unhide HB1)
  have c0 := hW1.c0
  have c1 := hW1.c1
  have HL := hide hW1.lt
  have HP1 := hide (fun w => pick_any a T.ps.length w (by omega) (by omega) ha.1 ha.2)
  have HP2 := hide (fun w => pick_any k 16 w (by omega) (by omega) hk.1 hk.2)
  rw [h2] at HP2
  clear h2
  have hpr := pickI_range a T.ps.length (by omega)
  have HB := hide hb
  clear hR hF hK hk ha hbb hW hb hW1
  generalize pickI a T.ps.length = p at *
  go_enter Tryz.func12, Tryz.ntmps12
  go_wp2_with fail
  refine (unhide HM _ _ (unhide HR1)).mono ?_
  rintro o w1 ⟨sa, cap, rfl, _, hd, _⟩
  obtain ⟨bs2, hA⟩ := Amid.of hd
  clear hd
  have d0 := (hA.cell (j := 0) (unhide HL) (unhide HB)).trans c0
  have d1 := (hA.cell (j := 1) (unhide HL) (unhide HB)).trans c1
  have g0 := (hA.cell (y := W.heap.size) (j := 0) (by rw [hs1]; omega) (unhide HX)).trans e0
  have g1 := (hA.cell (y := W.heap.size) (j := 1) (by rw [hs1]; omega) (unhide HX)).trans e1
  have g2 := (hA.cell (y := W.heap.size) (j := 2) (by rw [hs1]; omega) (unhide HX)).trans e2
  have HA := hide hA
  clear hA c0 c1 e0 e1 e2 hs1
  go_wp2_with fail
  go_quiet ((go_at_call 15; exact Calls.quiet_of_same (unhide HP1 _)))
  go_wp2_with fail
  refine (unhide HP2 _).mono ?_
  rintro o w2 ⟨rfl, rfl⟩
  have fin := hide ((TDid.next (Amid.drewN (unhide HA) nq).keeps (Amid.drewN (unhide HA) nq).blocks (TDid.rfl' (Amid.drewN (unhide HA) nq).rep)).pre (unhide HB1))
  go_wp2
  go_end0
  exact ⟨rfl, unhide fin⟩

set_option maxRecDepth 100000 in
set_option maxHeartbeats 1000000 in
theorem step_deliver_some (S : TownRep) (D : Does S) (k a b : Int) (W : World) (bw bt : Nat) (bs : List Nat) (T : TownM) (K : Int) (hR : S.R W bt bs T) (hF : Fits K T) (hK : K + 90 ≤ 4294967294) (hW : KW W bw bt T.ps.length) (hb : bw ∉ bs) (hk : I64 k) (ha : I64 a) (hbb : I64 b)
    (h2 : 8 < pickI k 16) (hpos : 0 < T.way.length) :
    Calls Tryz.prog 12 #[.pointer (some ⟨bw, 0, none⟩), .agg #[.int .i64 k, .int .i64 a, .int .i64 b]] W fun o w' => o = .returned (.tuple #[]) ∧ TDid S W bt bs w' (T.deliver (pickI a T.way.length)) := by
  have hn := hF.n
  have hlen := hF.len
  have hnet := hF.net
  have HM := hide (fun W bs h => D.messages W bt bs T K h hF)
  have HB1 := hide ((Below.refl W.heap.size W).alloc (Nat.le_refl _) (.cells #[.int .i64 k, .int .i64 a, .int .i64 b] 34))
  have HR1 := hide (S.below hR (unhide HB1))
  have hs1 := World.size_alloc W (.cells #[.int .i64 k, .int .i64 a, .int .i64 b] 34)
  have HX := hide (fun h : W.heap.size ∈ bs => Nat.lt_irrefl _ (S.lt hR _ h))
  have e0 := cell_of_row (W.alloc (.cells #[.int .i64 k, .int .i64 a, .int .i64 b] 34)) W.heap.size 0 _ _ (0, 0) (heap_alloc_new W _)
  have e1 := cell_of_row (W.alloc (.cells #[.int .i64 k, .int .i64 a, .int .i64 b] 34)) W.heap.size 1 _ _ (0, 0) (heap_alloc_new W _)
  have e2 := cell_of_row (W.alloc (.cells #[.int .i64 k, .int .i64 a, .int .i64 b] 34)) W.heap.size 2 _ _ (0, 0) (heap_alloc_new W _)
  have hW1 := hW.below (unhide HB1)
  have c0 := hW1.c0
  have c1 := hW1.c1
  have HL := hide hW1.lt
  have HP1 := hide (fun w => pick_any a T.ps.length w (by omega) (by omega) ha.1 ha.2)
  have HP2 := hide (fun w => pick_any k 16 w (by omega) (by omega) hk.1 hk.2)
  generalize pickI k 16 = x at *
  have hpr := pickI_range a T.ps.length (by omega)
  have hqr := pickI_range a T.way.length (by omega)
  have HP3 := hide (fun w => pick_any a T.way.length w (by omega) (by omega) ha.1 ha.2)
  have HC := hide (fun W bs h => D.deliver (pickI a T.way.length) W bt bs T K h hF (by omega) ⟨by omega, by omega⟩)
  generalize pickI a T.way.length = q at *
  have HB := hide hb
  clear hR hF hK hk ha hbb hW hb hW1
  generalize pickI a T.ps.length = p at *
  go_enter Tryz.func12, Tryz.ntmps12
  go_wp2_with fail
  refine (unhide HM _ _ (unhide HR1)).mono ?_
  rintro o w1 ⟨sa, cap, rfl, _, hd, _⟩
  obtain ⟨bs2, hA⟩ := Amid.of hd
  clear hd
  have d0 := (hA.cell (j := 0) (unhide HL) (unhide HB)).trans c0
  have d1 := (hA.cell (j := 1) (unhide HL) (unhide HB)).trans c1
  have g0 := (hA.cell (y := W.heap.size) (j := 0) (by rw [hs1]; omega) (unhide HX)).trans e0
  have g1 := (hA.cell (y := W.heap.size) (j := 1) (by rw [hs1]; omega) (unhide HX)).trans e1
  have g2 := (hA.cell (y := W.heap.size) (j := 2) (by rw [hs1]; omega) (unhide HX)).trans e2
  have HA := hide hA
  clear hA c0 c1 e0 e1 e2 hs1
  go_wp2_with fail
  go_quiet ((go_at_call 15; exact Calls.quiet_of_same (unhide HP1 _)))
  go_wp2_with fail
  refine (unhide HP2 _).mono ?_
  rintro o w2 ⟨rfl, rfl⟩
  go_wp2_with fail
  go_region_with (first | (go_at_call 15; refine (unhide HP3 _).mono ?_; rintro o w5 ⟨rfl, rfl⟩) | (go_at_call 37; refine (unhide HC _ _ (Amid.drew (Amid.drewN (unhide HA) _)).rep).mono ?_; rintro o w3 ⟨rfl, hd⟩))
  all_goals
    have fin := hide (((Amid.drew (Amid.drewN (unhide HA) _)).next hd).pre (unhide HB1))
    clear hd
    go_wp2
    go_end0
    exact ⟨rfl, unhide fin⟩

set_option maxRecDepth 100000 in
set_option maxHeartbeats 1000000 in
theorem step_deliver_none (S : TownRep) (D : Does S) (k a b : Int) (W : World) (bw bt : Nat) (bs : List Nat) (T : TownM) (K : Int) (hR : S.R W bt bs T) (hF : Fits K T) (hK : K + 90 ≤ 4294967294) (hW : KW W bw bt T.ps.length) (hb : bw ∉ bs) (hk : I64 k) (ha : I64 a) (hbb : I64 b)
    (h2 : 8 < pickI k 16) (hpos : ¬ 0 < T.way.length) :
    Calls Tryz.prog 12 #[.pointer (some ⟨bw, 0, none⟩), .agg #[.int .i64 k, .int .i64 a, .int .i64 b]] W fun o w' => o = .returned (.tuple #[]) ∧ TDid S W bt bs w' (T) := by
  have hn := hF.n
  have hlen := hF.len
  have hnet := hF.net
  have HM := hide (fun W bs h => D.messages W bt bs T K h hF)
  have HB1 := hide ((Below.refl W.heap.size W).alloc (Nat.le_refl _) (.cells #[.int .i64 k, .int .i64 a, .int .i64 b] 34))
  have HR1 := hide (S.below hR (unhide HB1))
  have hs1 := World.size_alloc W (.cells #[.int .i64 k, .int .i64 a, .int .i64 b] 34)
  have HX := hide (fun h : W.heap.size ∈ bs => Nat.lt_irrefl _ (S.lt hR _ h))
  have e0 := cell_of_row (W.alloc (.cells #[.int .i64 k, .int .i64 a, .int .i64 b] 34)) W.heap.size 0 _ _ (0, 0) (heap_alloc_new W _)
  have e1 := cell_of_row (W.alloc (.cells #[.int .i64 k, .int .i64 a, .int .i64 b] 34)) W.heap.size 1 _ _ (0, 0) (heap_alloc_new W _)
  have e2 := cell_of_row (W.alloc (.cells #[.int .i64 k, .int .i64 a, .int .i64 b] 34)) W.heap.size 2 _ _ (0, 0) (heap_alloc_new W _)
  have hW1 := hW.below (unhide HB1)
  have c0 := hW1.c0
  have c1 := hW1.c1
  have HL := hide hW1.lt
  have HP1 := hide (fun w => pick_any a T.ps.length w (by omega) (by omega) ha.1 ha.2)
  have HP2 := hide (fun w => pick_any k 16 w (by omega) (by omega) hk.1 hk.2)
  generalize pickI k 16 = x at *
  have hpr := pickI_range a T.ps.length (by omega)
  have HB := hide hb
  clear hR hF hK hk ha hbb hW hb hW1
  generalize pickI a T.ps.length = p at *
  go_enter Tryz.func12, Tryz.ntmps12
  go_wp2_with fail
  refine (unhide HM _ _ (unhide HR1)).mono ?_
  rintro o w1 ⟨sa, cap, rfl, _, hd, _⟩
  obtain ⟨bs2, hA⟩ := Amid.of hd
  clear hd
  have d0 := (hA.cell (j := 0) (unhide HL) (unhide HB)).trans c0
  have d1 := (hA.cell (j := 1) (unhide HL) (unhide HB)).trans c1
  have g0 := (hA.cell (y := W.heap.size) (j := 0) (by rw [hs1]; omega) (unhide HX)).trans e0
  have g1 := (hA.cell (y := W.heap.size) (j := 1) (by rw [hs1]; omega) (unhide HX)).trans e1
  have g2 := (hA.cell (y := W.heap.size) (j := 2) (by rw [hs1]; omega) (unhide HX)).trans e2
  have HA := hide hA
  clear hA c0 c1 e0 e1 e2 hs1
  go_wp2_with fail
  go_quiet ((go_at_call 15; exact Calls.quiet_of_same (unhide HP1 _)))
  go_wp2_with fail
  refine (unhide HP2 _).mono ?_
  rintro o w2 ⟨rfl, rfl⟩
  have fin := hide ((TDid.next (Amid.drewN (unhide HA) nq).keeps (Amid.drewN (unhide HA) nq).blocks (TDid.rfl' (Amid.drewN (unhide HA) nq).rep)).pre (unhide HB1))
  go_wp2
  go_end0
  exact ⟨rfl, unhide fin⟩

theorem step_any (S : TownRep) (D : Does S) (k a b : Int) (W : World) (bw bt : Nat) (bs : List Nat) (T : TownM) (K : Int) (hR : S.R W bt bs T) (hF : Fits K T) (hK : K + 90 ≤ 4294967294) (hW : KW W bw bt T.ps.length) (hb : bw ∉ bs) (hk : I64 k) (ha : I64 a) (hbb : I64 b) :
    Calls Tryz.prog 12 #[.pointer (some ⟨bw, 0, none⟩), .agg #[.int .i64 k, .int .i64 a, .int .i64 b]] W fun o w' => o = .returned (.tuple #[]) ∧ TDid S W bt bs w' (T.stepM k a b) := by
  have hr := pickI_range k 16 (by omega)
  unfold TownM.stepM
  by_cases h0 : pickI k 16 = 0
  · rw [if_pos (.inl h0)]
    exact step_tick0 S D k a b W bw bt bs T K hR hF hK hW hb hk ha hbb h0
  by_cases h1 : pickI k 16 = 1
  · rw [if_pos (.inr h1)]
    exact step_tick1 S D k a b W bw bt bs T K hR hF hK hW hb hk ha hbb h1
  rw [if_neg (by omega)]
  by_cases h2 : pickI k 16 = 2
  · rw [if_pos h2]
    exact step_crash S D k a b W bw bt bs T K hR hF hK hW hb hk ha hbb h2
  rw [if_neg h2]
  by_cases h3 : pickI k 16 = 3
  · rw [if_pos (.inl h3)]
    exact step_restart3 S D k a b W bw bt bs T K hR hF hK hW hb hk ha hbb h3
  by_cases h4 : pickI k 16 = 4
  · rw [if_pos (.inr h4)]
    exact step_restart4 S D k a b W bw bt bs T K hR hF hK hW hb hk ha hbb h4
  rw [if_neg (by omega)]
  by_cases h5 : pickI k 16 = 5
  · rw [if_pos h5]
    exact step_arm S D k a b W bw bt bs T K hR hF hK hW hb hk ha hbb h5
  rw [if_neg h5]
  by_cases h6 : pickI k 16 = 6
  · rw [if_pos h6]
    exact step_hear S D k a b W bw bt bs T K hR hF hK hW hb hk ha hbb h6
  rw [if_neg h6]
  by_cases h7 : pickI k 16 = 7
  · rw [if_pos h7]
    by_cases hp : 0 < T.way.length
    · rw [if_pos hp]
      exact step_drop_some S D k a b W bw bt bs T K hR hF hK hW hb hk ha hbb h7 hp
    · rw [if_neg hp]
      exact step_drop_none S D k a b W bw bt bs T K hR hF hK hW hb hk ha hbb h7 hp
  rw [if_neg h7]
  by_cases h8 : pickI k 16 = 8
  · rw [if_pos h8]
    by_cases hp : 0 < T.way.length
    · rw [if_pos hp]
      exact step_copy_some S D k a b W bw bt bs T K hR hF hK hW hb hk ha hbb h8 hp
    · rw [if_neg hp]
      exact step_copy_none S D k a b W bw bt bs T K hR hF hK hW hb hk ha hbb h8 hp
  rw [if_neg h8]
  by_cases hp : 0 < T.way.length
  · rw [if_pos hp]
    exact step_deliver_some S D k a b W bw bt bs T K hR hF hK hW hb hk ha hbb (by omega) hp
  · rw [if_neg hp]
    exact step_deliver_none S D k a b W bw bt bs T K hR hF hK hW hb hk ha hbb (by omega) hp
end Go.Proofs.YtceappncglfciaaGreat
