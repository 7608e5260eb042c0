import Derived.Test.YtceappncglfciaaRight
namespace Go.Proofs.Ytceappncglfciaa
open Go.RowKit

/-- What Newest answers. -/
def newestOf (disk : ByteArray) : Nw := if disk.size = 56 then nwOf disk [false, true] else nw0

theorem newest_any (disk : ByteArray) (w : World) :
    Calls Try.prog 10 #[.string disk] w fun o w' => o = .returned (.tuple #[.agg (newestOf disk).cred, .int .i64 (newestOf disk).n, .int .i64 (newestOf disk).a]) ∧ Below w.heap.size w w' := by
  unfold newestOf
  by_cases hd : disk.size = 56
  · rw [if_pos hd]; exact newest_56 disk w hd
  · rw [if_neg hd]; exact newest_not disk w (beq_eq_false_iff_ne.2 (by omega))
theorem rnewest_any (disk : ByteArray) (w : World) :
    Calls Try.prog 11 #[.string disk] w fun o w' => o = .returned (.tuple #[.agg (newestOf disk).cred, .int .i64 (newestOf disk).n, .int .i64 (newestOf disk).a]) ∧ Below w.heap.size w w' := by
  unfold newestOf
  by_cases hd : disk.size = 56
  · rw [if_pos hd, ← newest_eq disk hd]; exact rnewest_56 disk w hd
  · rw [if_neg hd]; exact rnewest_not disk w (beq_eq_false_iff_ne.2 (by omega))

set_option maxRecDepth 100000 in
set_option maxHeartbeats 1000000 in
theorem reads_any (disk : ByteArray) (w : World) (hs : disk.size ≤ 140737488351232) :
    Calls Try.prog 4 #[.string disk] w fun o w' => o = .returned (.bool true) ∧ Below w.heap.size w w' := by
  have H1 := hide (newest_any disk)
  have H2 := hide (rnewest_any disk)
  have H3 := hide (newest_any (⟨#[0]⟩ ++ disk))
  have H4 := hide (rnewest_any (⟨#[0]⟩ ++ disk))
  generalize newestOf disk = a at *
  generalize newestOf (⟨#[0]⟩ ++ disk) = b at *
  simp only [Nw.cred] at H1 H2 H3 H4
  go_enter Try.func4, Try.ntmps4
  go_wp2_with fail
  refine (shown_any _).mono ?_
  rintro o w1 ⟨rfl, hB1⟩
  have L1 := hide hB1
  clear hB1
  go_wp2_with fail
  refine (unhide H1 _).mono ?_
  rintro o w2 ⟨rfl, hB2⟩
  have L2 := hide (And.intro (Box.new w2 #[.int .i64 a.p, .int .i64 a.t, .int .i64 a.e, .int .i64 a.v] 23) (((unhide L1).trans (hB2.mono (unhide L1).size)).alloc ((unhide L1).trans (hB2.mono (unhide L1).size)).size (.cells #[.int .i64 a.p, .int .i64 a.t, .int .i64 a.e, .int .i64 a.v] 23)))
  clear hB2 L1
  go_wp2_with fail
  refine (unhide H2 _).mono ?_
  rintro o w3 ⟨rfl, hB3⟩
  have e2 := (unhide L2).1.keep hB3
  have e2l : Below w.heap.size w w3 := (unhide L2).2.trans (hB3.mono (unhide L2).2.size)
  have L3 := hide (And.intro (e2.alloc (.cells #[.int .i64 a.p, .int .i64 a.t, .int .i64 a.e, .int .i64 a.v] 23)) (And.intro (Box.new w3 #[.int .i64 a.p, .int .i64 a.t, .int .i64 a.e, .int .i64 a.v] 23) (e2l.alloc e2l.size (.cells #[.int .i64 a.p, .int .i64 a.t, .int .i64 a.e, .int .i64 a.v] 23))))
  clear hB3 L2 e2 e2l
  go_wp2_with fail
  refine (unhide H3 _).mono ?_
  rintro o w4 ⟨rfl, hB4⟩
  have e3 := (unhide L3).1.keep hB4
  have e4 := (unhide L3).2.1.keep hB4
  have e4l : Below w.heap.size w w4 := (unhide L3).2.2.trans (hB4.mono (unhide L3).2.2.size)
  have L4 := hide (And.intro (e3.alloc (.cells #[.int .i64 b.p, .int .i64 b.t, .int .i64 b.e, .int .i64 b.v] 23)) (And.intro (e4.alloc (.cells #[.int .i64 b.p, .int .i64 b.t, .int .i64 b.e, .int .i64 b.v] 23)) (And.intro (Box.new w4 #[.int .i64 b.p, .int .i64 b.t, .int .i64 b.e, .int .i64 b.v] 23) (e4l.alloc e4l.size (.cells #[.int .i64 b.p, .int .i64 b.t, .int .i64 b.e, .int .i64 b.v] 23)))))
  clear hB4 L3 e3 e4 e4l
  go_wp2_with fail
  refine (unhide H4 _).mono ?_
  rintro o w5 ⟨rfl, hB5⟩
  obtain ⟨x1, x2, x3, xl⟩ := unhide L4
  have y1 := x1.keep hB5
  have y2 := x2.keep hB5
  have y3 := x3.keep hB5
  have yl := hide ((xl.trans (hB5.mono xl.size)).alloc (xl.trans (hB5.mono xl.size)).size (.cells #[.int .i64 b.p, .int .i64 b.t, .int .i64 b.e, .int .i64 b.v] 23))
  have c1 := y1.cell 0
  have c2 := y1.cell 1
  have c3 := y1.cell 2
  have c4 := y1.cell 3
  have c5 := y2.cell 0
  have c6 := y2.cell 1
  have c7 := y2.cell 2
  have c8 := y2.cell 3
  have d1 := y3.cell 0
  have d2 := y3.cell 1
  have d3 := y3.cell 2
  have d4 := y3.cell 3
  have u1 := y1.lt
  have u2 := y2.lt
  have u3 := y3.lt
  clear x1 x2 x3 xl y1 y2 y3 hB5 L4 H1 H2 H3 H4
  go_wp2
  go_ret
  exact ⟨rfl, unhide yl⟩
end Go.Proofs.Ytceappncglfciaa
