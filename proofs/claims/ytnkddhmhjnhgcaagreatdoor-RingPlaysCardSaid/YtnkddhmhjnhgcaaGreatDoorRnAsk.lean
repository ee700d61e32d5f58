/- Layer 8: the law's helpers text, none, pushes, pops, gets, ranges. -/
import Derived.Test.YtnkddhmhjnhgcaaGreatDoorRnNil
namespace Go.Proofs.YtnkddhmhjnhgcaaGreatDoor
open Go.RowKit
set_option linter.unusedVariables false
set_option maxRecDepth 100000

def runeC (r : Int) : Cl := ⟨r, 0, 0, 0, 1, zeroP⟩
def CelBlk1 (w : World) (g : Nat) (c : Cl) : Prop := w.heap[g]? = some (.cells #[.int .i32 c.r, .int .i32 c.m0, .int .i32 c.m1, .int .i32 c.m2, .int .i64 c.w, .int .i64 c.p.f.k, .int .u8 c.p.f.i, .int .u8 c.p.f.r, .int .u8 c.p.f.g, .int .u8 c.p.f.b, .int .i64 c.p.b.k, .int .u8 c.p.b.i, .int .u8 c.p.b.r, .int .u8 c.p.b.g, .int .u8 c.p.b.b, .int .u8 c.p.fl] 86 (0, 0))
theorem text8_any (r : Int) (w : World) : Calls Tryz.prog 14 #[.int .i32 r] w (LinRet w [runeC r] false) := by
  have hz0 : LinIn (w.alloc (.cells #[.slice none 0 0, .bool false] 36)) w.heap.size none 0 0 false := LinIn.new w none 0 0 false
  have hk0 : Kept [] w (w.alloc (.cells #[.slice none 0 0, .bool false] 36)) := (Kept.refl [] w).alloc _
  generalize hW0 : w.alloc (.cells #[.slice none 0 0, .bool false] 36) = W0 at *
  have hs0 : Hid (W0.heap.size = w.heap.size + 1) := hide (by rw [← hW0]; simp)
  replace hW0 := hide hW0
  have hk1 : Kept [] W0 (W0.alloc (.cells #[.int .i32 r, .int .i32 0, .int .i32 0, .int .i32 0, .int .i64 1, .int .i64 0, .int .u8 0, .int .u8 0, .int .u8 0, .int .u8 0, .int .i64 0, .int .u8 0, .int .u8 0, .int .u8 0, .int .u8 0, .int .u8 0] 86)) := (Kept.refl [] W0).alloc _
  have hcb : CelBlk1 (W0.alloc (.cells #[.int .i32 r, .int .i32 0, .int .i32 0, .int .i32 0, .int .i64 1, .int .i64 0, .int .u8 0, .int .u8 0, .int .u8 0, .int .u8 0, .int .i64 0, .int .u8 0, .int .u8 0, .int .u8 0, .int .u8 0, .int .u8 0] 86)) W0.heap.size (runeC r) := heap_alloc_new W0 _
  go_enter Tryz.func14, Tryz.ntmps14
  go_upto_region 1 with fail
  rw [hW0.out]
  go_wp2_with (refine wpList_store_lin rfl rfl rfl w.heap.size rfl (hz0.kept hk1 (by simp)) (some ⟨W0.heap.size, 0, none⟩) 1 1 false rfl ?_; intro w7 hb7 hk7)
  have hs0 := hs0.out
  refine bodyPost_ret (results_lin rfl rfl hb7) rfl ?_
  have ho : Own (W0.alloc (.cells #[.int .i32 r, .int .i32 0, .int .i32 0, .int .i32 0, .int .i64 1, .int .i64 0, .int .u8 0, .int .u8 0, .int .u8 0, .int .u8 0, .int .i64 0, .int .u8 0, .int .u8 0, .int .u8 0, .int .u8 0, .int .u8 0] 86)) w.heap.size 86 (some ⟨W0.heap.size, 0, none⟩) 1 1 16 (cellsV [runeC r]) := ⟨rfl, .inr ⟨W0.heap.size, 1, _, rfl, hk0.size, hcb, Nat.le_refl _, by decide, rfl, rfl⟩⟩
  have ho7 := ho.kept hk7 (fun y hy hm => by simp [blk] at hy hm; omega)
  exact ⟨_, 1, 1, rfl, ho7, ho7.caps.1, ho7.caps.2, (hk0.trans hk1 (by simp)).trans hk7 (by simp)⟩
set_option maxHeartbeats 1000000 in
theorem none8_any (m k : Int) (h : ¬ (0 ≤ m ∧ m ≤ 1048576 ∧ 1 ≤ k ∧ k ≤ 1024)) (w : World) :
    Calls Tryz.prog 4 #[.int .i64 m, .int .i64 k] w fun e w' => e = .returned (.bool true) ∧ Kept [] w w' := by
  have hC := hide (New8_any m k w)
  go_enter Tryz.func4, Tryz.ntmps4
  go_wp2_with fail
  refine hC.out.mono ?_
  rintro e w1 ⟨hk1, _, hno⟩
  obtain rfl := hno h
  go_wp2_with fail
  go_ret
  exact ⟨rfl, hk1⟩
/-- Of what Get and Pop return. -/
theorem getG_len {r : Rg} (h : rgOk r) (k : Int) : (getG r k).1.l.length ≤ 1000 := by
  unfold getG
  split
  · rename_i h0
    obtain ⟨d, _, hd, e⟩ := at_cases h0
    rw [e, List.getD_eq_getElem?_getD, List.getElem?_eq_getElem hd, Option.getD_some]
    exact valid_len (h.val _ (List.getElem_mem hd))
  · simp [noLn]
theorem popG_len {r : Rg} (h : rgOk r) : (popG r).2.1.l.length ≤ 1000 := by
  unfold popG
  split
  · simp [noLn]
  · rename_i hn
    have h0 : 0 < r.ls.length := List.length_pos_iff.2 hn
    show (r.ls.getLastD noLn).l.length ≤ 1000
    rw [List.getLastD_eq_getLast?, List.getLast?_eq_getElem?, List.getElem?_eq_getElem (by omega), Option.getD_some]
    exact valid_len (h.val _ (List.getElem_mem _))
theorem RN.get {w : World} {b : Nat} {r : Rg} {B : List Nat} (h : RN w b r B) (hn : r.next ≤ 1000000000) (k : Int) : Calls Tryz.prog 39 #[.pointer (some ⟨b, 0, none⟩), .int .i64 k] w (Get8Ret r k w) := by
  obtain ⟨a, n, c, ps, h, rfl, hl⟩ := h
  exact Get8_any w b r a n c ps h hn k
theorem RN.pop {w : World} {b : Nat} {r : Rg} {B : List Nat} (h : RN w b r B) (hn : r.next ≤ 1000000000) : Calls Tryz.prog 42 #[.pointer (some ⟨b, 0, none⟩)] w (Pop8Ret b r B w) := by
  obtain ⟨a, n, c, ps, h, rfl, hl⟩ := h
  exact Pop8_any w b r a n c ps h hl hn
theorem RN.push {w : World} {b : Nat} {r : Rg} {B : List Nat} (h : RN w b r B) (hn : r.next ≤ 1000000000) (a1 : Option Addr) (n1 c1 : Nat) (x : Ln) (ht : Tabs w) (hr1 : Rd w a1 n1 16 (cellsV x.l)) (h2 : ∀ y ∈ B, 2 ≤ y) (hd : ∀ y ∈ blkN a1 n1, y ∉ B) : Calls Tryz.prog 34 #[.pointer (some ⟨b, 0, none⟩), .agg #[.slice a1 n1 c1, .bool x.s]] w (Push8Ret b r x B w) := by
  obtain ⟨a, n, c, ps, h, rfl, hl⟩ := h
  exact Push8_any w b r a n c ps h hl hn a1 n1 c1 x ht hr1 h2 hd
theorem RN.range {w : World} {b : Nat} {r : Rg} {B : List Nat} (h : RN w b r B) (hn : r.next ≤ 1000000000) (f t : Int) : Calls Tryz.prog 36 #[.pointer (some ⟨b, 0, none⟩), .int .i64 f, .int .i64 t] w (Range8Ret r f t w) := by
  obtain ⟨a, n, c, ps, h, rfl, hl⟩ := h
  exact Range8_any w b r a n c ps h hl hn f t
set_option maxHeartbeats 4000000 in
theorem gets8_any (b : Nat) (r : Rg) (B : List Nat) (i : Int) (a2 : Option Addr) (n2 c2 : Nat) (s2 : Bool) (m : List Cl) (no : Int) (v : Bool) (w : World) (hp : RN w b r B) (hn : r.next ≤ 1000000000) (hr2 : Rd w a2 n2 16 (cellsV m)) (hv : (decide ((getG r i).1.s = s2 ∧ (getG r i).1.l = m) && decide ((getG r i).2 = no)) = v) :
    Calls Tryz.prog 12 #[.pointer (some ⟨b, 0, none⟩), .int .i64 i, .agg #[.slice a2 n2 c2, .bool s2], .int .i64 no] w fun e w' => e = .returned (.bool v) ∧ Kept [] w w' := by
  obtain ⟨W0, hW0⟩ : ∃ z : World, z = w.alloc (.cells #[.slice a2 n2 c2, .bool s2] 36) := ⟨_, rfl⟩
  have hk0 : Kept [] w W0 := by rw [hW0]; exact (Kept.refl [] w).alloc _
  have hbw : Hid (LinIn W0 w.heap.size a2 n2 c2 s2) := hide (by rw [hW0]; exact LinIn.new w a2 n2 c2 s2)
  have hC := (hp.kept hk0 (by simp)).get hn i
  unfold Get8Ret at hC
  have hC := hide hC
  have hr2' := hide (hr2.kept hk0 (by simp))
  have hlen := hide (getG_len hp.ok i)
  have hv := hide hv
  clear hr2 hp
  generalize getG r i = E at *
  obtain ⟨l', x⟩ := E
  have hx : ∃ q : Bool, ((x == no) = q) := ⟨_, rfl⟩
  obtain ⟨q, hq⟩ := hx
  have hqd : decide (x = no) = q := by rw [← hq]; rfl
  rw [hqd] at hv
  clear hqd
  go_enter Tryz.func12, Tryz.ntmps12
  go_upto_region 1 with fail
  rw [← hW0]
  clear hW0
  go_wp2_with fail
  refine hC.out.mono ?_
  rintro e w1 ⟨a', n', c', rfl, ho1, h1, h2, hk1⟩
  have hrl := hide ho1.rd
  clear ho1
  go_wp2_with (refine wpList_store_lin rfl rfl rfl w1.heap.size rfl (LinIn.new w1 none 0 0 false) a' n' c' l'.s rfl ?_; intro w2 hb2 hj2; have hh2 : Kept [] w1 w2 := ((Kept.refl [] w1).alloc (.cells #[.slice none 0 0, .bool false] 36)).trans hj2 (by simp); obtain ⟨p0, p1⟩ := hb2.at; obtain ⟨q0, q1⟩ := (hbw.out.kept (hk1.trans hh2 (by simp)) (by simp)).at)
  refine (rSame6_any a' n' c' l'.s l'.l a2 n2 c2 s2 m w2 (hrl.out.kept hh2 (by simp)) (hr2'.out.kept (hk1.trans hh2 (by simp)) (by simp)) (by have h1 := hrl.out.clen; have h2 := hlen.out; omega)).mono ?_
  rintro e w3 ⟨rfl, hj3⟩
  generalize decide (l'.s = s2 ∧ l'.l = m) = d at *
  cases d <;> cases q <;> (go_wp2_with fail; go_ret; exact ⟨ret_bool (by rw [← hv.out]; rfl), (hk0.trans (hk1.trans hh2 (by simp)) (by simp)).trans hj3 (by simp)⟩)
set_option maxHeartbeats 4000000 in
theorem pops8_any (b : Nat) (r : Rg) (B : List Nat) (a2 : Option Addr) (n2 c2 : Nat) (s2 : Bool) (m : List Cl) (no : Int) (v : Bool) (w : World) (hp : RN w b r B) (hn : r.next ≤ 1000000000) (hr2 : Rd w a2 n2 16 (cellsV m)) (hd2 : ∀ y ∈ blk a2, y ∉ B) (hv : (decide ((popG r).2.1.s = s2 ∧ (popG r).2.1.l = m) && decide ((popG r).2.2 = no)) = v) :
    Calls Tryz.prog 19 #[.pointer (some ⟨b, 0, none⟩), .agg #[.slice a2 n2 c2, .bool s2], .int .i64 no] w fun e w' => e = .returned (.bool v) ∧ ∃ B', RN w' b (popG r).1 B' ∧ Kept B w w' ∧ ∀ y ∈ B', y ∈ B ∨ w.heap.size ≤ y := by
  obtain ⟨W0, hW0⟩ : ∃ z : World, z = w.alloc (.cells #[.slice a2 n2 c2, .bool s2] 36) := ⟨_, rfl⟩
  have hk0 : Kept [] w W0 := by rw [hW0]; exact (Kept.refl [] w).alloc _
  have hbw : Hid (LinIn W0 w.heap.size a2 n2 c2 s2) := hide (by rw [hW0]; exact LinIn.new w a2 n2 c2 s2)
  have hC := (hp.kept hk0 (by simp)).pop hn
  unfold Pop8Ret at hC
  have hC := hide hC
  have hr2' := hide (hr2.kept hk0 (by simp))
  have hlen := hide (popG_len hp.ok)
  have hlt := hide hp.lt
  have hv := hide hv
  clear hr2 hp
  generalize popG r = E at *
  obtain ⟨s', l', x⟩ := E
  have hx : ∃ q : Bool, ((x == no) = q) := ⟨_, rfl⟩
  obtain ⟨q, hq⟩ := hx
  have hqd : decide (x = no) = q := by rw [← hq]; rfl
  rw [hqd] at hv
  clear hqd
  go_enter Tryz.func19, Tryz.ntmps19
  go_upto_region 1 with fail
  rw [← hW0]
  clear hW0
  go_wp2_with fail
  refine hC.out.mono ?_
  rintro e w1 ⟨B', a', n', c', rfl, hat1, hown1, hdis, hpg, hk1, hBB⟩
  have hs00 := hk0.size
  have hrl := hide hat1.rd
  have hbN : w.heap.size ∉ B := fun hm => by have := hlt.out _ hm; omega
  clear hat1 hown1 hdis
  go_wp2_with (refine wpList_store_lin rfl rfl rfl w1.heap.size rfl (LinIn.new w1 none 0 0 false) a' n' c' l'.s rfl ?_; intro w2 hb2 hj2; have hh2 : Kept [] w1 w2 := ((Kept.refl [] w1).alloc (.cells #[.slice none 0 0, .bool false] 36)).trans hj2 (by simp); obtain ⟨p0, p1⟩ := hb2.at; obtain ⟨q0, q1⟩ := (hbw.out.kept (hk1.trans hh2 (by simp)) hbN).at)
  refine (rSame6_any a' n' c' l'.s l'.l a2 n2 c2 s2 m w2 (hrl.out.kept hh2 (by simp)) (hr2'.out.kept (hk1.trans hh2 (by simp)) hd2) (by have h1 := hrl.out.clen; have h2 := hlen.out; omega)).mono ?_
  rintro e w3 ⟨rfl, hj3⟩
  generalize decide (l'.s = s2 ∧ l'.l = m) = d at *
  cases d <;> cases q <;> (go_wp2_with fail; go_ret; exact ⟨ret_bool (by rw [← hv.out]; rfl), B', hpg.kept (hh2.trans hj3 (by simp)) (by simp), ((hk0.mono (by simp)).trans (hk1.trans hh2 (by simp)) (fun y hy => .inl hy)).trans hj3 (by simp), fun y hy => (hBB y hy).imp id (fun h => by omega)⟩)
set_option maxHeartbeats 4000000 in
theorem pushes8_any (b : Nat) (r : Rg) (B : List Nat) (a1 : Option Addr) (n1 c1 : Nat) (x : Ln) (want no : Int) (v : Bool) (w : World) (hp : RN w b r B) (hn : r.next ≤ 1000000000) (ht : Tabs w) (hr1 : Rd w a1 n1 16 (cellsV x.l)) (h2 : ∀ y ∈ B, 2 ≤ y) (hd : ∀ y ∈ blkN a1 n1, y ∉ B)
    (hv : (decide ((if (pushG r x).2 = 0 then ((r.next : Nat) : Int) else 0) = want) && decide ((pushG r x).2 = no)) = v) :
    Calls Tryz.prog 15 #[.pointer (some ⟨b, 0, none⟩), .agg #[.slice a1 n1 c1, .bool x.s], .int .i64 want, .int .i64 no] w fun e w' => e = .returned (.bool v) ∧ ∃ B', RN w' b (pushG r x).1 B' ∧ Kept B w w' ∧ ∀ y ∈ B', y ∈ B ∨ w.heap.size ≤ y := by
  obtain ⟨W0, hW0⟩ : ∃ z : World, z = w.alloc (.cells #[.slice a1 n1 c1, .bool x.s] 36) := ⟨_, rfl⟩
  have hk0 : Kept [] w W0 := by rw [hW0]; exact (Kept.refl [] w).alloc _
  have hbw : Hid (LinIn W0 w.heap.size a1 n1 c1 x.s) := hide (by rw [hW0]; exact LinIn.new w a1 n1 c1 x.s)
  have hC := (hp.kept hk0 (by simp)).push hn a1 n1 c1 x (ht.kept hk0) (hr1.kept hk0 (by simp)) h2 hd
  unfold Push8Ret at hC
  have hC := hide hC
  have hv := hide hv
  clear hr1 hp ht
  obtain ⟨Z, hZ⟩ : ∃ Z : Int, (if (pushG r x).2 = 0 then ((r.next : Nat) : Int) else 0) = Z := ⟨_, rfl⟩
  rw [hZ] at hC hv
  replace hZ := hide hZ
  generalize pushG r x = E at *
  obtain ⟨s', y⟩ := E
  have hx : ∃ q : Bool, ((y == no) = q) := ⟨_, rfl⟩
  obtain ⟨q, hq⟩ := hx
  have hqd : decide (y = no) = q := by rw [← hq]; rfl
  have hx2 : ∃ d : Bool, ((Z == want) = d) := ⟨_, rfl⟩
  obtain ⟨d, hdq⟩ := hx2
  have hdd : decide (Z = want) = d := by rw [← hdq]; rfl
  simp only [hqd, hdd] at hv
  clear hqd hdd
  obtain ⟨q0, q1⟩ := hbw.out.at
  go_enter Tryz.func15, Tryz.ntmps15
  go_upto_region 1 with fail
  rw [← hW0]
  clear hW0
  go_wp2_with fail
  refine hC.out.mono ?_
  rintro e w1 ⟨B', rfl, hpg, hk1, hBB⟩
  have hs00 := hk0.size
  clear q0 q1
  cases d <;> cases q <;> (go_wp2_with fail; go_ret; exact ⟨ret_bool (by rw [← hv.out]; rfl), B', hpg, (hk0.mono (by simp)).trans hk1 (fun y hy => .inl hy), fun y hy => (hBB y hy).imp id (fun h => by omega)⟩)
theorem rangeG_len {r : Rg} (h : rgOk r) (f t : Int) : (rangeG r f t).1.length ≤ r.ls.length ∧ ∀ x ∈ (rangeG r f t).1, x.l.length ≤ 1000 := by
  unfold rangeG
  split
  · simp
  · split
    · simp
    · refine ⟨?_, fun x hx => valid_len (h.val x (List.mem_of_mem_take (List.mem_of_mem_drop hx)))⟩
      simp only [List.length_drop, List.length_take]
      omega
set_option maxHeartbeats 4000000 in
theorem ranges8_any (b : Nat) (r : Rg) (B : List Nat) (f t : Int) (no : Int) (a2 : Option Addr) (n2 c2 : Nat) (us : List LnA) (ys : List Ln) (v : Bool) (w : World) (hp : RN w b r B) (hn : r.next ≤ 1000000000) (hls : r.ls.length ≤ 1000000) (hr2 : LnsR w a2 n2 us ys) (hv : (decide ((rangeG r f t).1 = ys) && decide ((rangeG r f t).2 = no)) = v) :
    Calls Tryz.prog 13 #[.pointer (some ⟨b, 0, none⟩), .int .i64 f, .int .i64 t, .int .i64 no, .slice a2 n2 c2] w fun e w' => e = .returned (.bool v) ∧ Kept [] w w' := by
  have hC := hp.range hn f t
  unfold Range8Ret at hC
  have hC := hide hC
  have hr2' := hide hr2
  have hlen := hide (rangeG_len hp.ok f t)
  have hl2 := hide hls
  have hv := hide hv
  clear hr2 hp
  generalize rangeG r f t = E at *
  obtain ⟨l', x⟩ := E
  have hx : ∃ q : Bool, ((x == no) = q) := ⟨_, rfl⟩
  obtain ⟨q, hq⟩ := hx
  have hqd : decide (x = no) = q := by rw [← hq]; rfl
  rw [hqd] at hv
  clear hqd
  go_enter Tryz.func13, Tryz.ntmps13
  go_wp2_with fail
  refine hC.out.mono ?_
  rintro e w1 ⟨a', n', c', vs, rfl, hL, _, _, _, _, _, _, hk1⟩
  have hL := hide hL
  go_wp2_with fail
  refine (rAll6_any a' n' c' vs l' a2 n2 c2 us ys w1 hL.out (hr2'.out.kept hk1 (by simp) (by simp)) (fun x hx => by have := hlen.out.2 x hx; omega) (by have h1 := hL.out.len; have h2 := hlen.out.1; have h3 := hl2.out; omega)).mono ?_
  rintro e w3 ⟨rfl, hj3⟩
  try simp only at hv
  generalize decide (l' = ys) = d at *
  cases d <;> cases q <;> (go_wp2_with fail; go_ret; exact ⟨ret_bool (by rw [← hv.out]; rfl), hk1.trans hj3 (by simp)⟩)
end Go.Proofs.YtnkddhmhjnhgcaaGreatDoor
