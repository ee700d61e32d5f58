/- Layer 7: what is asked of the program's pages, whatever they are in memory; the law's helpers text, gets, pops, none. Layer 7: the law's helper looks: a page looks like the reference's, line by line. What the laws ask of pages whose blocks are known to be apart. -/
import Derived.Test.YtpeedjknjjbabaaDoorShRefs
import Derived.Test.YtpeedjknjjbabaaDoorSgB
namespace Go.Proofs.YtpeedjknjjbabaaDoor
open Go.RowKit
set_option linter.unusedVariables false
set_option maxRecDepth 100000

/-- A line that a function returns: it lies in a block of its own. -/
def LnNew (w w' : World) (a : Option Addr) (n c : Nat) (x : Ln) : Prop := Own w' w.heap.size 71 a n c 16 (cellsV x.l) ∧ n ≤ c ∧ c ≤ maxLen
/-- What the program's functions of layer 7 are asked to do: PG w b s B: at block b there is the page s; it reaches the blocks B. -/
def CelBlk1 (w : World) (g : Nat) (c : Cl) : Prop := w.heap[g]? = some (.cells #[.int .i32 c.r, .int .i32 c.m0, .int .i32 c.m1, .int .i32 c.m2, .int .i64 c.w, .int .i64 c.p.f.k, .int .u8 c.p.f.i, .int .u8 c.p.f.r, .int .u8 c.p.f.g, .int .u8 c.p.f.b, .int .i64 c.p.b.k, .int .u8 c.p.b.i, .int .u8 c.p.b.r, .int .u8 c.p.b.g, .int .u8 c.p.b.b, .int .u8 c.p.fl] 71 (0, 0))
structure PageIs (PG : World → Nat → Sh → List Nat → Prop) : Prop where
  ok : ∀ w b s B, PG w b s B → shOk s ∧ 1 ≤ s.places ∧ s.places ≤ 1024
  lt : ∀ w b s B, PG w b s B → ∀ y ∈ B, y < w.heap.size
  kept : ∀ w w' b s B S, PG w b s B → Kept S w w' → (∀ y ∈ B, y ∉ S) → PG w' b s B
  new : ∀ (k : Int) w, Calls Tryd.prog 9 #[.int .i64 k] w fun e w' => Kept [] w w' ∧ ((1 ≤ k ∧ k ≤ 1024) → ∃ b B, e = .returned (.tuple #[.pointer (some ⟨b, 0, none⟩), .int .i64 0]) ∧ PG w' b ⟨k.toNat, 0, []⟩ B ∧ ∀ y ∈ B, w.heap.size ≤ y) ∧ (¬ (1 ≤ k ∧ k ≤ 1024) → e = .returned (.tuple #[.pointer none, .int .i64 2]))
  push : ∀ w b s B a n c (x : Ln), PG w b s B → Tabs w → Rd w a n 16 (cellsV x.l) → n ≤ c → c ≤ maxLen → n ≤ 2000 → Calls Tryd.prog 13 #[.pointer (some ⟨b, 0, none⟩), .agg #[.slice a n c, .bool x.s]] w fun e w' => ∃ B', e = .returned (.int .i64 (pushS s x).2) ∧ PG w' b (pushS s x).1 B' ∧ Kept B w w' ∧ ∀ y ∈ B', y ∈ B ∨ w.heap.size ≤ y
  set : ∀ w b s B (i : Int) a n c (x : Ln), PG w b s B → Tabs w → Rd w a n 16 (cellsV x.l) → n ≤ c → c ≤ maxLen → n ≤ 2000 → Calls Tryd.prog 21 #[.pointer (some ⟨b, 0, none⟩), .int .i64 i, .agg #[.slice a n c, .bool x.s]] w fun e w' => ∃ B', e = .returned (.int .i64 (setS s i x).2) ∧ PG w' b (setS s i x).1 B' ∧ Kept B w w' ∧ ∀ y ∈ B', y ∈ B ∨ w.heap.size ≤ y
  drop : ∀ w b s B (k : Int), PG w b s B → Calls Tryd.prog 16 #[.pointer (some ⟨b, 0, none⟩), .int .i64 k] w fun e w' => ∃ B', e = .returned (.int .i64 (dropS s k).2) ∧ PG w' b (dropS s k).1 B' ∧ Kept B w w' ∧ ∀ y ∈ B', y ∈ B ∨ w.heap.size ≤ y
  pop : ∀ w b s B, PG w b s B → Calls Tryd.prog 25 #[.pointer (some ⟨b, 0, none⟩)] w fun e w' => ∃ B' a n c, e = .returned (.tuple #[.agg #[.slice a n c, .bool (popS s).2.1.s], .int .i64 (popS s).2.2]) ∧ LnAt w' ⟨a, n, c, (popS s).2.1.s⟩ (popS s).2.1 ∧ OwnL w' ⟨a, n, c, (popS s).2.1.s⟩ ∧ (∀ y ∈ blk a, y ∉ B' ∧ (y ∈ B ∨ w.heap.size ≤ y)) ∧ PG w' b (popS s).1 B' ∧ Kept B w w' ∧ ∀ y ∈ B', y ∈ B ∨ w.heap.size ≤ y
  get : ∀ w b s B (i : Int), PG w b s B → Calls Tryd.prog 35 #[.pointer (some ⟨b, 0, none⟩), .int .i64 i] w fun e w' => ∃ a n c, e = .returned (.tuple #[.agg #[.slice a n c, .bool (getS s i).1.s], .int .i64 (getS s i).2]) ∧ LnNew w w' a n c (getS s i).1 ∧ Kept [] w w'
  lines : ∀ w b s B, PG w b s B → Calls Tryd.prog 23 #[.pointer (some ⟨b, 0, none⟩)] w fun e w' => ∃ a n c vs, e = .returned (.slice a n c) ∧ LnsR w' a n vs s.ls ∧ n ≤ c ∧ c ≤ maxLen ∧ (∀ y ∈ blk a, w.heap.size ≤ y) ∧ (∀ v ∈ vs, ∃ x, Own w' w.heap.size 71 v.a v.n v.c 16 (cellsV x) ∧ x.length ≤ 1000) ∧ vs.Pairwise (fun u v => ∀ y ∈ blk u.a, y ∉ blk v.a) ∧ (∀ v ∈ vs, ∀ y ∈ blk a, y ∉ blk v.a) ∧ Kept [] w w'
  len : ∀ w b s B, PG w b s B → Calls Tryd.prog 18 #[.pointer (some ⟨b, 0, none⟩)] w fun e w' => e = .returned (.int .i64 (s.ls.length : Nat)) ∧ Kept [] w w'
  cap : ∀ w b s B, PG w b s B → Calls Tryd.prog 22 #[.pointer (some ⟨b, 0, none⟩)] w fun e w' => e = .returned (.int .i64 (s.places : Nat)) ∧ Kept [] w w'
  room : ∀ w b s B, PG w b s B → Calls Tryd.prog 15 #[.pointer (some ⟨b, 0, none⟩)] w fun e w' => e = .returned (.int .i64 (s.room : Nat)) ∧ Kept [] w w'
  gone : ∀ w b s B, PG w b s B → Calls Tryd.prog 19 #[.pointer (some ⟨b, 0, none⟩)] w fun e w' => e = .returned (.int .i64 (s.gone : Nat)) ∧ Kept [] w w'
  copy : ∀ w b s B, PG w b s B → Calls Tryd.prog 24 #[.pointer (some ⟨b, 0, none⟩)] w fun e w' => ∃ b' B', e = .returned (.pointer (some ⟨b', 0, none⟩)) ∧ PG w' b' s B' ∧ (∀ y ∈ B', w.heap.size ≤ y) ∧ Kept [] w w'

theorem PG.ex {w : World} {b : Nat} {s : Sh} {B : List Nat} (h : PG w b s B) : ∃ a n c vs, PgIs w b s a n c vs ∧ B = pgB b a c vs := h
/-- The program's pages are such. -/
theorem pageIs : PageIs PG where
  ok := PG.ok
  lt := PG.lt
  kept := PG.kept
  new := fun k w => NewS_any k w
  push := fun w b s B a n c x hp ht hr _ _ _ => by
    obtain ⟨a', n', c', vs, h, rfl⟩ := hp
    exact PushS_any w b s a' n' c' vs h a n c x ht hr
  set := fun w b s B i a n c x hp ht hr _ _ _ => by
    obtain ⟨a', n', c', vs, h, rfl⟩ := hp
    exact SetS_any w b s a' n' c' vs h i a n c x ht hr
  drop := fun w b s B k hp => by
    obtain ⟨a', n', c', vs, h, rfl⟩ := hp
    exact DropS_any w b s a' n' c' vs h k
  pop := fun w b s B hp => by
    obtain ⟨a', n', c', vs, h, rfl⟩ := hp
    exact PopS_any w b s a' n' c' vs h
  get := fun w b s B i hp => by
    obtain ⟨a', n', c', vs, h, rfl⟩ := hp
    refine (GetS_any w b s a' n' c' vs h i).mono ?_
    rintro e w' ⟨a, n, c, h1, h2, h3, h4, h5⟩
    exact ⟨a, n, c, h1, ⟨h2, h3, h4⟩, h5⟩
  lines := fun w b s B hp => by
    obtain ⟨a', n', c', vs, h, rfl⟩ := hp
    refine (LinesS_any w b s a' n' c' vs h).mono ?_
    rintro e w' ⟨g, n, us, h1, h2, h3⟩
    exact ⟨some ⟨g, 0, none⟩, n, n, us, h1, ⟨h2.mid.rd, h2.lns⟩, Nat.le_refl _, h2.mid.caps.2, fun y hy => by simp [blk] at hy; subst hy; exact h2.ge, h2.own, h2.d4, fun v hv y hy => by simp [blk] at hy; subst hy; exact h2.d3 v hv, h3⟩
  len := fun w b s B hp => by
    obtain ⟨a', n', c', vs, h, rfl⟩ := hp
    exact len_pg h
  cap := fun w b s B hp => by
    obtain ⟨a', n', c', vs, h, rfl⟩ := hp
    exact cap_pg h
  room := fun w b s B hp => by
    obtain ⟨a', n', c', vs, h, rfl⟩ := hp
    exact room_pg h
  gone := fun w b s B hp => by
    obtain ⟨a', n', c', vs, h, rfl⟩ := hp
    exact gone_pg h
  copy := fun w b s B hp => by
    obtain ⟨a', n', c', vs, h, rfl⟩ := hp
    exact CopyS_any w b s a' n' c' vs h

/-- The cell of a rune. -/
def runeC (r : Int) : Cl := ⟨r, 0, 0, 0, 1, zeroP⟩
theorem text7_any (r : Int) (w : World) : Calls Tryd.prog 14 #[.int .i32 r] w (LinRet w [runeC r] false) := by
  have hz0 : LinIn (w.alloc (.cells #[.slice none 0 0, .bool false] 35)) w.heap.size none 0 0 false := LinIn.new w none 0 0 false
  have hk0 : Kept [] w (w.alloc (.cells #[.slice none 0 0, .bool false] 35)) := (Kept.refl [] w).alloc _
  generalize hW0 : w.alloc (.cells #[.slice none 0 0, .bool false] 35) = W0 at *
  have hs0 : Hid (W0.heap.size = w.heap.size + 1) := hide (by rw [← hW0]; simp)
  replace hW0 := hide hW0
  have hk1 : Kept [] W0 (W0.alloc (.cells #[.int .i32 r, .int .i32 0, .int .i32 0, .int .i32 0, .int .i64 1, .int .i64 0, .int .u8 0, .int .u8 0, .int .u8 0, .int .u8 0, .int .i64 0, .int .u8 0, .int .u8 0, .int .u8 0, .int .u8 0, .int .u8 0] 71)) := (Kept.refl [] W0).alloc _
  have hcb : CelBlk1 (W0.alloc (.cells #[.int .i32 r, .int .i32 0, .int .i32 0, .int .i32 0, .int .i64 1, .int .i64 0, .int .u8 0, .int .u8 0, .int .u8 0, .int .u8 0, .int .i64 0, .int .u8 0, .int .u8 0, .int .u8 0, .int .u8 0, .int .u8 0] 71)) W0.heap.size (runeC r) := heap_alloc_new W0 _
  go_enter Tryd.func14, Tryd.ntmps14
  go_upto_region 1 with fail
  rw [hW0.out]
  go_wp2_with (refine wpList_store_lin rfl rfl rfl w.heap.size rfl (hz0.kept hk1 (by simp)) (some ⟨W0.heap.size, 0, none⟩) 1 1 false rfl ?_; intro w7 hb7 hk7)
  have hs0 := hs0.out
  refine bodyPost_ret (results_lin rfl rfl hb7) rfl ?_
  have ho : Own (W0.alloc (.cells #[.int .i32 r, .int .i32 0, .int .i32 0, .int .i32 0, .int .i64 1, .int .i64 0, .int .u8 0, .int .u8 0, .int .u8 0, .int .u8 0, .int .i64 0, .int .u8 0, .int .u8 0, .int .u8 0, .int .u8 0, .int .u8 0] 71)) w.heap.size 71 (some ⟨W0.heap.size, 0, none⟩) 1 1 16 (cellsV [runeC r]) := ⟨rfl, .inr ⟨W0.heap.size, 1, _, rfl, hk0.size, hcb, Nat.le_refl _, by decide, rfl, rfl⟩⟩
  have ho7 := ho.kept hk7 (fun y hy hm => by simp [blk] at hy hm; omega)
  exact ⟨_, 1, 1, rfl, ho7, ho7.caps.1, ho7.caps.2, (hk0.trans hk1 (by simp)).trans hk7 (by simp)⟩
theorem valid_le {l : List Cl} (h : validL l = true) : l.length ≤ 1000 := by unfold validL at h; simp at h; exact h.1
theorem get_len {s : Sh} (h : shOk s) (i : Int) : (getS s i).1.l.length ≤ 1000 := by
  unfold getS
  split
  · simp [noLn]
  · rename_i hi
    have : i.toNat < s.ls.length := by omega
    simp only [List.getD_eq_getElem?_getD, List.getElem?_eq_getElem this, Option.getD_some]
    exact valid_le (h.2 _ (List.getElem_mem this))
theorem pop_len {s : Sh} (h : shOk s) : (popS s).2.1.l.length ≤ 1000 := by
  unfold popS
  split
  · simp [noLn]
  · rename_i hn
    have h0 : 0 < s.ls.length := List.length_pos_iff.2 hn
    show (s.ls.getLastD noLn).l.length ≤ 1000
    rw [List.getLastD_eq_getLast?, List.getLast?_eq_getElem?, List.getElem?_eq_getElem (by omega), Option.getD_some]
    exact valid_le (h.2 _ (List.getElem_mem _))

set_option maxHeartbeats 4000000 in
theorem gets_ask {PG : World → Nat → Sh → List Nat → Prop} (PI : PageIs PG) (b : Nat) (s : Sh) (B : List Nat) (i : Int) (a2 : Option Addr) (n2 c2 : Nat) (s2 : Bool) (m : List Cl) (no : Int) (v : Bool) (w : World) (hp : PG w b s B) (hr2 : Rd w a2 n2 16 (cellsV m)) (hv : (decide ((getS s i).1.s = s2 ∧ (getS s i).1.l = m) && decide ((getS s i).2 = no)) = v) :
    Calls Tryd.prog 20 #[.pointer (some ⟨b, 0, none⟩), .int .i64 i, .agg #[.slice a2 n2 c2, .bool s2], .int .i64 no] w fun e w' => e = .returned (.bool v) ∧ Kept [] w w' := by
  obtain ⟨W0, hW0⟩ : ∃ z : World, z = w.alloc (.cells #[.slice a2 n2 c2, .bool s2] 35) := ⟨_, rfl⟩
  have hk0 : Kept [] w W0 := by rw [hW0]; exact (Kept.refl [] w).alloc _
  have hbw : Hid (LinIn W0 w.heap.size a2 n2 c2 s2) := hide (by rw [hW0]; exact LinIn.new w a2 n2 c2 s2)
  have hC := hide (PI.get W0 b s B i (PI.kept w W0 b s B [] hp hk0 (by simp)))
  have hr2' := hide (hr2.kept hk0 (by simp))
  have hlen := hide (get_len (PI.ok w b s B hp).1 i)
  have hlt := hide (PI.lt w b s B hp)
  have hv := hide hv
  have hmain := hide hp
  clear hr2 hp
  generalize getS s i = E at *
  obtain ⟨l', x⟩ := E
  have hx : ∃ q : Bool, ((x == no) = q) := ⟨_, rfl⟩
  obtain ⟨q, hq⟩ := hx
  have hqd : decide (x = no) = q := by rw [← hq]; rfl
  rw [hqd] at hv
  clear hqd
  go_enter Tryd.func20, Tryd.ntmps20
  go_upto_region 1 with fail
  rw [← hW0]
  clear hW0
  go_wp2_with fail
  refine hC.out.mono ?_
  rintro e w1 ⟨a', n', c', rfl, ⟨ho1, h1, h2⟩, hk1⟩
  have hrl := hide ho1.rd
  have hkB := hk1
  have hbN : w.heap.size ∉ ([] : List Nat) := by simp
  have hr2N : ∀ g ∈ blk a2, g ∉ ([] : List Nat) := by simp
  clear ho1
  go_wp2_with (refine wpList_store_lin rfl rfl rfl w1.heap.size rfl (LinIn.new w1 none 0 0 false) a' n' c' l'.s rfl ?_; intro w2 hb2 hj2; have hh2 : Kept [] w1 w2 := ((Kept.refl [] w1).alloc (.cells #[.slice none 0 0, .bool false] 35)).trans hj2 (by simp); obtain ⟨p0, p1⟩ := hb2.at; obtain ⟨q0, q1⟩ := (hbw.out.kept (hkB.trans hh2 (by simp)) hbN).at)
  refine (rSame6_any a' n' c' l'.s l'.l a2 n2 c2 s2 m w2 (hrl.out.kept hh2 (by simp)) (hr2'.out.kept (hkB.trans hh2 (by simp)) hr2N) (by have h1 := hrl.out.clen; have h2 := hlen.out; omega)).mono ?_
  rintro e w3 ⟨rfl, hj3⟩
  generalize decide (l'.s = s2 ∧ l'.l = m) = d at *
  cases d <;> cases q <;> (go_wp2_with fail; go_ret; exact ⟨ret_bool (by rw [← hv.out]; rfl), (hk0.trans (hk1.trans hh2 (by simp)) (by simp)).trans hj3 (by simp)⟩)

set_option maxHeartbeats 4000000 in
theorem pops_ask {PG : World → Nat → Sh → List Nat → Prop} (PI : PageIs PG) (b : Nat) (s : Sh) (B : List Nat) (a2 : Option Addr) (n2 c2 : Nat) (s2 : Bool) (m : List Cl) (no : Int) (v : Bool) (w : World) (hp : PG w b s B) (hr2 : Rd w a2 n2 16 (cellsV m)) (hd2 : ∀ y ∈ blk a2, y ∉ B) (hv : (decide ((popS s).2.1.s = s2 ∧ (popS s).2.1.l = m) && decide ((popS s).2.2 = no)) = v) :
    Calls Tryd.prog 17 #[.pointer (some ⟨b, 0, none⟩), .agg #[.slice a2 n2 c2, .bool s2], .int .i64 no] w fun e w' => e = .returned (.bool v) ∧ ∃ B', PG w' b (popS s).1 B' ∧ Kept B w w' ∧ ∀ y ∈ B', y ∈ B ∨ w.heap.size ≤ y := by
  obtain ⟨W0, hW0⟩ : ∃ z : World, z = w.alloc (.cells #[.slice a2 n2 c2, .bool s2] 35) := ⟨_, rfl⟩
  have hk0 : Kept [] w W0 := by rw [hW0]; exact (Kept.refl [] w).alloc _
  have hbw : Hid (LinIn W0 w.heap.size a2 n2 c2 s2) := hide (by rw [hW0]; exact LinIn.new w a2 n2 c2 s2)
  have hC := hide (PI.pop W0 b s B (PI.kept w W0 b s B [] hp hk0 (by simp)))
  have hr2' := hide (hr2.kept hk0 (by simp))
  have hlen := hide (pop_len (PI.ok w b s B hp).1)
  have hlt := hide (PI.lt w b s B hp)
  have hv := hide hv
  have hmain := hide hp
  clear hr2 hp
  generalize popS s = E at *
  obtain ⟨s', l', x⟩ := E
  have hx : ∃ q : Bool, ((x == no) = q) := ⟨_, rfl⟩
  obtain ⟨q, hq⟩ := hx
  have hqd : decide (x = no) = q := by rw [← hq]; rfl
  rw [hqd] at hv
  clear hqd
  go_enter Tryd.func17, Tryd.ntmps17
  go_upto_region 1 with fail
  rw [← hW0]
  clear hW0
  go_wp2_with fail
  refine hC.out.mono ?_
  rintro e w1 ⟨B', a', n', c', rfl, hat1, hown1, hdis, hpg, hk1, hBB⟩
  have hs00 := hk0.size
  have hrl := hide hat1.rd
  have hkB := hk1
  have hbN : w.heap.size ∉ B := fun hm => by have := hlt.out _ hm; omega
  have hr2N := hd2
  clear hat1 hown1 hdis
  go_wp2_with (refine wpList_store_lin rfl rfl rfl w1.heap.size rfl (LinIn.new w1 none 0 0 false) a' n' c' l'.s rfl ?_; intro w2 hb2 hj2; have hh2 : Kept [] w1 w2 := ((Kept.refl [] w1).alloc (.cells #[.slice none 0 0, .bool false] 35)).trans hj2 (by simp); obtain ⟨p0, p1⟩ := hb2.at; obtain ⟨q0, q1⟩ := (hbw.out.kept (hkB.trans hh2 (by simp)) hbN).at)
  refine (rSame6_any a' n' c' l'.s l'.l a2 n2 c2 s2 m w2 (hrl.out.kept hh2 (by simp)) (hr2'.out.kept (hkB.trans hh2 (by simp)) hr2N) (by have h1 := hrl.out.clen; have h2 := hlen.out; omega)).mono ?_
  rintro e w3 ⟨rfl, hj3⟩
  generalize decide (l'.s = s2 ∧ l'.l = m) = d at *
  cases d <;> cases q <;> (go_wp2_with fail; go_ret; exact ⟨ret_bool (by rw [← hv.out]; rfl), B', PI.kept w1 w3 b s' B' [] hpg (hh2.trans hj3 (by simp)) (by simp), ((hk0.mono (by simp)).trans (hk1.trans hh2 (by simp)) (fun y hy => .inl hy)).trans hj3 (by simp), fun y hy => (hBB y hy).imp id (fun h => by omega)⟩)

set_option maxHeartbeats 1000000 in
theorem none7_ask {PG : World → Nat → Sh → List Nat → Prop} (PI : PageIs PG) (k : Int) (h : ¬ (1 ≤ k ∧ k ≤ 1024)) (w : World) :
    Calls Tryd.prog 7 #[.int .i64 k] w fun e w' => e = .returned (.bool true) ∧ Kept [] w w' := by
  have hC := hide (PI.new k w)
  go_enter Tryd.func7, Tryd.ntmps7
  go_wp2_with fail
  refine hC.out.mono ?_
  rintro e w1 ⟨hk1, _, hno⟩
  obtain rfl := hno h
  go_wp2_with fail
  go_ret
  exact ⟨rfl, hk1⟩
end Go.Proofs.YtpeedjknjjbabaaDoor
namespace Go.Proofs.YtpeedjknjjbabaaDoor
open Go.RowKit
set_option linter.unusedVariables false
set_option maxRecDepth 100000

set_option maxHeartbeats 20000000 in
theorem looks_ask {PG : World → Nat → Sh → List Nat → Prop} (PI : PageIs PG) (b : Nat) (p g : Nat) (ls : List Ln) (B : List Nat) (a : Option Addr) (n c : Nat) (vs : List LnA) (w : World) (hp : PG w b ⟨p, g, ls⟩ B) (hr : LnsR w a n vs ls) :
    Calls Tryd.prog 12 #[.pointer (some ⟨b, 0, none⟩), .agg #[.int .i64 (p : Int), .int .i64 (g : Int), .slice a n c]] w fun e w' => e = .returned (.bool true) ∧ Kept [] w w' := by
  obtain ⟨W0, hW0⟩ : ∃ z : World, z = w.alloc (.cells #[.int .i64 (p : Int), .int .i64 (g : Int), .slice a n c] 32) := ⟨_, rfl⟩
  have hk0 : Kept [] w W0 := by rw [hW0]; exact (Kept.refl [] w).alloc _
  have hb0 : Hid (ShIn W0 w.heap.size p g a n c) := hide (by rw [hW0]; exact ShIn.new w p g a n c)
  obtain ⟨hok, hp1, hp2⟩ := PI.ok w b _ B hp
  have hl := hr.len
  have hle : g + n ≤ p := by have := hok.1; simp only at this; omega
  have hp2' : p ≤ 1024 := hp2
  have hP := hide (fun w1 (hk : Kept [] W0 w1) => PI.kept w w1 b _ B [] hp (hk0.trans hk (by simp)) (by simp))
  have hR := hide (fun w1 (hk : Kept [] W0 w1) => hr.kept (hk0.trans hk (by simp)) (by simp) (by simp))
  have hLen := fun w1 hk => PI.len w1 b _ B (hP.out w1 hk)
  have hCap := fun w1 hk => PI.cap w1 b _ B (hP.out w1 hk)
  have hGone := fun w1 hk => PI.gone w1 b _ B (hP.out w1 hk)
  have hRoom := fun w1 hk => PI.room w1 b _ B (hP.out w1 hk)
  have hrr : Sh.room ⟨p, g, ls⟩ = p - g - n := by unfold Sh.room; rw [hl]
  simp only [hl, hrr] at hLen hCap hGone hRoom
  have hRo := hide (fun w1 => rRoom_any p g a n c w1 hle (by omega))
  replace hLen := hide hLen
  replace hCap := hide hCap
  replace hGone := hide hGone
  replace hRoom := hide hRoom
  have hok := hide hok
  have hl := hide hl
  have hvl := hide hr.vlen
  clear hp hr
  generalize p - g - n = m at *
  have e1 : ((n : Int) != (n : Int)) = false := by simp
  have e2 : ((p : Int) != (p : Int)) = false := by simp
  have e3 : ((g : Int) != (g : Int)) = false := by simp
  have e4 : ((m : Int) != (m : Int)) = false := by simp
  have hn : n ≤ 1024 := by omega
  have hF : ∀ {w' : World}, Kept [] W0 w' → w'.cell? ⟨w.heap.size, 0, none⟩ = some (.int .i64 p) ∧ w'.cell? ⟨w.heap.size, 1, none⟩ = some (.int .i64 g) ∧ w'.cell? ⟨w.heap.size, 2, none⟩ = some (.slice a n c) := fun hk => (hb0.out.kept hk (by simp)).at
  go_enter Tryd.func12, Tryd.ntmps12
  go_upto_region 1 with fail
  rw [← hW0]
  clear hW0
  refine wp_region_held_drew (S := (fun w' => w'.cell? ⟨w.heap.size, 0, none⟩ = some (.int .i64 p) ∧ w'.cell? ⟨w.heap.size, 1, none⟩ = some (.int .i64 g) ∧ w'.cell? ⟨w.heap.size, 2, none⟩ = some (.slice a n c))) (by kernel_rfl) ?_ (fun hHeld => ?_)
  · (try dsimp only); (first | exact hF k5 | exact hF k4 | exact hF k3 | exact hF k2 | exact hF k1 | exact hF (Kept.refl [] W0).drew)
  refine wpAnyH_take (i := 0) (v := ?_) rfl (by kernel_rfl) (by kernel_rfl) (by kernel_rfl) (fun _ _ _ h => h) (Or.inl ⟨by rfl, ?_⟩) (by assumption) ?_
  rotate_left
  · (intro wq hSw; (try dsimp only at hSw); go_simp; try with_reducible rfl)
  try simp only [Act.put, List.getElem_toArray, List.getElem_cons_zero, List.setIfInBounds_toArray, List.set_cons_zero, List.set_cons_succ]
  refine wpAnyH_take (i := 2) (v := ?_) rfl (by kernel_rfl) (by kernel_rfl) (by kernel_rfl) (fun _ _ _ h => h) (Or.inl ⟨by rfl, ?_⟩) (by assumption) ?_
  rotate_left
  · (intro wq hSw; (try dsimp only at hSw); go_simp; try with_reducible rfl)
  try simp only [Act.put, List.getElem_toArray, List.getElem_cons_succ, List.getElem_cons_zero, List.setIfInBounds_toArray, List.set_cons_zero, List.set_cons_succ]
  refine wpAnyH_take (i := 3) (v := ?_) rfl (by kernel_rfl) (by kernel_rfl) (by kernel_rfl) (fun _ _ _ h => h) (Or.inl ⟨by rfl, ?_⟩) (by assumption) ?_
  rotate_left
  · (intro wq hSw; (try dsimp only at hSw); go_simp; try with_reducible rfl)
  try simp only [Act.put, List.getElem_toArray, List.getElem_cons_succ, List.getElem_cons_zero, List.setIfInBounds_toArray, List.set_cons_zero, List.set_cons_succ]
  refine wpAnyH_take (i := 4) (v := ?_) rfl (by kernel_rfl) (by kernel_rfl) (by kernel_rfl) (fun _ _ _ h => h) (Or.inl ⟨by rfl, ?_⟩) (by assumption) ?_
  rotate_left
  · (intro wq hSw; (try dsimp only at hSw); go_simp; try with_reducible rfl)
  try simp only [Act.put, List.getElem_toArray, List.getElem_cons_succ, List.getElem_cons_zero, List.setIfInBounds_toArray, List.set_cons_zero, List.set_cons_succ]
  refine wpAnyH_ready (rs := [1]) (by kernel_rfl) (by simp) ?_
  refine AllReadyH.cons rfl (fun K hK => ?_) AllReadyH.nil
  go_simp
  refine (hLen.out _ (Kept.refl [] W0).drew).mono ?_; rintro e w1 ⟨rfl, i1⟩; have k1 : Kept [] W0 w1 := (Kept.refl [] W0).drew.trans i1 (by simp)
  try go_wp2_with fail
  refine hK.out _ _ ?_ (fun hHeld => ?_)
  · (try dsimp only); (first | exact hF k5 | exact hF k4 | exact hF k3 | exact hF k2 | exact hF k1 | exact hF (Kept.refl [] W0).drew)
  clear hK K
  try simp only [Act.put, List.getElem_toArray, List.getElem_cons_succ, List.getElem_cons_zero, List.setIfInBounds_toArray, List.set_cons_zero, List.set_cons_succ]
  refine wpAnyH_take (i := 5) (v := ?_) rfl (by kernel_rfl) (by kernel_rfl) (by kernel_rfl) (fun _ _ _ h => h) (Or.inl ⟨by rfl, ?_⟩) (by assumption) ?_
  rotate_left
  · (intro wq hSw; (try dsimp only at hSw); go_simp; try with_reducible rfl)
  try simp only [Act.put, List.getElem_toArray, List.getElem_cons_succ, List.getElem_cons_zero, List.setIfInBounds_toArray, List.set_cons_zero, List.set_cons_succ]
  refine wpAnyH_take (i := 6) (v := ?_) rfl (by kernel_rfl) (by kernel_rfl) (by kernel_rfl) (fun _ _ _ h => h) (Or.inl ⟨by rfl, ?_⟩) (by assumption) ?_
  rotate_left
  · (intro wq hSw; (try dsimp only at hSw); go_simp; try with_reducible rfl)
  try simp only [Act.put, List.getElem_toArray, List.getElem_cons_succ, List.getElem_cons_zero, List.setIfInBounds_toArray, List.set_cons_zero, List.set_cons_succ]
  refine wpAnyH_take (i := 7) (v := ?_) rfl (by kernel_rfl) (by kernel_rfl) (by kernel_rfl) (fun _ _ _ h => h) (Or.inl ⟨by rfl, ?_⟩) (by assumption) ?_
  rotate_left
  · (intro wq hSw; (try dsimp only at hSw); go_simp; try with_reducible rfl)
  try simp only [Act.put, List.getElem_toArray, List.getElem_cons_succ, List.getElem_cons_zero, List.setIfInBounds_toArray, List.set_cons_zero, List.set_cons_succ]
  refine wpAnyH_take (i := 9) (v := ?_) rfl (by kernel_rfl) (by kernel_rfl) (by kernel_rfl) (fun _ _ _ h => h) (Or.inl ⟨by rfl, ?_⟩) (by assumption) ?_
  rotate_left
  · (intro wq hSw; (try dsimp only at hSw); go_simp; try with_reducible rfl)
  try simp only [Act.put, List.getElem_toArray, List.getElem_cons_succ, List.getElem_cons_zero, List.setIfInBounds_toArray, List.set_cons_zero, List.set_cons_succ]
  refine wpAnyH_take (i := 10) (v := ?_) rfl (by kernel_rfl) (by kernel_rfl) (by kernel_rfl) (fun _ _ _ h => h) (Or.inl ⟨by rfl, ?_⟩) (by assumption) ?_
  rotate_left
  · (intro wq hSw; (try dsimp only at hSw); go_simp; try with_reducible rfl)
  try simp only [Act.put, List.getElem_toArray, List.getElem_cons_succ, List.getElem_cons_zero, List.setIfInBounds_toArray, List.set_cons_zero, List.set_cons_succ]
  refine wpAnyH_ready (rs := [8]) (by kernel_rfl) (by simp) ?_
  refine AllReadyH.cons rfl (fun K hK => ?_) AllReadyH.nil
  go_simp
  refine (hCap.out w1 k1).mono ?_; rintro e w2 ⟨rfl, i2⟩; have k2 : Kept [] W0 w2 := k1.trans i2 (by simp)
  try go_wp2_with fail
  refine hK.out _ _ ?_ (fun hHeld => ?_)
  · (try dsimp only); (first | exact hF k5 | exact hF k4 | exact hF k3 | exact hF k2 | exact hF k1 | exact hF (Kept.refl [] W0).drew)
  clear hK K
  try simp only [Act.put, List.getElem_toArray, List.getElem_cons_succ, List.getElem_cons_zero, List.setIfInBounds_toArray, List.set_cons_zero, List.set_cons_succ]
  refine wpAnyH_take (i := 11) (v := ?_) rfl (by kernel_rfl) (by kernel_rfl) (by kernel_rfl) (fun _ _ _ h => h) (Or.inl ⟨by rfl, ?_⟩) (by assumption) ?_
  rotate_left
  · (intro wq hSw; (try dsimp only at hSw); go_simp; try with_reducible rfl)
  try simp only [Act.put, List.getElem_toArray, List.getElem_cons_succ, List.getElem_cons_zero, List.setIfInBounds_toArray, List.set_cons_zero, List.set_cons_succ]
  refine wpAnyH_take (i := 12) (v := ?_) rfl (by kernel_rfl) (by kernel_rfl) (by kernel_rfl) (fun _ _ _ h => h) (Or.inl ⟨by rfl, ?_⟩) (by assumption) ?_
  rotate_left
  · (intro wq hSw; (try dsimp only at hSw); go_simp; try with_reducible rfl)
  try simp only [Act.put, List.getElem_toArray, List.getElem_cons_succ, List.getElem_cons_zero, List.setIfInBounds_toArray, List.set_cons_zero, List.set_cons_succ]
  refine wpAnyH_take (i := 13) (v := ?_) rfl (by kernel_rfl) (by kernel_rfl) (by kernel_rfl) (fun _ _ _ h => h) (Or.inl ⟨by rfl, ?_⟩) (by assumption) ?_
  rotate_left
  · (intro wq hSw; (try dsimp only at hSw); go_simp; try with_reducible rfl)
  try simp only [Act.put, List.getElem_toArray, List.getElem_cons_succ, List.getElem_cons_zero, List.setIfInBounds_toArray, List.set_cons_zero, List.set_cons_succ]
  refine wpAnyH_take (i := 14) (v := ?_) rfl (by kernel_rfl) (by kernel_rfl) (by kernel_rfl) (fun _ _ _ h => h) (Or.inl ⟨by rfl, ?_⟩) (by assumption) ?_
  rotate_left
  · (intro wq hSw; (try dsimp only at hSw); go_simp; try with_reducible rfl)
  try simp only [Act.put, List.getElem_toArray, List.getElem_cons_succ, List.getElem_cons_zero, List.setIfInBounds_toArray, List.set_cons_zero, List.set_cons_succ]
  refine wpAnyH_take (i := 16) (v := ?_) rfl (by kernel_rfl) (by kernel_rfl) (by kernel_rfl) (fun _ _ _ h => h) (Or.inl ⟨by rfl, ?_⟩) (by assumption) ?_
  rotate_left
  · (intro wq hSw; (try dsimp only at hSw); go_simp; try with_reducible rfl)
  try simp only [Act.put, List.getElem_toArray, List.getElem_cons_succ, List.getElem_cons_zero, List.setIfInBounds_toArray, List.set_cons_zero, List.set_cons_succ]
  refine wpAnyH_take (i := 17) (v := ?_) rfl (by kernel_rfl) (by kernel_rfl) (by kernel_rfl) (fun _ _ _ h => h) (Or.inl ⟨by rfl, ?_⟩) (by assumption) ?_
  rotate_left
  · (intro wq hSw; (try dsimp only at hSw); go_simp; try with_reducible rfl)
  try simp only [Act.put, List.getElem_toArray, List.getElem_cons_succ, List.getElem_cons_zero, List.setIfInBounds_toArray, List.set_cons_zero, List.set_cons_succ]
  refine wpAnyH_ready (rs := [15]) (by kernel_rfl) (by simp) ?_
  refine AllReadyH.cons rfl (fun K hK => ?_) AllReadyH.nil
  go_simp
  refine (hGone.out w2 k2).mono ?_; rintro e w3 ⟨rfl, i3⟩; have k3 : Kept [] W0 w3 := k2.trans i3 (by simp)
  try go_wp2_with fail
  refine hK.out _ _ ?_ (fun hHeld => ?_)
  · (try dsimp only); (first | exact hF k5 | exact hF k4 | exact hF k3 | exact hF k2 | exact hF k1 | exact hF (Kept.refl [] W0).drew)
  clear hK K
  try simp only [Act.put, List.getElem_toArray, List.getElem_cons_succ, List.getElem_cons_zero, List.setIfInBounds_toArray, List.set_cons_zero, List.set_cons_succ]
  refine wpAnyH_take (i := 18) (v := ?_) rfl (by kernel_rfl) (by kernel_rfl) (by kernel_rfl) (fun _ _ _ h => h) (Or.inl ⟨by rfl, ?_⟩) (by assumption) ?_
  rotate_left
  · (intro wq hSw; (try dsimp only at hSw); go_simp; try with_reducible rfl)
  try simp only [Act.put, List.getElem_toArray, List.getElem_cons_succ, List.getElem_cons_zero, List.setIfInBounds_toArray, List.set_cons_zero, List.set_cons_succ]
  refine wpAnyH_take (i := 19) (v := ?_) rfl (by kernel_rfl) (by kernel_rfl) (by kernel_rfl) (fun _ _ _ h => h) (Or.inl ⟨by rfl, ?_⟩) (by assumption) ?_
  rotate_left
  · (intro wq hSw; (try dsimp only at hSw); go_simp; try with_reducible rfl)
  try simp only [Act.put, List.getElem_toArray, List.getElem_cons_succ, List.getElem_cons_zero, List.setIfInBounds_toArray, List.set_cons_zero, List.set_cons_succ]
  refine wpAnyH_take (i := 20) (v := ?_) rfl (by kernel_rfl) (by kernel_rfl) (by kernel_rfl) (fun _ _ _ h => h) (Or.inl ⟨by rfl, ?_⟩) (by assumption) ?_
  rotate_left
  · (intro wq hSw; (try dsimp only at hSw); go_simp; try with_reducible rfl)
  try simp only [Act.put, List.getElem_toArray, List.getElem_cons_succ, List.getElem_cons_zero, List.setIfInBounds_toArray, List.set_cons_zero, List.set_cons_succ]
  refine wpAnyH_take (i := 21) (v := ?_) rfl (by kernel_rfl) (by kernel_rfl) (by kernel_rfl) (fun _ _ _ h => h) (Or.inl ⟨by rfl, ?_⟩) (by assumption) ?_
  rotate_left
  · (intro wq hSw; (try dsimp only at hSw); go_simp; try with_reducible rfl)
  try simp only [Act.put, List.getElem_toArray, List.getElem_cons_succ, List.getElem_cons_zero, List.setIfInBounds_toArray, List.set_cons_zero, List.set_cons_succ]
  refine wpAnyH_take (i := 23) (v := ?_) rfl (by kernel_rfl) (by kernel_rfl) (by kernel_rfl) (fun _ _ _ h => h) (Or.inl ⟨by rfl, ?_⟩) (by assumption) ?_
  rotate_left
  · (intro wq hSw; (try dsimp only at hSw); go_simp; try with_reducible rfl)
  try simp only [Act.put, List.getElem_toArray, List.getElem_cons_succ, List.getElem_cons_zero, List.setIfInBounds_toArray, List.set_cons_zero, List.set_cons_succ]
  refine wpAnyH_ready (rs := [22]) (by kernel_rfl) (by simp) ?_
  refine AllReadyH.cons rfl (fun K hK => ?_) AllReadyH.nil
  go_simp
  refine (hRoom.out w3 k3).mono ?_; rintro e w4 ⟨rfl, i4⟩; have k4 : Kept [] W0 w4 := k3.trans i4 (by simp)
  try go_wp2_with fail
  refine hK.out _ _ ?_ (fun hHeld => ?_)
  · (try dsimp only); (first | exact hF k5 | exact hF k4 | exact hF k3 | exact hF k2 | exact hF k1 | exact hF (Kept.refl [] W0).drew)
  clear hK K
  try simp only [Act.put, List.getElem_toArray, List.getElem_cons_succ, List.getElem_cons_zero, List.setIfInBounds_toArray, List.set_cons_zero, List.set_cons_succ]
  refine wpAnyH_ready (rs := [24]) (by kernel_rfl) (by simp) ?_
  refine AllReadyH.cons rfl (fun K hK => ?_) AllReadyH.nil
  go_simp
  refine (hRo.out w4).mono ?_; rintro e w5 ⟨rfl, i5⟩; have k5 : Kept [] W0 w5 := k4.trans i5 (by simp)
  try go_wp2_with fail
  refine hK.out _ _ ?_ (fun hHeld => ?_)
  · (try dsimp only); (first | exact hF k5 | exact hF k4 | exact hF k3 | exact hF k2 | exact hF k1 | exact hF (Kept.refl [] W0).drew)
  clear hK K
  try simp only [Act.put, List.getElem_toArray, List.getElem_cons_succ, List.getElem_cons_zero, List.setIfInBounds_toArray, List.set_cons_zero, List.set_cons_succ]
  refine wpAnyH_take (i := 25) (v := ?_) rfl (by kernel_rfl) (by kernel_rfl) (by kernel_rfl) (fun _ _ _ h => h) (Or.inl ⟨by rfl, ?_⟩) (by assumption) ?_
  rotate_left
  · (intro wq hSw; (try dsimp only at hSw); go_simp; try with_reducible rfl)
  try simp only [Act.put, List.getElem_toArray, List.getElem_cons_succ, List.getElem_cons_zero, List.setIfInBounds_toArray, List.set_cons_zero, List.set_cons_succ]
  refine wpAnyH_take (i := 26) (v := ?_) rfl (by kernel_rfl) (by kernel_rfl) (by kernel_rfl) (fun _ _ _ h => h) (Or.inl ⟨by rfl, ?_⟩) (by assumption) ?_
  rotate_left
  · (intro wq hSw; (try dsimp only at hSw); go_simp; try with_reducible rfl)
  try simp only [Act.put, List.getElem_toArray, List.getElem_cons_succ, List.getElem_cons_zero, List.setIfInBounds_toArray, List.set_cons_zero, List.set_cons_succ]
  refine wpAnyH_done (by kernel_rfl) ?_ _
  obtain ⟨q0, q1, q2⟩ := hF k5
  go_wp2_with fail
  clear q0 q1 q2
  have hGet := hide (fun (i : Int) w1 hk => PI.get w1 b _ B i (hP.out w1 hk))
  go_loopg [5, 6, 7, 37, 38, 39, 40, 41, 42, 43, 44, 45, 46, 47, 48, 49, 50, 51, 52, 53, 54, 55, 56, 57, 58, 59, 60, 61, 62, 63, 64, 65, 66, 67, 68, 69, 70, 71, 72, 73, 74, 75, 76, 77, 78] (n + 2) (fun kx s5 s6 s7 s37 s38 s39 s40 s41 s42 s43 s44 s45 s46 s47 s48 s49 s50 s51 s52 s53 s54 s55 s56 s57 s58 s59 s60 s61 s62 s63 s64 s65 s66 s67 s68 s69 s70 s71 s72 s73 s74 s75 s76 s77 s78 wr => ∃ i : Int, s5 = .int .i64 i ∧ -1 ≤ i ∧ i ≤ (n : Int) + 1 ∧ ((n : Int) + 1 - i).toNat ≤ kx ∧ Kept [] W0 wr)
  case atStart => exact ⟨-1, rfl, by omega, by omega, by omega, k5⟩
  case round =>
    obtain ⟨i, rfl, hi1, hi2, hg, hkr⟩ := hrel
    obtain ⟨q0, q1, q2⟩ := hF hkr
    have hwi : wrap64 (i + 1) = i + 1 := by unfold wrap64; omega
    by_cases hin : i ≤ (n : Int)
    · by_cases hA : i < 0 ∨ i = (n : Int)
      · have hgets := hide (gets_ask PI b _ B i none 0 0 false [] 3 true wr (hP.out wr hkr) (Rd.nil _ _ _) (by
          have : getS ⟨p, g, ls⟩ i = (noLn, 3) := by unfold getS; rw [if_pos (by simp only [hl.out]; omega)]
          rw [this]
          simp [noLn]))
        rcases hA with hA | hA
        · go_wp2_with fail
          refine hgets.out.mono ?_
          rintro e w6 ⟨rfl, hj6⟩
          go_wp2_with fail
          go_roundg ((n : Int) + 1 - (i + 1)).toNat
          case measure => omega
          case rel => exact ⟨i + 1, rfl, by omega, by omega, Nat.le_refl _, hkr.trans hj6 (by simp)⟩
        · subst hA
          have hge : ¬ ((n : Int) < 0) := by omega
          go_wp2_with fail
          refine hgets.out.mono ?_
          rintro e w6 ⟨rfl, hj6⟩
          go_wp2_with fail
          go_roundg 0
          case measure => omega
          case rel => exact ⟨(n : Int) + 1, rfl, by omega, by omega, by omega, hkr.trans hj6 (by simp)⟩
      · obtain ⟨d, rfl⟩ : ∃ d : Nat, i = d := ⟨i.toNat, by omega⟩
        have hdn : d < n := by omega
        have hneg : ¬ ((d : Int) < 0) := by omega
        have hdi : (d : Int) < (n : Int) := by omega
        have hne : ((d : Int) == (n : Int)) = false := by simp; omega
        have hdl : d < ls.length := by rw [hl.out]; exact hdn
        have hdv : d < vs.length := by rw [hvl.out]; exact hdn
        obtain ⟨b2, o2, rfl⟩ := (hR.out W0 (Kept.refl [] W0)).rd.rowAddr rowLn (by omega)
        have hG1 := hGet.out (d : Int) wr hkr
        have hlen := hide (get_len hok.out (d : Int))
        have hgd : getS ⟨p, g, ls⟩ (d : Int) = (ls[d], 0) := by
          unfold getS
          rw [if_neg (by simp only [hl.out]; omega)]
          simp [hdl]
        rw [hgd] at hG1 hlen
        have hrow := hide (fun w1 (hk : Kept [] W0 w1) => (hR.out w1 hk).rd.row rowLn d hdv)
        have hat := hide (fun w1 (hk : Kept [] W0 w1) => (hR.out w1 hk).at'.get d hdv hdl)
        generalize ls[d] = y at *
        generalize vs[d] = v at *
        go_wp2_with fail
        refine hG1.mono ?_
        rintro e w6 ⟨a', n', c', rfl, ⟨ho6, h6a, h6b⟩, hj6⟩
        have hk6 := hkr.trans hj6 (by simp)
        have hn6 : n' ≤ 1000 := by have h1 : y.l.length = n' := ho6.rd.clen; have h2 := hlen.out; omega
        have ho6 := hide ho6
        clear hG1 q0 q1 q2
        go_upto_region 10 with (refine wpList_store_lin rfl rfl rfl w6.heap.size rfl (LinIn.new w6 none 0 0 false) a' n' c' y.s rfl ?_; intro w7 hb7 hj7)
        have hh7 : Kept [] w6 w7 := ((Kept.refl [] w6).alloc (.cells #[.slice none 0 0, .bool false] 35)).trans hj7 (by simp)
        have hk7 := hk6.trans hh7 (by simp)
        have hb7 := hide hb7
        have hQ : ∀ {w' : World}, Kept [] w7 w' → (w'.cell? ⟨w6.heap.size, 0, none⟩ = some (.slice a' n' c') ∧ w'.cell? ⟨w6.heap.size, 1, none⟩ = some (.bool y.s)) ∧ (w'.cell? ⟨w.heap.size, 0, none⟩ = some (.int .i64 p) ∧ w'.cell? ⟨w.heap.size, 1, none⟩ = some (.int .i64 g) ∧ w'.cell? ⟨w.heap.size, 2, none⟩ = some (.slice (some ⟨b2, o2, none⟩) n c)) ∧ w'.rangeAt b2 (o2 + d * 2) (lnV v) := fun hk => ⟨(hb7.out.kept hk (by simp)).at, hF (hk7.trans hk (by simp)), hrow.out _ (hk7.trans hk (by simp))⟩
        have hSm := hide (fun w1 (hk : Kept [] w7 w1) => rSame6_any a' n' c' y.s y.l v.a v.n v.c v.s y.l w1 (ho6.out.rd.kept (hh7.trans hk (by simp)) (by simp)) (hat.out w1 (hk7.trans hk (by simp))).rd (by omega))
        rw [show decide (y.s = v.s ∧ y.l = y.l) = true by rw [(hat.out W0 (Kept.refl [] W0)).s]; simp] at hSm
        refine wp_region_held_drew (S := (fun w' => (w'.cell? ⟨w6.heap.size, 0, none⟩ = some (.slice a' n' c') ∧ w'.cell? ⟨w6.heap.size, 1, none⟩ = some (.bool y.s)) ∧ (w'.cell? ⟨w.heap.size, 0, none⟩ = some (.int .i64 p) ∧ w'.cell? ⟨w.heap.size, 1, none⟩ = some (.int .i64 g) ∧ w'.cell? ⟨w.heap.size, 2, none⟩ = some (.slice (some ⟨b2, o2, none⟩) n c)) ∧ w'.rangeAt b2 (o2 + d * 2) (lnV v))) (by kernel_rfl) ?_ (fun hHeld => ?_)
        · (try dsimp only); (first | exact hQ k8 | exact hQ (Kept.refl [] w7).drew)
        refine wpAnyH_take (i := 0) (v := ?_) rfl (by kernel_rfl) (by kernel_rfl) (by kernel_rfl) (fun _ _ _ h => h) (Or.inl ⟨by rfl, ?_⟩) (by assumption) ?_
        rotate_left
        · (intro wq hSw; (try dsimp only at hSw); go_simp; try with_reducible rfl)
        try simp only [Act.put, List.getElem_toArray, List.getElem_cons_zero, List.setIfInBounds_toArray, List.set_cons_zero, List.set_cons_succ]
        refine wpAnyH_take (i := 1) (v := ?_) rfl (by kernel_rfl) (by kernel_rfl) (by kernel_rfl) (fun _ _ _ h => h) (Or.inl ⟨by rfl, ?_⟩) (by assumption) ?_
        rotate_left
        · (intro wq hSw; (try dsimp only at hSw); go_simp; try with_reducible rfl)
        try simp only [Act.put, List.getElem_toArray, List.getElem_cons_succ, List.getElem_cons_zero, List.setIfInBounds_toArray, List.set_cons_zero, List.set_cons_succ]
        refine wpAnyH_take (i := 2) (v := ?_) rfl (by kernel_rfl) (by kernel_rfl) (by kernel_rfl) (fun _ _ _ h => h) (Or.inl ⟨by rfl, ?_⟩) (by assumption) ?_
        rotate_left
        · (intro wq hSw; (try dsimp only at hSw); go_simp; try with_reducible rfl)
        try simp only [Act.put, List.getElem_toArray, List.getElem_cons_succ, List.getElem_cons_zero, List.setIfInBounds_toArray, List.set_cons_zero, List.set_cons_succ]
        refine wpAnyH_take (i := 3) (v := ?_) rfl (by kernel_rfl) (by kernel_rfl) (by kernel_rfl) (fun _ _ _ h => h) (Or.inl ⟨by rfl, ?_⟩) (by assumption) ?_
        rotate_left
        · (intro wq hSw; (try dsimp only at hSw); go_simp; try with_reducible rfl)
        try simp only [Act.put, List.getElem_toArray, List.getElem_cons_succ, List.getElem_cons_zero, List.setIfInBounds_toArray, List.set_cons_zero, List.set_cons_succ]
        refine wpAnyH_take (i := 4) (v := ?_) rfl (by kernel_rfl) (by kernel_rfl) (by kernel_rfl) (fun _ _ _ h => h) (Or.inl ⟨by rfl, ?_⟩) (by assumption) ?_
        rotate_left
        · (intro wq hSw; (try dsimp only at hSw); go_simp; try with_reducible rfl)
        try simp only [Act.put, List.getElem_toArray, List.getElem_cons_succ, List.getElem_cons_zero, List.setIfInBounds_toArray, List.set_cons_zero, List.set_cons_succ]
        refine wpAnyH_take (i := 5) (v := (.agg #[.slice v.a v.n v.c, .bool v.s])) rfl (by kernel_rfl) (by kernel_rfl) (by kernel_rfl) (fun _ _ _ h => h) (yieldsIf_load_mid (by rfl) 35 _ rfl b2 (o2 + d * 2) rfl (lnV v) _ (fun _ h => h.2.2) Tryd.underlying35 rfl (by kernel_rfl)) (by assumption) ?_
        try simp only [Act.put, List.getElem_toArray, List.getElem_cons_succ, List.getElem_cons_zero, List.setIfInBounds_toArray, List.set_cons_zero, List.set_cons_succ]
        refine wpAnyH_ready (rs := [6]) (by kernel_rfl) (by simp) ?_
        refine AllReadyH.cons rfl (fun K hK => ?_) AllReadyH.nil
        go_simp
        refine (hSm.out _ (Kept.refl [] w7).drew).mono ?_; rintro e w8 ⟨rfl, hj8⟩; have k8 : Kept [] w7 w8 := (Kept.refl [] w7).drew.trans hj8 (by simp)
        try go_wp2_with fail
        refine hK.out _ _ ?_ (fun hHeld => ?_)
        · (try dsimp only); (first | exact hQ k8 | exact hQ (Kept.refl [] w7).drew)
        clear hK K
        try simp only [Act.put, List.getElem_toArray, List.getElem_cons_succ, List.getElem_cons_zero, List.setIfInBounds_toArray, List.set_cons_zero, List.set_cons_succ]
        refine wpAnyH_take (i := 7) (v := ?_) rfl (by kernel_rfl) (by kernel_rfl) (by kernel_rfl) (fun _ _ _ h => h) (Or.inl ⟨by rfl, ?_⟩) (by assumption) ?_
        rotate_left
        · (intro wq hSw; (try dsimp only at hSw); go_simp; try with_reducible rfl)
        try simp only [Act.put, List.getElem_toArray, List.getElem_cons_succ, List.getElem_cons_zero, List.setIfInBounds_toArray, List.set_cons_zero, List.set_cons_succ]
        refine wpAnyH_take (i := 8) (v := ?_) rfl (by kernel_rfl) (by kernel_rfl) (by kernel_rfl) (fun _ _ _ h => h) (Or.inl ⟨by rfl, ?_⟩) (by assumption) ?_
        rotate_left
        · (intro wq hSw; (try dsimp only at hSw); go_simp; try with_reducible rfl)
        try simp only [Act.put, List.getElem_toArray, List.getElem_cons_succ, List.getElem_cons_zero, List.setIfInBounds_toArray, List.set_cons_zero, List.set_cons_succ]
        refine wpAnyH_take (i := 9) (v := ?_) rfl (by kernel_rfl) (by kernel_rfl) (by kernel_rfl) (fun _ _ _ h => h) (Or.inl ⟨by rfl, ?_⟩) (by assumption) ?_
        rotate_left
        · (intro wq hSw; (try dsimp only at hSw); go_simp; try with_reducible rfl)
        try simp only [Act.put, List.getElem_toArray, List.getElem_cons_succ, List.getElem_cons_zero, List.setIfInBounds_toArray, List.set_cons_zero, List.set_cons_succ]
        refine wpAnyH_take (i := 10) (v := ?_) rfl (by kernel_rfl) (by kernel_rfl) (by kernel_rfl) (fun _ _ _ h => h) (Or.inl ⟨by rfl, ?_⟩) (by assumption) ?_
        rotate_left
        · (intro wq hSw; (try dsimp only at hSw); go_simp; try with_reducible rfl)
        try simp only [Act.put, List.getElem_toArray, List.getElem_cons_succ, List.getElem_cons_zero, List.setIfInBounds_toArray, List.set_cons_zero, List.set_cons_succ]
        refine wpAnyH_take (i := 11) (v := ?_) rfl (by kernel_rfl) (by kernel_rfl) (by kernel_rfl) (fun _ _ _ h => h) (Or.inl ⟨by rfl, ?_⟩) (by assumption) ?_
        rotate_left
        · (intro wq hSw; (try dsimp only at hSw); go_simp; try with_reducible rfl)
        try simp only [Act.put, List.getElem_toArray, List.getElem_cons_succ, List.getElem_cons_zero, List.setIfInBounds_toArray, List.set_cons_zero, List.set_cons_succ]
        refine wpAnyH_done (by kernel_rfl) ?_ _
        obtain ⟨u0, u1⟩ := (hQ k8).1
        go_wp2_with fail
        refine (Stain_any a' n' c' wr.heap.size _ w8 (ho6.out.kept (hh7.trans k8 (by simp)) (by simp)) hn6).mono ?_
        rintro e w9 ⟨rfl, hj9⟩
        have hk9 : Kept [] W0 w9 := (hk7.trans k8 (by simp)).trans hj9 (fun z hz => .inr (by have h1 := (ho6.out.ge z hz).1; have h2 := hkr.size; omega))
        go_wp2_with fail
        go_roundg ((n : Int) + 1 - ((d : Int) + 1)).toNat
        case measure => omega
        case rel => exact ⟨(d : Int) + 1, rfl, by omega, by omega, Nat.le_refl _, hk9⟩
    · obtain ⟨wA, rfl⟩ : ∃ x : World, x = wr := ⟨_, rfl⟩
      have hLn := hide (fun w1 hk => PI.lines w1 b _ B (hP.out w1 hk))
      have hbd := hide (fun (x : Ln) (hx : x ∈ ls) => by have := valid_le (hok.out.2 x hx); omega : ∀ x ∈ ls, x.l.length ≤ 1000000)
      have hdec : decide (ls = ls) = true := by simp
      go_wp2_with fail
      refine (hLn.out wA hkr).mono ?_
      rintro e w6 ⟨a6, n6, c6, vs6, rfl, hL6, h6a, h6b, hge6, hown6, hpw, hap, hj6⟩
      have hk6 := hkr.trans hj6 (by simp)
      obtain rfl : n = n6 := by have h1 := hL6.len; have h2 := hl.out; omega
      have hv6 := hide hL6.vlen
      clear q0 q1 q2
      obtain ⟨q0, q1, q2⟩ := hF hk6
      go_wp2_with fail
      have hAll := rAll6_any a6 n c6 vs6 ls a n c vs ls w6 hL6 (hR.out w6 hk6) hbd.out (by omega)
      refine hAll.mono ?_
      rintro e w7 ⟨rfl, hj7⟩
      have hk7 := hide (hk6.trans hj7 (by simp))
      have hrd7 := hide (hL6.rd.kept hj7 (by simp))
      have hown7 := hide (fun v hv => by obtain ⟨x, h1, h2⟩ := hown6 v hv; exact ⟨x, h1.kept hj7 (by simp), h2⟩ : ∀ v ∈ vs6, ∃ x, Own w7 wA.heap.size 71 v.a v.n v.c 16 (cellsV x) ∧ x.length ≤ 1000)
      have hpw := hide hpw
      have hap := hide hap
      have hkrs := hide hkr.size
      clear hAll hown6 hL6 hge6
      go_wp2_with fail
      go_loopg [9, 88, 89, 90, 91, 92, 93, 94, 95, 96, 97] n (fun kx s9 s88 s89 s90 s91 s92 s93 s94 s95 s96 s97 wr => ∃ k : Nat, s88 = .int .i64 k ∧ k ≤ n ∧ n - k ≤ kx ∧ Hid (∀ j (h : j < vs6.length), k ≤ j → ∃ x, Own wr wA.heap.size 71 vs6[j].a vs6[j].n vs6[j].c 16 (cellsV x) ∧ x.length ≤ 1000) ∧ Hid (Kept (vs6.flatMap fun v => blk v.a) w7 wr))
      case atStart => exact ⟨0, rfl, Nat.zero_le _, by omega, hide (fun j h _ => hown7.out _ (List.getElem_mem h)), hide (Kept.refl _ _)⟩
      case round =>
        obtain ⟨k, rfl, hk, hg2, hO, hKq⟩ := hrel
        by_cases hlt : k < n
        · have hkv : k < vs6.length := by rw [hv6.out]; exact hlt
          have hkn : (k : Int) < (n : Int) := by omega
          obtain ⟨b6, o6, rfl⟩ := hrd7.out.rowAddr rowLn (by omega)
          obtain ⟨x, hx1, hx2⟩ := hO.out k hkv (Nat.le_refl _)
          have hrow6 : wr.rangeAt b6 (o6 + k * 2) (lnV vs6[k]) := (hrd7.out.kept hKq.out (fun y hy hm => by obtain ⟨v, hv, hm⟩ := List.mem_flatMap.1 hm; exact hap.out v hv y hy hm)).row rowLn k hkv
          have hpk := hide (fun j (hj : j < vs6.length) (hkj : k < j) => (List.pairwise_iff_getElem.1 hpw.out) k j hkv hj hkj)
          have hmem := hide (List.getElem_mem hkv)
          have r0 := hrow6 0 _ rfl
          have hnx : vs6[k].n ≤ 1000 := by have h1 : x.length = vs6[k].n := hx1.rd.clen; omega
          have hSt := hide (Stain_any vs6[k].a vs6[k].n vs6[k].c wA.heap.size x wr hx1 hnx)
          rw [Nat.add_zero] at r0
          clear hrow6 hx1
          generalize vs6[k] = v at *
          go_wp2_with fail
          refine hSt.out.mono ?_
          rintro e w9 ⟨rfl, hj9⟩
          go_wp2_with fail
          go_roundg (n - (k + 1))
          case measure => omega
          case rel =>
            refine ⟨k + 1, by push_cast; rfl, by omega, Nat.le_refl _, hide (fun j hj hkj => ?_), hide (hKq.out.trans hj9 (fun y hy => .inl (List.mem_flatMap.2 ⟨v, hmem.out, hy⟩)))⟩
            obtain ⟨z, h1, h2⟩ := hO.out j hj (by omega)
            exact ⟨z, h1.kept hj9 (fun y hy hm => hpk.out j hj (by omega) y hm hy), h2⟩
        · obtain rfl : k = n := by omega
          have hkZ : Kept [] W0 wr := hk7.out.trans hKq.out (fun y hy => by
            obtain ⟨v, hv, hy⟩ := List.mem_flatMap.1 hy
            obtain ⟨x, h1, _⟩ := hown7.out v hv
            have h2 := (h1.ge y hy).1
            have h3 := hkrs.out
            exact .inr (by omega))
          go_upto_region 21 with fail
          refine wp_region_held_drew (S := (fun w' => w'.cell? ⟨w.heap.size, 0, none⟩ = some (.int .i64 p) ∧ w'.cell? ⟨w.heap.size, 1, none⟩ = some (.int .i64 g) ∧ w'.cell? ⟨w.heap.size, 2, none⟩ = some (.slice a k c))) (by kernel_rfl) ?_ (fun hHeld => ?_)
          · (try dsimp only); (first | exact hF (hkZ.trans k2 (by simp)) | exact hF (hkZ.trans k1 (by simp)) | exact hF (hkZ.trans (Kept.refl [] wr).drew (by simp)))
          refine wpAnyH_take (i := 0) (v := ?_) rfl (by kernel_rfl) (by kernel_rfl) (by kernel_rfl) (fun _ _ _ h => h) (Or.inl ⟨by rfl, ?_⟩) (by assumption) ?_
          rotate_left
          · (intro wq hSw; (try dsimp only at hSw); go_simp; try with_reducible rfl)
          try simp only [Act.put, List.getElem_toArray, List.getElem_cons_zero, List.setIfInBounds_toArray, List.set_cons_zero, List.set_cons_succ]
          refine wpAnyH_take (i := 2) (v := ?_) rfl (by kernel_rfl) (by kernel_rfl) (by kernel_rfl) (fun _ _ _ h => h) (Or.inl ⟨by rfl, ?_⟩) (by assumption) ?_
          rotate_left
          · (intro wq hSw; (try dsimp only at hSw); go_simp; try with_reducible rfl)
          try simp only [Act.put, List.getElem_toArray, List.getElem_cons_succ, List.getElem_cons_zero, List.setIfInBounds_toArray, List.set_cons_zero, List.set_cons_succ]
          refine wpAnyH_take (i := 3) (v := ?_) rfl (by kernel_rfl) (by kernel_rfl) (by kernel_rfl) (fun _ _ _ h => h) (Or.inl ⟨by rfl, ?_⟩) (by assumption) ?_
          rotate_left
          · (intro wq hSw; (try dsimp only at hSw); go_simp; try with_reducible rfl)
          try simp only [Act.put, List.getElem_toArray, List.getElem_cons_succ, List.getElem_cons_zero, List.setIfInBounds_toArray, List.set_cons_zero, List.set_cons_succ]
          refine wpAnyH_ready (rs := [1]) (by kernel_rfl) (by simp) ?_
          refine AllReadyH.cons rfl (fun K hK => ?_) AllReadyH.nil
          go_simp
          refine (hLn.out wr.drew (hkZ.trans (Kept.refl [] wr).drew (by simp))).mono ?_; rintro e x1 ⟨a8, n8, c8, vs8, rfl, hL8, _, _, _, _, _, _, i1⟩; have k1 : Kept [] wr x1 := (Kept.refl [] wr).drew.trans i1 (by simp); obtain rfl : k = n8 := by have h1 := hL8.len; have h2 := hl.out; omega
          try go_wp2_with fail
          refine hK.out _ _ ?_ (fun hHeld => ?_)
          · (try dsimp only); (first | exact hF (hkZ.trans k2 (by simp)) | exact hF (hkZ.trans k1 (by simp)) | exact hF (hkZ.trans (Kept.refl [] wr).drew (by simp)))
          clear hK K
          try simp only [Act.put, List.getElem_toArray, List.getElem_cons_succ, List.getElem_cons_zero, List.setIfInBounds_toArray, List.set_cons_zero, List.set_cons_succ]
          refine wpAnyH_ready (rs := [4]) (by kernel_rfl) (by simp) ?_
          refine AllReadyH.cons rfl (fun K hK => ?_) AllReadyH.nil
          go_simp
          refine (rAll6_any a8 k c8 vs8 ls a k c vs ls x1 hL8 (hR.out x1 (hkZ.trans k1 (by simp))) hbd.out (by omega)).mono ?_; rintro e x2 ⟨rfl, i2⟩; have k2 : Kept [] wr x2 := k1.trans i2 (by simp)
          try go_wp2_with fail
          refine hK.out _ _ ?_ (fun hHeld => ?_)
          · (try dsimp only); (first | exact hF (hkZ.trans k2 (by simp)) | exact hF (hkZ.trans k1 (by simp)) | exact hF (hkZ.trans (Kept.refl [] wr).drew (by simp)))
          clear hK K
          try simp only [Act.put, List.getElem_toArray, List.getElem_cons_succ, List.getElem_cons_zero, List.setIfInBounds_toArray, List.set_cons_zero, List.set_cons_succ]
          refine wpAnyH_take (i := 5) (v := ?_) rfl (by kernel_rfl) (by kernel_rfl) (by kernel_rfl) (fun _ _ _ h => h) (Or.inl ⟨by rfl, ?_⟩) (by assumption) ?_
          rotate_left
          · (intro wq hSw; (try dsimp only at hSw); go_simp; try with_reducible rfl)
          try simp only [Act.put, List.getElem_toArray, List.getElem_cons_succ, List.getElem_cons_zero, List.setIfInBounds_toArray, List.set_cons_zero, List.set_cons_succ]
          refine wpAnyH_done (by kernel_rfl) ?_ _
          go_wp2_with fail
          go_ret
          exact ⟨ret_bool (by simp), (hk0.trans hkZ (by simp)).trans k2 (by simp)⟩
end Go.Proofs.YtpeedjknjjbabaaDoor
namespace Go.Proofs.YtpeedjknjjbabaaDoor
open Go.RowKit
set_option linter.unusedVariables false
set_option linter.unusedSimpArgs false
set_option maxRecDepth 100000

/-- A page all of whose blocks are such; only such blocks have changed. -/
def PN (ok : Nat → Prop) (w : World) (b : Nat) (s : Sh) : Prop := ∃ B, PG w b s B ∧ ∀ y ∈ B, ok y
def KO (ok : Nat → Prop) (w w' : World) : Prop := ∃ S, Kept S w w' ∧ ∀ y ∈ S, ok y
section
variable {ok : Nat → Prop} {w w' w2 : World} {b : Nat} {s : Sh}
theorem KO.of (h : Kept [] w w') : KO ok w w' := ⟨[], h, by simp⟩
theorem KO.trans (h : KO ok w w') (k : KO ok w' w2) : KO ok w w2 := by
  obtain ⟨S, h1, h2⟩ := h
  obtain ⟨T, k1, k2⟩ := k
  exact ⟨S ++ T, (h1.mono (fun y hy => .inl (List.mem_append_left _ hy))).trans k1 (fun y hy => .inl (List.mem_append_right _ hy)), fun y hy => (List.mem_append.1 hy).elim (h2 y) (k2 y)⟩
theorem KO.size (h : KO ok w w') : w.heap.size ≤ w'.heap.size := by obtain ⟨S, h1, _⟩ := h; exact h1.size
theorem KO.lin (h : KO ok w w') {g : Nat} {a : Option Addr} {n c : Nat} {x : Bool} (hl : LinIn w g a n c x) (hg : ¬ ok g) : LinIn w' g a n c x := by
  obtain ⟨S, h1, h2⟩ := h
  exact hl.kept h1 (fun hm => hg (h2 g hm))
theorem KO.rd (h : KO ok w w') {a : Option Addr} {n k : Nat} {xs : List Value} (hl : Rd w a n k xs) (hg : ∀ y ∈ blk a, ¬ ok y) : Rd w' a n k xs := by
  obtain ⟨S, h1, h2⟩ := h
  exact hl.kept h1 (fun y hy hm => hg y hy (h2 y hm))
theorem KO.lns (h : KO ok w w') {vs : List LnA} {xs : List Ln} (hl : LnsAt w vs xs) (hg : ∀ y ∈ blks vs, ¬ ok y) : LnsAt w' vs xs := by
  obtain ⟨S, h1, h2⟩ := h
  exact hl.kept h1 (fun y hy hm => hg y hy (h2 y hm))
theorem KO.tabs (h : KO ok w w') (ht : Tabs w) (h0 : ¬ ok 0) (h1 : ¬ ok 1) : Tabs w' := by
  obtain ⟨S, k1, k2⟩ := h
  exact ht.kept2 k1 (fun x hx => by
    have := k2 x hx
    rcases Nat.lt_or_ge x 2 with h | h
    · rcases (show x = 0 ∨ x = 1 by omega) with rfl | rfl
      · exact absurd this h0
      · exact absurd this h1
    · exact h)
/-- Where such blocks are new, nothing that there was has changed. -/
theorem KO.none (h : KO ok w w') {w0 : World} (h0 : Kept [] w0 w) (hn : ∀ y, ok y → w0.heap.size ≤ y) : Kept [] w0 w' := by
  obtain ⟨S, h1, h2⟩ := h
  exact h0.trans h1 (fun y hy => .inr (hn y (h2 y hy)))
theorem PN.keep (hp : PN ok w b s) (hk : Kept [] w w') : PN ok w' b s := by
  obtain ⟨B, h1, h2⟩ := hp
  exact ⟨B, h1.kept _ _ _ _ _ [] hk (by simp), h2⟩
theorem PN.mono {ok' : Nat → Prop} (hp : PN ok w b s) (h : ∀ y, y < w.heap.size → ok y → ok' y) : PN ok' w b s := by
  obtain ⟨B, h1, h2⟩ := hp
  exact ⟨B, h1, fun y hy => h y (PG.lt _ _ _ _ h1 y hy) (h2 y hy)⟩
theorem give (hn : ∀ y, w.heap.size ≤ y → ok y) {B B' : List Nat} (hB : ∀ y ∈ B, ok y) (h : ∀ y ∈ B', y ∈ B ∨ w.heap.size ≤ y) : ∀ y ∈ B', ok y := fun y hy => (h y hy).elim (hB y) (hn y)
theorem push_n (hp : PN ok w b s) (hn : ∀ y, w.heap.size ≤ y → ok y) (ht : Tabs w) (a : Option Addr) (n c : Nat) (x : Ln) (hr : Rd w a n 16 (cellsV x.l)) (s' : Sh) (z : Int) (hs : pushS s x = (s', z)) :
    Calls Tryd.prog 13 #[.pointer (some ⟨b, 0, none⟩), .agg #[.slice a n c, .bool x.s]] w fun e w' => e = .returned (.int .i64 z) ∧ PN ok w' b s' ∧ KO ok w w' := by
  obtain ⟨B, ⟨a1, n1, c1, vs, h, rfl⟩, h2⟩ := hp
  refine (PushS_any w b s a1 n1 c1 vs h a n c x ht hr).mono ?_
  rintro e w' ⟨B', he, p1, p2, p3⟩
  rw [hs] at he p1
  exact ⟨he, ⟨B', p1, give hn h2 p3⟩, ⟨_, p2, h2⟩⟩
theorem set_n (hp : PN ok w b s) (hn : ∀ y, w.heap.size ≤ y → ok y) (ht : Tabs w) (i : Int) (a : Option Addr) (n c : Nat) (x : Ln) (hr : Rd w a n 16 (cellsV x.l)) (s' : Sh) (z : Int) (hs : setS s i x = (s', z)) :
    Calls Tryd.prog 21 #[.pointer (some ⟨b, 0, none⟩), .int .i64 i, .agg #[.slice a n c, .bool x.s]] w fun e w' => e = .returned (.int .i64 z) ∧ PN ok w' b s' ∧ KO ok w w' := by
  obtain ⟨B, ⟨a1, n1, c1, vs, h, rfl⟩, h2⟩ := hp
  refine (SetS_any w b s a1 n1 c1 vs h i a n c x ht hr).mono ?_
  rintro e w' ⟨B', he, p1, p2, p3⟩
  rw [hs] at he p1
  exact ⟨he, ⟨B', p1, give hn h2 p3⟩, ⟨_, p2, h2⟩⟩
theorem drop_n (hp : PN ok w b s) (hn : ∀ y, w.heap.size ≤ y → ok y) (k : Int) (s' : Sh) (z : Int) (hs : dropS s k = (s', z)) :
    Calls Tryd.prog 16 #[.pointer (some ⟨b, 0, none⟩), .int .i64 k] w fun e w' => e = .returned (.int .i64 z) ∧ PN ok w' b s' ∧ KO ok w w' := by
  obtain ⟨B, ⟨a1, n1, c1, vs, h, rfl⟩, h2⟩ := hp
  refine (DropS_any w b s a1 n1 c1 vs h k).mono ?_
  rintro e w' ⟨B', he, p1, p2, p3⟩
  rw [hs] at he p1
  exact ⟨he, ⟨B', p1, give hn h2 p3⟩, ⟨_, p2, h2⟩⟩
theorem gets_n (hp : PN ok w b s) (i : Int) (a2 : Option Addr) (n2 c2 : Nat) (s2 : Bool) (m : List Cl) (no : Int) (v : Bool) (hr2 : Rd w a2 n2 16 (cellsV m)) (hv : (decide ((getS s i).1.s = s2 ∧ (getS s i).1.l = m) && decide ((getS s i).2 = no)) = v) :
    Calls Tryd.prog 20 #[.pointer (some ⟨b, 0, none⟩), .int .i64 i, .agg #[.slice a2 n2 c2, .bool s2], .int .i64 no] w fun e w' => e = .returned (.bool v) ∧ PN ok w' b s ∧ KO ok w w' := by
  obtain ⟨B, h1, h2⟩ := hp
  refine (gets_ask pageIs b s B i a2 n2 c2 s2 m no v w h1 hr2 hv).mono ?_
  rintro e w' ⟨he, hk⟩
  exact ⟨he, PN.keep ⟨B, h1, h2⟩ hk, .of hk⟩
theorem pops_n (hp : PN ok w b s) (hn : ∀ y, w.heap.size ≤ y → ok y) (a2 : Option Addr) (n2 c2 : Nat) (s2 : Bool) (m : List Cl) (no : Int) (v : Bool) (hr2 : Rd w a2 n2 16 (cellsV m)) (hd : ∀ y ∈ blk a2, ¬ ok y) (hv : (decide ((popS s).2.1.s = s2 ∧ (popS s).2.1.l = m) && decide ((popS s).2.2 = no)) = v) (s' : Sh) (hs : (popS s).1 = s') :
    Calls Tryd.prog 17 #[.pointer (some ⟨b, 0, none⟩), .agg #[.slice a2 n2 c2, .bool s2], .int .i64 no] w fun e w' => e = .returned (.bool v) ∧ PN ok w' b s' ∧ KO ok w w' := by
  obtain ⟨B, h1, h2⟩ := hp
  refine (pops_ask pageIs b s B a2 n2 c2 s2 m no v w h1 hr2 (fun y hy hm => hd y hy (h2 y hm)) hv).mono ?_
  rintro e w' ⟨he, B', p1, p2, p3⟩
  rw [hs] at p1
  exact ⟨he, ⟨B', p1, give hn h2 p3⟩, ⟨_, p2, h2⟩⟩
theorem room_n (hp : PN ok w b s) (z : Int) (hz : ((s.room : Nat) : Int) = z) : Calls Tryd.prog 15 #[.pointer (some ⟨b, 0, none⟩)] w fun e w' => e = .returned (.int .i64 z) ∧ PN ok w' b s ∧ KO ok w w' := by
  have hq := hp
  obtain ⟨B, ⟨a1, n1, c1, vs, h, rfl⟩, h2⟩ := hp
  subst hz
  exact (room_pg h).mono fun e w' ⟨he, hk⟩ => ⟨he, hq.keep hk, .of hk⟩
theorem gone_n (hp : PN ok w b s) (z : Int) (hz : ((s.gone : Nat) : Int) = z) : Calls Tryd.prog 19 #[.pointer (some ⟨b, 0, none⟩)] w fun e w' => e = .returned (.int .i64 z) ∧ PN ok w' b s ∧ KO ok w w' := by
  have hq := hp
  obtain ⟨B, ⟨a1, n1, c1, vs, h, rfl⟩, h2⟩ := hp
  subst hz
  exact (gone_pg h).mono fun e w' ⟨he, hk⟩ => ⟨he, hq.keep hk, .of hk⟩
theorem len_n (hp : PN ok w b s) (z : Int) (hz : ((s.ls.length : Nat) : Int) = z) : Calls Tryd.prog 18 #[.pointer (some ⟨b, 0, none⟩)] w fun e w' => e = .returned (.int .i64 z) ∧ PN ok w' b s ∧ KO ok w w' := by
  have hq := hp
  obtain ⟨B, ⟨a1, n1, c1, vs, h, rfl⟩, h2⟩ := hp
  subst hz
  exact (len_pg h).mono fun e w' ⟨he, hk⟩ => ⟨he, hq.keep hk, .of hk⟩
theorem cap_n (hp : PN ok w b s) (z : Int) (hz : ((s.places : Nat) : Int) = z) : Calls Tryd.prog 22 #[.pointer (some ⟨b, 0, none⟩)] w fun e w' => e = .returned (.int .i64 z) ∧ PN ok w' b s ∧ KO ok w w' := by
  have hq := hp
  obtain ⟨B, ⟨a1, n1, c1, vs, h, rfl⟩, h2⟩ := hp
  subst hz
  exact (cap_pg h).mono fun e w' ⟨he, hk⟩ => ⟨he, hq.keep hk, .of hk⟩
theorem lines_n (hp : PN ok w b s) (m : Nat) (hm : s.ls.length = m) : Calls Tryd.prog 23 #[.pointer (some ⟨b, 0, none⟩)] w fun e w' => ∃ g vs, e = .returned (.slice (some ⟨g, 0, none⟩) m m) ∧ Fresh w.heap.size w' g m vs s.ls ∧ Kept [] w w' := by
  have hq := hp
  obtain ⟨B, ⟨a1, n1, c1, vs, h, rfl⟩, h2⟩ := hp
  subst hm
  refine (LinesS_any w b s a1 n1 c1 vs h).mono ?_
  rintro e w' ⟨g, n, us, he, hf, hk⟩
  have h1 := hf.mid.rowLen rowLn
  have h2 := hf.lns.len
  obtain rfl : n = s.ls.length := by omega
  exact ⟨g, us, he, hf, hk⟩
end

def kX : Ln := ⟨[runeC 120], false⟩
def kY : Ln := ⟨[runeC 121], false⟩
def kZ : Ln := ⟨[runeC 122], false⟩
def kB : Ln := ⟨[zeroK], false⟩
def s0 : Sh := ⟨3, 0, []⟩
def s1 : Sh := ⟨3, 0, [kX]⟩
def s2 : Sh := ⟨3, 0, [kX, kY]⟩
def s3 : Sh := ⟨3, 1, [kY]⟩
def s4 : Sh := ⟨3, 1, [kY, kZ]⟩
def s5 : Sh := ⟨3, 1, [kY, kX]⟩
def s6 : Sh := ⟨3, 3, []⟩
/-- A line of one rune in a box. -/
structure One (ok : Nat → Prop) (W : World) (b g c : Nat) (l : Cl) : Prop where
  li : LinIn W b (some ⟨g, 0, none⟩) 1 c false
  rd : Rd W (some ⟨g, 0, none⟩) 1 16 (cellsV [l])
  nb : ¬ ok b
  ng : ¬ ok g
  c1 : 1 ≤ c
  c2 : c ≤ maxLen
theorem One.kept {ok : Nat → Prop} {w w' : World} {b g c : Nat} {l : Cl} (h : One ok w b g c l) (hk : KO ok w w') : One ok w' b g c l :=
  ⟨hk.lin h.li h.nb, hk.rd h.rd (by simp [blk]; exact h.ng), h.nb, h.ng, h.c1, h.c2⟩
structure Kn7 (ok : Nat → Prop) (W : World) (b1 g1 c1 b2 g2 c2 b3 g3 c3 : Nat) : Prop where
  tb : Tabs W
  t0 : ¬ ok 0
  t1 : ¬ ok 1
  o1 : One ok W b1 g1 c1 (runeC 120)
  o2 : One ok W b2 g2 c2 (runeC 121)
  o3 : One ok W b3 g3 c3 (runeC 122)
  nw : ∀ y, W.heap.size ≤ y → ok y
theorem Kn7.kept {ok : Nat → Prop} {w w' : World} {b1 g1 c1 b2 g2 c2 b3 g3 c3 : Nat} (h : Kn7 ok w b1 g1 c1 b2 g2 c2 b3 g3 c3) (hk : KO ok w w') : Kn7 ok w' b1 g1 c1 b2 g2 c2 b3 g3 c3 :=
  ⟨hk.tabs h.tb h.t0 h.t1, h.t0, h.t1, h.o1.kept hk, h.o2.kept hk, h.o3.kept hk, fun y hy => h.nw y (Nat.le_trans hk.size hy)⟩
theorem shareS2 {F : Nat → Nat → World → Prop} {G : Nat → Nat → World → Prop} {goal : Prop} (k : (∀ a b W, F a b W → G a b W) → goal) (h : ∀ a b W, F a b W → G a b W) : goal := k h
/-- Two lines of one rune, made in place. -/
theorem two_lns {ok : Nat → Prop} {W : World} {b1 g1 c1 b2 g2 c2 g : Nat} {l m : Cl} (h1 : One ok W b1 g1 c1 l) (h2 : One ok W b2 g2 c2 m) (hr : Rd W (some ⟨g, 0, none⟩) 2 2 (rowsV lnV [⟨some ⟨g1, 0, none⟩, 1, c1, false⟩, ⟨some ⟨g2, 0, none⟩, 1, c2, false⟩])) : LnsR W (some ⟨g, 0, none⟩) 2 [⟨some ⟨g1, 0, none⟩, 1, c1, false⟩, ⟨some ⟨g2, 0, none⟩, 1, c2, false⟩] [⟨[l], false⟩, ⟨[m], false⟩] :=
  ⟨hr, .cons ⟨h1.rd, rfl, h1.c1, h1.c2⟩ (.cons ⟨h2.rd, rfl, h2.c1, h2.c2⟩ .nil)⟩
theorem all_t (a : Option Addr) (n c : Nat) (vs : List LnA) (xs : List Ln) (a2 : Option Addr) (c2 : Nat) (us : List LnA) (w : World) (hr : LnsR w a n vs xs) (hr2 : LnsR w a2 n us xs) (hx : ∀ x ∈ xs, x.l.length ≤ 1000) (hn : n ≤ 2000) :
    Calls Tryd.prog 27 #[.slice a n c, .slice a2 n c2] w fun e w' => e = .returned (.bool true) ∧ Kept [] w w' := by
  refine (rAll6_any a n c vs xs a2 n c2 us xs w hr hr2 (fun x hx' => by have := hx x hx'; omega) (by omega)).mono ?_
  rintro e w' ⟨he, hk⟩
  exact ⟨by rw [he]; simp, hk⟩
end Go.Proofs.YtpeedjknjjbabaaDoor
