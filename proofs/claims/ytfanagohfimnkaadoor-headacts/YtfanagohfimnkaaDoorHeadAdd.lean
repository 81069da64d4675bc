/- head's Add by its contract. -/
import Derived.Test.YtfanagohfimnkaaDoorHeadAtGroup
import Derived.Deep.RegionLaw
import Derived.Deep.AppendLies
import Derived.Deep.DeepCutAuto
namespace Go.Proofs.YtfanagohfimnkaaDoor
open Go.RowKit Go.Maps HeadMath LabMath PtMath

/-- On the way: the series is known, its line found. -/
structure AddMid (w wx : World) (hb mb : Nat) (S : List Sr) (bl : List UInt8 → Nat) (sv : List UInt8 → Value) (k : List UInt8) (p : Int × Nat) (lp : Value) (S1 : List Sr) (bl1 : List UInt8 → Nat) (sv1 : List UInt8 → Value) (l1 : Sr) : Prop where
  head : HeadAt wx hb mb S1 bl1 sv1
  mem : l1 ∈ S1
  key : l1.key = k
  ptr : lp = .pointer (some ⟨bl1 l1.key, 0, none⟩)
  srt : S1.Pairwise fun a b => a.key < b.key
  add : addS S1 l1.key p = addS S k p
  pts : l1.pts.length ≤ 1000
  box : wx.heap[w.heap.size]? = some (.cells #[.int .i64 p.1, .int .u64 (p.2 : Int)] 55 (0, 0))
  own : (sv1 l1.key).ownBlock ≠ some w.heap.size
  kept : Kept (foot mb S bl sv) w wx
  sub : ∀ x, x ∈ foot mb S1 bl1 sv1 → x ∈ foot mb S bl sv ∨ w.heap.size ≤ x
/-- What Add leaves: a fault, and all as it was; or a point more. -/
def AddOut (ea : Nat → Addr) (w w' : World) (hb mb : Nat) (S : List Sr) (bl : List UInt8 → Nat) (sv : List UInt8 → Value) (k : List UInt8) (p : Int × Nat) (e : Ending) : Prop :=
  ∃ v, e = .returned v ∧ FaultV ea w' v (addC S k p.1) (addA k) ∧ (0 < addC S k p.1 → Below w.heap.size w w') ∧
    (addC S k p.1 = 0 → ∃ bl' sv', HeadAt w' hb mb (addS S k p) bl' sv' ∧ Kept (foot mb S bl sv) w w' ∧ ∀ x, x ∈ foot mb (addS S k p) bl' sv' → x ∈ foot mb S bl sv ∨ w.heap.size ≤ x)
theorem AddMid.done {w wx w7 : World} {hb mb : Nat} {S : List Sr} {bl : List UInt8 → Nat} {sv : List UInt8 → Value} {k : List UInt8} {p : Int × Nat} {lp : Value} {S1 : List Sr} {bl1 : List UInt8 → Nat} {sv1 : List UInt8 → Value} {l1 : Sr} (h : AddMid w wx hb mb S bl sv k p lp S1 bl1 sv1 l1) {Y : World} (hY : Below wx.heap.size wx Y) {g cap : Nat}
    (hown7 : w7.ownsRow 0 55 2 (.slice (some ⟨g, 0, none⟩) (l1.pts.length + 1) cap) (l1.pts.length + 1) (pairCells (l1.pts ++ [p]))) (hgrow : Y.grownBy w7 (sv1 l1.key).ownBlock) (hat : (sv1 l1.key).ownBlock = some g ∨ g = Y.heap.size) :
    ∃ bl' sv', HeadAt ((w7.setCell ⟨bl1 l1.key, 0, none⟩ (.slice (some ⟨g, 0, none⟩) (l1.pts.length + 1) cap)).setCell ⟨bl1 l1.key, 1, none⟩ (.int .i64 p.1)) hb mb (addS S k p) bl' sv' ∧
      Kept (foot mb S bl sv) w ((w7.setCell ⟨bl1 l1.key, 0, none⟩ (.slice (some ⟨g, 0, none⟩) (l1.pts.length + 1) cap)).setCell ⟨bl1 l1.key, 1, none⟩ (.int .i64 p.1)) ∧ ∀ x, x ∈ foot mb (addS S k p) bl' sv' → x ∈ foot mb S bl sv ∨ w.heap.size ≤ x := by
  have hwx := h.kept.size
  have hg : (sv1 l1.key).ownBlock = some g ∨ wx.heap.size ≤ g := hat.imp id (fun e => by rw [e]; exact hY.size)
  have hnew := h.head.put h.srt h.mem p g cap hown7 (fun b hb' hne => (hgrow.block b (Nat.lt_of_lt_of_le hb' hY.size) (fun e => hne e.symm)).trans (hY.block b hb')) hg
  have hk7 : Kept (foot mb S bl sv) w w7 := by
    refine ⟨hgrow.os.trans (hY.os.trans h.kept.os), hgrow.tape.trans (hY.tape.trans h.kept.tape), hgrow.output.trans (hY.output.trans h.kept.output), Nat.le_trans hwx (Nat.le_trans hY.size hgrow.size), fun b hb' hne => ?_⟩
    have hbx : b < wx.heap.size := Nat.lt_of_lt_of_le hb' hwx
    rw [hgrow.block b (Nat.lt_of_lt_of_le hbx hY.size) (fun e => ?_), hY.block b hbx]
    · exact h.kept.block b hb' hne
    · rcases h.sub b (foot_row h.mem e.symm) with h1 | h1
      · exact hne h1
      · omega
  have hbl := h.sub _ (foot_line h.mem)
  rw [h.add] at hnew
  refine ⟨_, _, hnew, (hk7.setCell hbl _).setCell hbl _, fun x hx => ?_⟩
  have hkn : known S1 l1.key = true := known_iff.2 ⟨l1, h.mem, rfl⟩
  have key : ∀ z, z ∈ addS S k p → ∃ y, y ∈ S1 ∧ y.key = z.key := fun z hz => by
    rw [← h.add] at hz
    rcases (mem_addS h.srt).1 hz with ⟨hz', _⟩ | ⟨m, hm, em, rfl⟩ | ⟨h1, _⟩
    · exact ⟨z, hz', rfl⟩
    · exact ⟨m, hm, em⟩
    · rw [hkn] at h1; cases h1
  rcases mem_foot hx with rfl | ⟨z, hz, rfl⟩ | ⟨z, hz, hgz⟩
  · exact .inl (foot_map ..)
  · obtain ⟨y, hy, ey⟩ := key z hz
    rw [← ey]
    exact h.sub _ (foot_line hy)
  · obtain ⟨y, hy, ey⟩ := key z hz
    by_cases e : z.key = l1.key
    · rw [if_pos e] at hgz
      simp [Value.ownBlock] at hgz
      subst hgz
      rcases hg with hg | hg
      · exact h.sub _ (foot_row h.mem hg)
      · exact .inr (Nat.le_trans hwx hg)
    · rw [if_neg e, ← ey] at hgz
      exact h.sub _ (foot_row hy hgz)

def tailC : Nat → Code → Code
  | 0, c => c
  | n + 1, .seq _ b => tailC n b
  | _ + 1, c => c
noncomputable def addT : Code := tailC 4 (Tryd.f20.body.getD .skip)

set_option maxRecDepth 1000000 in
set_option maxHeartbeats 4000000 in
theorem hadd_tail {ea : Nat → Addr} (w wx : World) (hb mb : Nat) (S : List Sr) (bl : List UInt8 → Nat) (sv : List UInt8 → Value) (s : ByteArray) (t : Int) (u : Nat) (hz : addC S s.data.toList t = 0) (S1 : List Sr) (bl1 : List UInt8 → Nat) (sv1 : List UInt8 → Value) (l1 : Sr) (lb0 : Nat) (hlb0 : lb0 = bl1 l1.key) (h : AddMid w wx hb mb S bl sv s.data.toList (t, u) (.pointer (some ⟨lb0, 0, none⟩)) S1 bl1 sv1 l1)
    (x3 x4 x6 x7 x9 x10 x11 x12 x13 x14 x15 x16 x17 x18 x19 x20 x21 x22 x23 x24 x25 x26 x27 x28 x29 x30 x31 x32 x33 x34 x35 x36 x37 x38 x39 x40 x41 x42 x43 x44 x45 x46 : Value) :
    Code.wp Tryd.prog addT (bodyPost Tryd.prog Tryd.f20 fun e w' => AddOut ea w w' hb mb S bl sv s.data.toList (t, u) e) ⟨#[.pointer (some ⟨hb, 0, none⟩), .string s, .agg #[.int .i64 t, .int .u64 (u : Int)], x3, x4, .pointer (some ⟨w.heap.size, 0, none⟩), x6, x7, .pointer (some ⟨lb0, 0, none⟩), x9, x10, x11, x12, x13, x14, x15, x16, x17, x18, x19, x20, x21, x22, x23, x24, x25, x26, x27, x28, x29, x30, x31, x32, x33, x34, x35, x36, x37, x38, x39, x40, x41, x42, x43, x44, x45, x46], []⟩ wx := by
  conv => arg 2; whnf
  subst hlb0
  have HM := (show Hid _ from h)
  have HZ := (show Hid _ from hz)
  obtain ⟨lb, hlb⟩ : ∃ lb, lb = bl1 l1.key := ⟨_, rfl⟩
  obtain ⟨vv, hvv⟩ : ∃ vv, vv = sv1 l1.key := ⟨_, rfl⟩
  have hln := h.head.line l1 h.mem
  rw [← hlb, ← hvv] at hln
  have c0 : wx.cell? ⟨lb, 0, none⟩ = some vv := by simp [World.cell?, hln]
  have c1 : wx.cell? ⟨lb, 1, none⟩ = some (.int .i64 l1.last) := by simp [World.cell?, hln]
  have hbx := h.box
  have p0 : wx.cell? ⟨w.heap.size, 0, none⟩ = some (.int .i64 t) := by simp [World.cell?, hbx]
  have p1 : wx.cell? ⟨w.heap.size, 1, none⟩ = some (.int .u64 (u : Int)) := by simp [World.cell?, hbx]
  have HLN := (show Hid _ from hln)
  have HBX := (show Hid _ from hbx)
  have hrow := h.head.row l1 h.mem
  rw [← hvv] at hrow
  obtain ⟨n1, hn1⟩ : ∃ n1, n1 = l1.pts.length := ⟨_, rfl⟩
  have hnl : n1 ≤ 1000 := by rw [hn1]; exact h.pts
  rw [← hn1] at hrow
  have HROW := (show Hid _ from hrow)
  have hbl := blk_lt hln
  have hpl := blk_lt hbx
  have HOWN : Hid (vv.ownBlock ≠ some w.heap.size) := by rw [hvv]; exact h.own
  have HNLB : Hid (vv.ownBlock ≠ some lb) := fun e => by
    obtain ⟨_, _, cur, hc⟩ := own_blk hrow e
    exact cells_ne hc hln (by decide) rfl
  have HLW : Hid (lb ≠ w.heap.size) := cells_ne hln hbx (by decide)
  rw [← hlb]
  have HEQ := (show Hid _ from And.intro hlb (And.intro hvv hn1))
  clear h hz hln hbx hrow hlb hvv hn1
  obtain ⟨iP, hI, hI0, hI1, hI2⟩ := info_parts Tryd.infoPt
  have HII := (show Hid _ from hI)
  clear hI
  have HY : Hid (Below wx.heap.size wx (wx.drew.alloc (.cells #[.int .i64 t, .int .u64 (u : Int)] 55))) := (Below.refl _ _).drew.alloc (Nat.le_refl _) _
  have HYR : Hid ((wx.drew.alloc (.cells #[.int .i64 t, .int .u64 (u : Int)] 55)).ownsRow 0 55 2 vv n1 (pairCells l1.pts)) := own_same HROW.out fun g hg => HY.out.block g (own_blk HROW.out hg).2.1
  have HNEWS : Hid (∀ j z, ([.int .i64 t, .int .u64 (u : Int)] : List Value)[j]? = some z → (wx.drew.alloc (.cells #[.int .i64 t, .int .u64 (u : Int)] 55)).cell? ((⟨wx.heap.size, 0, none⟩ : Addr).add j) = some z) := World.news_of_block (heap_alloc_new wx.drew _)
  have H1C : Hid (∀ z ∈ ([.int .i64 t, .int .u64 (u : Int)] : List Value), z.oneCell' = true) := by
    intro z hz
    simp at hz
    rcases hz with rfl | rfl <;> rfl
  have pd0 : wx.drew.cell? ⟨w.heap.size, 0, none⟩ = some (.int .i64 t) := p0
  have pd1 : wx.drew.cell? ⟨w.heap.size, 1, none⟩ = some (.int .u64 (u : Int)) := p1
  have cd0 : wx.drew.cell? ⟨lb, 0, none⟩ = some vv := c0
  have pa0 : (wx.drew.alloc (.cells #[.int .i64 t, .int .u64 (u : Int)] 55)).cell? ⟨w.heap.size, 0, none⟩ = some (.int .i64 t) := (HY.out.cell (p := ⟨w.heap.size, 0, none⟩) hpl).trans p0
  have ca0 : (wx.drew.alloc (.cells #[.int .i64 t, .int .u64 (u : Int)] 55)).cell? ⟨lb, 0, none⟩ = some vv := (HY.out.cell (p := ⟨lb, 0, none⟩) hbl).trans c0
  go_wp2_with fail
  go_region_law (refine step_append_lies _ (by rfl) _ _ 67 (by rfl) 0 55 iP (.agg #[.int .i64 0, .int .u64 0]) 2 16 Tryd.underlying67 HII.out hI0 hI1 hI2 (by rfl) (by decide) _ _ _ (by rfl) (by exact HYR.out) ⟨wx.heap.size, 0, none⟩ 1 1 [.int .i64 t, .int .u64 (u : Int)] (by rfl) (by rfl) (by exact HNEWS.out) H1C.out (by omega) (by unfold maxLen; omega) (by omega) (by omega) _ rfl ?_; intro g7 cap7 w7 hown7 hgrow7 hat7 hlt7; have hl7 : w7.heap[lb]? = some (.cells #[vv, .int .i64 l1.last] 103 (0, 0)) := ((hgrow7.block lb (by simp; omega) (fun e => HNLB.out e.symm)).trans ((HY.out.block lb hbl).trans HLN.out)); have hp7 : w7.heap[w.heap.size]? = some (.cells #[.int .i64 t, .int .u64 (u : Int)] 55 (0, 0)) := ((hgrow7.block _ (by simp; omega) (fun e => HOWN.out e.symm)).trans ((HY.out.block _ hpl).trans HBX.out)); have g0 : w7.cell? ⟨lb, 0, none⟩ = some vv := (by simp [World.cell?, hl7]); have g1 : w7.cell? ⟨lb, 1, none⟩ = some (.int .i64 l1.last) := (by simp [World.cell?, hl7]); have f0 : w7.frozen? ⟨lb, 0, none⟩ = false := (by simp [World.frozen?, hl7]); have f1 : w7.frozen? ⟨lb, 1, none⟩ = false := (by simp [World.frozen?, hl7]); have p70 : w7.cell? ⟨w.heap.size, 0, none⟩ = some (.int .i64 t) := (by simp [World.cell?, hp7]); have ps7 : ∀ z, (w7.setCell ⟨lb, 0, none⟩ z).cell? ⟨w.heap.size, 0, none⟩ = some (.int .i64 t) := (fun z => (World.cell?_setCell_other _ _ _ _ (fun e => HLW.out (by injection e))).trans p70); have HG7 := (show Hid _ from hgrow7); have HO7 := (show Hid _ from hown7); have HA7 := (show Hid _ from hat7); clear hgrow7 hown7 hat7 hl7 hp7)
  all_goals (
    go_wp2
    go_ret
    obtain ⟨e1, e2, e3⟩ := HEQ.out
    subst e1 e2 e3
    have ho := HO7.out
    rw [pairCells_snoc l1.pts (t, u)] at ho
    exact ⟨_, by rfl, .inl ⟨by rfl, HZ.out⟩, fun h0 => absurd h0 (by rw [HZ.out]; decide), fun _ => HM.out.done HY.out ho HG7.out HA7.out⟩)

set_option maxRecDepth 1000000 in
set_option maxHeartbeats 4000000 in
theorem hAdd_any {B : Nat} {ea : Nat → Addr} (w : World) (E : EnvH B ea w) (hB : B ≤ w.heap.size) (hb mb : Nat) (S : List Sr) (bl : List UInt8 → Nat) (sv : List UInt8 → Value) (h : HeadAt w hb mb S bl sv) (hfar : ∀ x, x ∈ foot mb S bl sv → B ≤ x) (hS : S.Pairwise fun a b => a.key < b.key) (hn : S.length ≤ 900) (hc : ∀ l, l ∈ S → l.pts.length ≤ 900) (s : ByteArray) (hs : s.size ≤ 1000) (t : Int) (u : Nat) :
    Calls Tryd.prog 20 #[.pointer (some ⟨hb, 0, none⟩), .string s, .agg #[.int .i64 t, .int .u64 (u : Int)]] w fun e w' => AddOut ea w w' hb mb S bl sv s.data.toList (t, u) e := by
  have HH : Hid (HeadAt w hb mb S bl sv) := h
  have HE := (show Hid _ from E)
  obtain ⟨W, hW⟩ : ∃ W, W = w.alloc (.cells #[.int .i64 t, .int .u64 (u : Int)] 55) := ⟨_, rfl⟩
  have hbW : Below w.heap.size w W := by rw [hW]; exact (Below.refl _ _).alloc (Nat.le_refl _) _
  have hnW : W.heap[w.heap.size]? = some (.cells #[.int .i64 t, .int .u64 (u : Int)] 55 (0, 0)) := by rw [hW]; exact heap_alloc_new _ _
  have hWs : w.heap.size ≤ W.heap.size := hbW.size
  have pw0 : W.cell? ⟨w.heap.size, 0, none⟩ = some (.int .i64 t) := by simp [World.cell?, hnW]
  have pw1 : W.cell? ⟨w.heap.size, 1, none⟩ = some (.int .u64 (u : Int)) := by simp [World.cell?, hnW]
  have HR := (show Hid _ from refuses_any W (E.below hbW hB) (Nat.le_trans hB hWs) hb mb S bl sv (h.below hbW) hS (by omega) s hs t u)
  have HBW := (show Hid _ from hbW)
  have HNW := (show Hid _ from hnW)
  have HW : Hid (∀ wx, wx = w.alloc (.cells #[.int .i64 t, .int .u64 (u : Int)] 55) → wx = W) := fun wx hx => hx.trans hW.symm
  obtain ⟨AC, hAC⟩ : ∃ AC, AC = addC S s.data.toList t := ⟨_, rfl⟩
  obtain ⟨AA, hAA⟩ : ∃ AA, AA = addA s.data.toList := ⟨_, rfl⟩
  have HAC := (show Hid _ from hAC)
  have HAA := (show Hid _ from hAA)
  rw [← hAC, ← hAA] at HR
  have HS := (show Hid _ from hS)
  have HC := (show Hid _ from hc)
  clear h E hbW hnW hW hAC hAA hS hc
  go_enter Tryd.func20, Tryd.ntmps20
  go_upto_region 1 with fail
  rw [HW.out _ rfl]
  go_wp2_with fail
  refine Calls.mono HR.out ?_
  rintro e w2 ⟨v, rfl, hb2, hfv⟩
  have HB2 : Hid (Below w.heap.size w w2) := HBW.out.trans (hb2.mono hWs)
  have hn2 := (hb2.block _ (blk_lt HNW.out)).trans HNW.out
  have HN2 := (show Hid _ from hn2)
  have HFV : Hid (FaultV ea w2 v AC AA) := hfv
  have h2 := HH.out.below HB2.out
  have c0 := h2.cell
  have hw2 : w.heap.size < w2.heap.size := blk_lt hn2
  clear hb2 hn2 HR HBW HNW HW pw0 pw1
  dsimp only
  have hAn : 0 ≤ AC := by
    rcases hfv with ⟨_, h0⟩ | ⟨m, _, _, h0, _⟩ | ⟨pb, m, _, _, _, _, h0⟩ <;> omega
  by_cases hpos : 0 < AC
  · have hv := HFV.out.iface
    have hne : v ≠ .nilIface := fun e => by
      rcases HFV.out with ⟨_, h0⟩ | ⟨m, _, h1, _⟩ | ⟨pb, m, _, h1, _⟩
      · omega
      · rw [e] at h1; cases h1
      · rw [e] at h1; cases h1
    clear hfv h2 c0
    rcases hv with rfl | ⟨ty, q, rfl⟩
    · exact absurd rfl hne
    · clear hne
      go_wp2
      go_ret
      exact ⟨_, by rfl, by rw [← HAC.out, ← HAA.out]; exact HFV.out, fun _ => HB2.out, fun h0 => absurd h0 (by rw [← HAC.out]; omega)⟩
  · have hz : AC = 0 := by omega
    have hv := HFV.out.none hz
    subst hv
    have HZ : Hid (addC S s.data.toList t = 0) := by rw [← HAC.out]; exact hz
    clear hfv HFV hpos hAn HAC hz
    rcases h2.look s hs with ⟨hk, hlook⟩ | ⟨l, hl, hlk, hlook⟩
    · obtain ⟨w3, hup, hat3, hkp3, hsz3⟩ := h2.fresh s hs (by omega) hk
      have hbox3 : w3.heap[w.heap.size]? = some (.cells #[.int .i64 t, .int .u64 (u : Int)] 55 (0, 0)) := (hkp3.block _ hw2 (fun e => h2.ne_map HN2.out (by simpa using e))).trans HN2.out
      have ha0 : (w2.alloc lineO).cell? ⟨hb, 0, none⟩ = some (.map (some mb)) := (World.cell?_alloc_lt _ _ ⟨hb, 0, none⟩ (blk_lt h2.head)).trans c0
      have HMID : Hid (AddMid w w3 hb mb S bl sv s.data.toList (t, u) (.pointer (some ⟨w2.heap.size, 0, none⟩)) (insE S s.data.toList) (fun x => if x = s.data.toList then w2.heap.size else bl x) (fun x => if x = s.data.toList then .slice none 0 0 else sv x) ⟨s.data.toList, [], 0⟩) := by
        refine ⟨hat3, mem_insE.2 (.inr rfl), rfl, by show _ = Value.pointer (some ⟨if s.data.toList = s.data.toList then w2.heap.size else _, 0, none⟩); rw [if_pos rfl], sorted_insE HS.out hk, addS_insE HS.out hk, by simp, hbox3, by show (if s.data.toList = s.data.toList then Value.slice none 0 0 else _).ownBlock ≠ _; rw [if_pos rfl]; simp [Value.ownBlock], ?_, fun x hx => ?_⟩
        · exact (Kept.of_below HB2.out).trans hkp3 (fun x hx => by simp at hx; subst hx; exact .inl (foot_map ..))
        · rcases mem_foot hx with rfl | ⟨z, hz, rfl⟩ | ⟨z, hz, hgz⟩
          · exact .inl (foot_map ..)
          · by_cases e : z.key = s.data.toList
            · rw [if_pos e]; exact .inr (by omega)
            · rw [if_neg e]
              rcases mem_insE.1 hz with h1 | h1
              · exact .inl (foot_line h1)
              · subst h1; exact absurd rfl e
          · by_cases e : z.key = s.data.toList
            · rw [if_pos e] at hgz; cases hgz
            · rw [if_neg e] at hgz
              rcases mem_insE.1 hz with h1 | h1
              · exact .inl (foot_row h1 hgz)
              · subst h1; exact absurd rfl e
      clear h2 hat3 hkp3 hbox3 hk
      go_upto_if 23 with fail
      go_cut [8] (fun l8 wx => l8 = .pointer (some ⟨w2.heap.size, 0, none⟩) ∧ wx = w3)
      case first =>
        go_wp2_with fail
        go_meet
        case rel => exact ⟨rfl, rfl⟩
      case rest =>
        obtain ⟨rfl, rfl⟩ := hcut
        apply_assumption
        exact hadd_tail w _ hb mb S bl sv s t u HZ.out _ _ _ _ w2.heap.size (by show _ = if s.data.toList = s.data.toList then w2.heap.size else bl s.data.toList; rw [if_pos rfl]) HMID.out _ _ _ _ _ _ _ _ _ _ _ _ _ _ _ _ _ _ _ _ _ _ _ _ _ _ _ _ _ _ _ _ _ _ _ _ _ _ _ _ _ _
    · have hline := h2.line l hl
      have HMID : Hid (AddMid w w2 hb mb S bl sv s.data.toList (t, u) (.pointer (some ⟨bl l.key, 0, none⟩)) S bl sv l) := by
        refine ⟨h2, hl, hlk, rfl, HS.out, by rw [hlk], by have := HC.out l hl; omega, HN2.out, fun e => ?_, Kept.of_below HB2.out, fun x hx => .inl hx⟩
        have := (own_blk (HH.out.row l hl) e).2.1
        omega
      clear h2 hlk
      go_upto_if 23 with fail
      go_cut [8] (fun l8 wx => l8 = .pointer (some ⟨bl l.key, 0, none⟩) ∧ wx = w2)
      case first =>
        go_wp2_with fail
        go_meet
        case rel => exact ⟨rfl, rfl⟩
      case rest =>
        obtain ⟨rfl, rfl⟩ := hcut
        apply_assumption
        exact hadd_tail w _ hb mb S bl sv s t u HZ.out _ _ _ _ (bl l.key) rfl HMID.out _ _ _ _ _ _ _ _ _ _ _ _ _ _ _ _ _ _ _ _ _ _ _ _ _ _ _ _ _ _ _ _ _ _ _ _ _ _ _ _ _ _
end Go.Proofs.YtfanagohfimnkaaDoor
