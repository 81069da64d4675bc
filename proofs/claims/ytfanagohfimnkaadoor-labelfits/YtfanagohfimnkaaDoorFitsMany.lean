/- The second half of the statement LabelFits: the order of many. -/
import Derived.Test.YtfanagohfimnkaaDoorFitsEnd
import Derived.Test.YtfanagohfimnkaaDoorLongLab
import Derived.Test.YtfanagohfimnkaaDoorRefTicksGroup
import Derived.Deep.CutRange
namespace Go.Proofs.YtfanagohfimnkaaDoor
open Go.RowKit LabMath SortMath

theorem Lists.below {w w' : World} {a : Option Addr} {n : Nat} {A : Nat → Option Addr} {L C : Nat → Nat} {N V : Nat → Nat → ByteArray} (h : Lists w a n A L C N V) (hb : Below w.heap.size w w') : Lists w' a n A L C N V := by
  rcases h with h | ⟨b, o, h, hc⟩
  · exact .inl h
  · refine .inr ⟨b, o, h, fun k hk => ?_⟩
    obtain ⟨h1, h2, h3⟩ := hc k hk
    exact ⟨(hb.cell (p := ⟨b, _, none⟩) (World.block_lt_of_cell? w ⟨b, _, none⟩ h1)).trans h1, h2.below hb, h3⟩
noncomputable def fitsT8 : Code := tailN 8 fitsBody
/-- The first fault of the first k lists, as the statement holds it. -/
structure GAt (N V : Nat → Nat → ByteArray) (L : Nat → Nat) (q k : Nat) (g0 g1 : Int) : Prop where
  cases : (60 < q ∧ g0 = 2 ∧ g1 = -1) ∨ (q ≤ 60 ∧ g0 = 0 ∧ ∀ j, j < k → fC (N j) (V j) (L j) = 0) ∨ (q ≤ 60 ∧ ∃ m, m < k ∧ (∀ j, j < m → fC (N j) (V j) (L j) = 0) ∧ 0 < fC (N m) (V m) (L m) ∧ g0 = fC (N m) (V m) (L m) ∧ g1 = (m : Int))
theorem GAt.keep {N V : Nat → Nat → ByteArray} {L : Nat → Nat} {q k : Nat} {g0 g1 : Int} (h : GAt N V L q k g0 g1) (hz : g0 ≠ 0 ∨ fC (N k) (V k) (L k) = 0) : GAt N V L q (k + 1) g0 g1 := by
  rcases h.cases with h | ⟨h1, h2, h3⟩ | ⟨h1, m, h2, h3⟩
  · exact ⟨.inl h⟩
  · refine ⟨.inr (.inl ⟨h1, h2, fun j hj => ?_⟩)⟩
    rcases Nat.lt_or_ge j k with h | h
    · exact h3 j h
    · obtain rfl : j = k := by omega
      exact hz.resolve_left (fun e => e h2)
  · exact ⟨.inr (.inr ⟨h1, m, by omega, h3⟩)⟩
theorem GAt.put {N V : Nat → Nat → ByteArray} {L : Nat → Nat} {q k : Nat} {g1 : Int} (h : GAt N V L q k 0 g1) (hz : 0 < fC (N k) (V k) (L k)) : GAt N V L q (k + 1) (fC (N k) (V k) (L k)) (k : Int) := by
  rcases h.cases with ⟨_, h, _⟩ | ⟨h1, h2, h3⟩ | ⟨h1, m, h2, h3, h4, h5, _⟩
  · omega
  · exact ⟨.inr (.inr ⟨h1, k, by omega, h3, hz, rfl, rfl⟩)⟩
  · omega

set_option maxRecDepth 1000000 in
set_option maxHeartbeats 8000000 in
theorem fits_t8 {Bd : Nat} {ea : Nat → Addr} (w wc : World) (E : Env Bd ea w) (hBd : Bd ≤ w.heap.size) (la lm ll : Option Addr) (n c m cm q cq : Nat) (A : Nat → Option Addr) (L C : Nat → Nat) (NN VV : Nat → Nat → ByteArray) (hQ : Lists w ll q A L C NN VV) (hb : Below w.heap.size w wc) (hq : q ≤ 70)
    (x3 x4 x5 x6 x7 x8 x9 x10 x11 x12 x13 x14 x15 x16 x17 x18 x19 x20 x21 x22 x23 x24 x25 x26 x27 x28 x29 x30 x31 x32 x33 x34 x35 x36 x37 x38 x39 x40 x41 x42 x43 x44 x45 x46 x47 x48 x49 x50 x51 x52 x53 x54 x55 x56 x57 x58 x59 x60 x61 x62 x63 x64 x65 x66 x67 x68 x69 x70 x71 x72 x73 x74 x75 x76 x77 x78 x79 x80 x81 x82 x83 x84 x85 x86 x87 x88 x89 x90 x91 x92 x93 x94 x95 x96 x97 x98 x99 x100 x101 x102 x103 x104 x105 x106 x107 x108 x109 x110 x111 x112 x113 x114 x115 x116 x117 x118 x119 x120 x121 x122 x123 x124 x125 x126 x127 x128 x129 x130 x131 x132 x133 x134 x135 x136 x137 x138 x139 x140 x141 x142 x143 x144 x145 x146 x147 x148 x149 x150 x151 x152 x153 x154 x155 x156 x157 x158 x159 x160 x161 x162 x163 x164 x165 x166 x167 x168 x169 x170 x171 x172 x173 x174 x175 x176 x177 x178 x179 x180 x181 x182 x183 x184 x185 x186 x187 x188 x189 x190 x191 x192 x193 x194 x195 x196 x197 x198 x199 x200 x201 x202 x203 x204 x205 x206 x207 x208 x209 x210 x211 x212 x213 x214 x215 x216 x217 x218 x219 x220 x221 x222 x223 x224 x225 x226 x227 x228 x229 x230 : Value) :
    Code.wp Tryd.prog fitsT8 (bodyPost Tryd.prog Tryd.f3 fun e w' => e = .returned (.bool true) ∧ Below w.heap.size w w') ⟨#[.slice la n c, .slice lm m cm, .slice ll q cq, x3, x4, x5, x6, x7, x8, x9, x10, x11, x12, x13, x14, x15, x16, x17, x18, x19, x20, x21, x22, x23, x24, x25, x26, x27, x28, x29, x30, x31, x32, x33, x34, x35, x36, x37, x38, x39, x40, x41, x42, x43, x44, x45, x46, x47, x48, x49, x50, x51, x52, x53, x54, x55, x56, x57, x58, x59, x60, x61, x62, x63, x64, x65, x66, x67, x68, x69, x70, x71, x72, x73, x74, x75, x76, x77, x78, x79, x80, x81, x82, x83, x84, x85, x86, x87, x88, x89, x90, x91, x92, x93, x94, x95, x96, x97, x98, x99, x100, x101, x102, x103, x104, x105, x106, x107, x108, x109, x110, x111, x112, x113, x114, x115, x116, x117, x118, x119, x120, x121, x122, x123, x124, x125, x126, x127, x128, x129, x130, x131, x132, x133, x134, x135, x136, x137, x138, x139, x140, x141, x142, x143, x144, x145, x146, x147, x148, x149, x150, x151, x152, x153, x154, x155, x156, x157, x158, x159, x160, x161, x162, x163, x164, x165, x166, x167, x168, x169, x170, x171, x172, x173, x174, x175, x176, x177, x178, x179, x180, x181, x182, x183, x184, x185, x186, x187, x188, x189, x190, x191, x192, x193, x194, x195, x196, x197, x198, x199, x200, x201, x202, x203, x204, x205, x206, x207, x208, x209, x210, x211, x212, x213, x214, x215, x216, x217, x218, x219, x220, x221, x222, x223, x224, x225, x226, x227, x228, x229, x230], []⟩ wc := by
  conv => arg 2; whnf
  have HQ : Hid (Lists w ll q A L C NN VV) := hQ
  have HBX := (show Hid _ from hb)
  have HE := (show Hid _ from E)
  have HFI := (show Hid _ from fine_any wc)
  clear hQ hb E
  go_wp2_with fail
  refine Calls.mono HFI.out ?_
  rintro e w6 ⟨rfl, hb6⟩
  have HB6 := (show Hid _ from HBX.out.trans (hb6.mono HBX.out.size))
  have hw6 : w.heap.size ≤ w6.heap.size := HB6.out.size
  obtain ⟨G1, hG1⟩ : ∃ G1, decide ((60 : Int) < (q : Int)) = G1 := ⟨_, rfl⟩
  clear hb6
  go_upto_if 98 with fail
  have HG1 := (show Hid _ from hG1)
  clear hG1
  go_cut [] (fun wx => Below w.heap.size w wx ∧ wx.heap[w6.heap.size]? = some (.cells #[.int .i64 (if G1 = true then 2 else 0), .int .i64 (-1)] 36 (0, 0)))
  case first =>
    cases G1 with
    | false =>
      go_wp2_with fail
      go_meet
      case rel => exact ⟨HB6.out.alloc hw6 _, heap_alloc_new _ _⟩
    | true =>
      obtain ⟨two, h2⟩ : ∃ x : Int, x = 2 := ⟨_, rfl⟩
      obtain ⟨mone, h1⟩ : ∃ x : Int, x = -1 := ⟨_, rfl⟩
      have HBA : Hid (Calls Tryd.prog 15 #[.int .i64 2] (w6.alloc (.cells #[.int .i64 0, .int .i64 (-1)] 36)) fun e w' => e = .returned (.agg #[.int .i64 two, .int .i64 mone]) ∧ Below (w6.alloc (.cells #[.int .i64 0, .int .i64 (-1)] 36)).heap.size (w6.alloc (.cells #[.int .i64 0, .int .i64 (-1)] 36)) w') := by rw [h2, h1]; exact bare_any 2 _
      have H21 := (show Hid _ from And.intro h2 h1)
      clear h2 h1
      have HN6 : Hid ((w6.alloc (.cells #[.int .i64 0, .int .i64 (-1)] 36)).heap[w6.heap.size]? = some (.cells #[.int .i64 0, .int .i64 (-1)] 36 (0, 0))) := heap_alloc_new _ _
      go_wp2_with fail
      refine Calls.mono HBA.out ?_
      rintro e w7 ⟨rfl, hb7⟩
      have hn7 := (hb7.block _ (blk_lt HN6.out)).trans HN6.out
      have HB7 := (show Hid _ from (HB6.out.alloc hw6 _).trans (hb7.mono (HB6.out.alloc hw6 _).size))
      have c0 : w7.cell? ⟨w6.heap.size, 0, none⟩ = some (.int .i64 0) := by simp [World.cell?, hn7]
      have c1 : w7.cell? ⟨w6.heap.size, 1, none⟩ = some (.int .i64 (-1)) := by simp [World.cell?, hn7]
      have f0 : w7.frozen? ⟨w6.heap.size, 0, none⟩ = false := by simp [World.frozen?, hn7]
      have f1 : w7.frozen? ⟨w6.heap.size, 1, none⟩ = false := by simp [World.frozen?, hn7]
      have HN7 := (show Hid _ from hn7)
      clear hn7 hb7
      dsimp only
      go_wp2_with fail
      go_meet
      case rel => exact ⟨(HB7.out.setCell hw6 _).setCell hw6 _, (block_set (block_set HN7.out 0 _) 1 _).trans (by rw [H21.out.1, H21.out.2]; simp)⟩
  case rest =>
    obtain ⟨hbc, hnc⟩ := hcut
    have hga : GAt NN VV L q 0 (if G1 = true then 2 else 0) (-1) := by
      by_cases h : 60 < q
      · have e : G1 = true := by rw [← HG1.out]; simp; omega
        rw [if_pos e]
        exact ⟨.inl ⟨h, rfl, rfl⟩⟩
      · have e : G1 = false := by rw [← HG1.out]; simp; omega
        rw [e]
        exact ⟨.inr (.inl ⟨by omega, rfl, fun j hj => absurd hj (by omega)⟩)⟩
    obtain ⟨g0, hg0⟩ : ∃ g0 : Int, g0 = if G1 = true then 2 else 0 := ⟨_, rfl⟩
    rw [← hg0] at hga hnc
    have HST : Hid (Below w.heap.size w wc ∧ wc.heap[w6.heap.size]? = some (.cells #[.int .i64 g0, .int .i64 (-1)] 36 (0, 0)) ∧ GAt NN VV L q 0 g0 (-1)) := ⟨hbc, hnc, hga⟩
    clear hbc hnc hga hg0 HG1 HB6 HFI HBX
    go_wp2_with fail
    go_loopw [13] (fun i wr => ∃ (k : Nat) (a0 a1 : Int), k ≤ q ∧ i = .int .i64 k ∧ Below w.heap.size w wr ∧ wr.heap[w6.heap.size]? = some (.cells #[.int .i64 a0, .int .i64 a1] 36 (0, 0)) ∧ GAt NN VV L q k a0 a1 ∧ ∀ i, i < k → L i ≤ 20 ∧ ∀ j, j < L i → (NN i j).size ≤ 60 ∧ (VV i j).size ≤ 60) (fun i _ => q - (intOf i).toNat)
    case atStart => exact ⟨0, g0, -1, Nat.zero_le _, rfl, HST.out.1, HST.out.2.1, HST.out.2.2, fun i hi => absurd hi (by omega)⟩
    case round =>
      obtain ⟨k, a0, a1, hk, rfl, hbr, hnr, hga, hsz⟩ := hrel
      have HBR := (show Hid _ from hbr)
      have HNR := (show Hid _ from hnr)
      have HGA := (show Hid _ from hga)
      have HSZ := (show Hid _ from hsz)
      clear hbr hnr hga hsz HST
      by_cases hkq : k < q
      · rcases HQ.out with h | ⟨lb, lo, rfl, hls⟩
        · omega
        obtain ⟨l0, hL0, _, hI0⟩ := hls k hkq
        have hlb : lb < w.heap.size := World.block_lt_of_cell? w ⟨lb, _, none⟩ l0
        have e0 : wr.cell? ⟨lb, lo + k, none⟩ = some (.slice (A k) (L k) (C k)) := (HBR.out.cell (p := ⟨lb, _, none⟩) hlb).trans l0
        have hk0 : (0 : Int) ≤ (k : Int) := by omega
        have hk1 : (k : Int) < (q : Int) := by omega
        have HLL := (show Hid _ from long_labels wr (A k) (L k) (C k) (NN k) (VV k) (hL0.below HBR.out) hI0)
        have HLK := (show Hid _ from hL0.below HBR.out)
        clear hls l0 hL0
        go_wp2_with fail
        refine Calls.mono HLL.out ?_
        rintro e w1' ⟨hw1', hlo⟩
        subst hw1'
        rcases hlo with rfl | ⟨rfl, hn20, hsz⟩
        · go_wp2
          go_ret
          exact ⟨rfl, HBR.out⟩
        have HSK := (show Hid _ from And.intro hn20 hsz)
        have HLF := (show Hid _ from lfault_f w1' (A k) (L k) (C k) (NN k) (VV k) HLK.out (fun i hi => by have := hsz i hi; omega) hI0)
        clear hsz HLL
        go_wp2_with fail
        refine Calls.mono HLF.out ?_
        rintro e w2 ⟨rfl, hb2⟩
        have HB2 := (show Hid _ from HBR.out.trans (hb2.mono HBR.out.size))
        have hn2 := (hb2.block _ (blk_lt HNR.out)).trans HNR.out
        have HN2 := (show Hid _ from hn2)
        have hw2 : w.heap.size ≤ w2.heap.size := HB2.out.size
        have hgl2 : w6.heap.size < w2.heap.size := blk_lt hn2
        obtain ⟨fc, hfc⟩ : ∃ fc, fc = fC (NN k) (VV k) (L k) := ⟨_, rfl⟩
        obtain ⟨fa, hfa⟩ : ∃ fa, fa = fA (NN k) (VV k) (L k) := ⟨_, rfl⟩
        have hf0 : 0 ≤ fc := by rw [hfc]; exact (fC_cases _ _ _).1
        have HFC := (show Hid _ from hfc)
        rw [← hfc, ← hfa]
        have d0 : (w2.alloc (.cells #[.int .i64 fc, .int .i64 fa] 36)).cell? ⟨w6.heap.size, 0, none⟩ = some (.int .i64 a0) := by rw [World.cell?_alloc_lt _ _ ⟨w6.heap.size, 0, none⟩ hgl2]; simp [World.cell?, hn2]
        have d1 : (w2.alloc (.cells #[.int .i64 fc, .int .i64 fa] 36)).cell? ⟨w6.heap.size, 1, none⟩ = some (.int .i64 a1) := by rw [World.cell?_alloc_lt _ _ ⟨w6.heap.size, 1, none⟩ hgl2]; simp [World.cell?, hn2]
        have hna : (w2.alloc (.cells #[.int .i64 fc, .int .i64 fa] 36)).heap[w6.heap.size]? = some (.cells #[.int .i64 a0, .int .i64 a1] 36 (0, 0)) := by rw [Below.heap_alloc _ _ _ hgl2]; exact hn2
        have f0 : (w2.alloc (.cells #[.int .i64 fc, .int .i64 fa] 36)).frozen? ⟨w6.heap.size, 0, none⟩ = false := by simp [World.frozen?, hna]
        have f1 : (w2.alloc (.cells #[.int .i64 fc, .int .i64 fa] 36)).frozen? ⟨w6.heap.size, 1, none⟩ = false := by simp [World.frozen?, hna]
        have g0' : w2.cell? ⟨w6.heap.size, 0, none⟩ = some (.int .i64 a0) := by simp [World.cell?, hn2]
        have g1' : w2.cell? ⟨w6.heap.size, 1, none⟩ = some (.int .i64 a1) := by simp [World.cell?, hn2]
        have fz0 : w2.frozen? ⟨w6.heap.size, 0, none⟩ = false := by simp [World.frozen?, hn2]
        have fz1 : w2.frozen? ⟨w6.heap.size, 1, none⟩ = false := by simp [World.frozen?, hn2]
        have HNA := (show Hid _ from hna)
        have hne2 := World.new_ne w2 ⟨w6.heap.size, 0, none⟩ g0'
        have HSZ1 : Hid (∀ i, i < k + 1 → L i ≤ 20 ∧ ∀ j, j < L i → (NN i j).size ≤ 60 ∧ (VV i j).size ≤ 60) := fun i hi => if h : i < k then HSZ.out i h else (by have e := (show i = k by omega); rw [e]; exact HSK.out)
        clear hb2 hn2 hna hfc hfa hn20
        dsimp only
        by_cases ha : a0 = 0
        · subst ha
          by_cases hp : 0 < fc
          · have b1 : decide ((0 : Int) < fc) = true := decide_eq_true hp
            go_wp2
            go_roundw
            case rel => exact ⟨k + 1, fc, (k : Int), by omega, by go_num, ((HB2.out.setCell hw6 _).setCell hw6 _).alloc (by simpa using hw2) _, (Below.heap_alloc _ _ _ (by simpa using hgl2)).trans ((block_set (block_set HN2.out 0 _) 1 _).trans (by simp)), by rw [HFC.out]; exact GAt.put HGA.out (by rw [← HFC.out]; exact hp), HSZ1.out⟩
            case measure => simp [intOf] <;> omega
          · have b1 : decide ((0 : Int) < fc) = false := decide_eq_false hp
            go_wp2
            go_roundw
            case rel => exact ⟨k + 1, 0, a1, by omega, by go_num, HB2.out.alloc hw2 _, HNA.out, GAt.keep HGA.out (.inr (by rw [← HFC.out]; omega)), HSZ1.out⟩
            case measure => simp [intOf] <;> omega
        · go_wp2
          go_roundw
          case rel => exact ⟨k + 1, a0, a1, by omega, by go_num, HB2.out.alloc hw2 _, HNA.out, GAt.keep HGA.out (.inl ha), HSZ1.out⟩
          case measure => simp [intOf] <;> omega
      · obtain rfl : k = q := by omega
        have HER := (show Hid _ from HE.out.below HBR.out hBd)
        have hBr : Bd ≤ wr.heap.size := Nat.le_trans hBd HBR.out.size
        have hwr : w.heap.size ≤ wr.heap.size := HBR.out.size
        have HQR : Hid (Lists wr ll k A L C NN VV) := HQ.out.below HBR.out
        rcases HGA.out.cases with ⟨h6, rfl, rfl⟩ | ⟨h6, rfl, hz⟩ | ⟨h6, mm, hmk, hz, hp, rfl, rfl⟩
        · have HOR := (show Hid _ from order_many wr ll k cq h6 (by omega) (ea 1) HER.out.c1)
          go_wp2_with fail
          refine Calls.mono HOR.out ?_
          rintro e w2 ⟨rfl, hb2⟩
          have hn2 := (hb2.block _ (blk_lt HNR.out)).trans HNR.out
          have c0 : w2.cell? ⟨w6.heap.size, 0, none⟩ = some (.int .i64 2) := by simp [World.cell?, hn2]
          have c1 : w2.cell? ⟨w6.heap.size, 1, none⟩ = some (.int .i64 (-1)) := by simp [World.cell?, hn2]
          have HFA := (show Hid _ from faulted_v w2 (HER.out.below hb2 hBr) (Nat.le_trans hBr hb2.size) (.iface 197 (.pointer (some (ea 1)))) 2 (-1) (.inr (.inl ⟨1, by omega, rfl, rfl, rfl⟩)))
          have HB2 := (show Hid _ from HBR.out.trans (hb2.mono hwr))
          clear hb2 hn2 HGA HOR
          dsimp only
          go_wp2_with fail
          refine Calls.mono HFA.out ?_
          rintro e w3 ⟨rfl, hb3⟩
          have HB3 := (show Hid _ from HB2.out.trans (hb3.mono HB2.out.size))
          clear hb3
          dsimp only
          go_wp2
          go_ret
          exact ⟨rfl, HB3.out⟩
        · have HOR := (show Hid _ from order_any wr HER.out hBr ll k cq A L C NN VV HQR.out h6 (fun i hi j hj => by have := (HSZ.out i hi).2 j hj; omega) k (Nat.le_refl _) hz (fun h => absurd h (by omega)))
          go_wp2_with fail
          refine Calls.mono HOR.out ?_
          rintro e w2 ⟨hb2, ⟨h, _⟩ | ⟨_, oa, oc, D, rfl, ho, hD, hS⟩⟩
          · omega
          have hn2 := (hb2.block _ (blk_lt HNR.out)).trans HNR.out
          have c0 : w2.cell? ⟨w6.heap.size, 0, none⟩ = some (.int .i64 0) := by simp [World.cell?, hn2]
          have c1 : w2.cell? ⟨w6.heap.size, 1, none⟩ = some (.int .i64 a1) := by simp [World.cell?, hn2]
          have HB2 := (show Hid _ from HBR.out.trans (hb2.mono hwr))
          have HO := (show Hid _ from ho)
          have HD := (show Hid _ from hD)
          have HS : Hid (Srt (ltX fun i => textTo (NN i) (VV i) (L i)) D 0 k) := hS
          clear hb2 hn2 HGA HOR ho hD hS
          dsimp only
          go_upto_if 153 with fail
          go_cut [] (fun wx => wx = w2)
          case first =>
            go_wp2_with fail
            go_meet
            case rel => rfl
          case rest =>
          subst hcut
          apply_assumption
          exact fits_t14 w _ la lm ll oa n c m cm k cq oc A L C NN VV D HQ.out HB2.out h6 HSZ.out HO.out HD.out HS.out _ _ _ _ _ _ _ _ _ _ _ _ _ _ _ _ _ _ _ _ _ _ _ _ _ _ _ _ _ _ _ _ _ _ _ _ _ _ _ _ _ _ _ _ _ _ _ _ _ _ _ _ _ _ _ _ _ _ _ _ _ _ _ _ _ _ _ _ _ _ _ _ _ _ _ _ _ _ _ _ _ _ _ _ _ _ _ _ _ _ _ _ _ _ _ _ _ _ _ _ _ _ _ _ _ _ _ _ _ _ _ _ _ _ _ _ _ _ _ _ _ _ _ _ _ _ _ _ _ _ _ _ _ _ _ _ _ _ _ _ _ _ _ _ _ _ _ _ _ _ _ _ _ _ _ _ _ _ _ _ _ _ _ _ _ _ _ _ _ _ _ _ _ _ _ _ _ _ _ _ _ _ _ _ _ _ _ _ _ _ _ _ _ _ _ _ _ _ _ _ _ _ _ _ _ _ _ _ _ _ _ _ _ _ _ _ _ _ _ _ _ _ _ _ _ _ _
        · have HOR := (show Hid _ from order_any wr HER.out hBr ll k cq A L C NN VV HQR.out h6 (fun i hi j hj => by have := (HSZ.out i hi).2 j hj; omega) mm (by omega) hz (fun _ => hp))
          obtain ⟨fm, hfm⟩ : ∃ fm, fm = fC (NN mm) (VV mm) (L mm) := ⟨_, rfl⟩
          have HNR2 : Hid (wr.heap[w6.heap.size]? = some (.cells #[.int .i64 fm, .int .i64 (mm : Int)] 36 (0, 0))) := by rw [hfm]; exact HNR.out
          have hp' : 0 < fm := by rw [hfm]; exact hp
          have b1 : decide ((0 : Int) < fm) = true := decide_eq_true hp'
          go_wp2_with fail
          refine Calls.mono HOR.out ?_
          rintro e w2 ⟨hb2, ⟨_, v, rfl, hfv⟩ | ⟨h, _⟩⟩
          · have hn2 := (hb2.block _ (blk_lt HNR2.out)).trans HNR2.out
            have c0 : w2.cell? ⟨w6.heap.size, 0, none⟩ = some (.int .i64 fm) := by simp [World.cell?, hn2]
            have c1 : w2.cell? ⟨w6.heap.size, 1, none⟩ = some (.int .i64 (mm : Int)) := by simp [World.cell?, hn2]
            have HFA := (show Hid _ from faulted_v w2 (HER.out.below hb2 hBr) (Nat.le_trans hBr hb2.size) v fm (mm : Int) (by rw [hfm]; exact hfv))
            have HB2 := (show Hid _ from HBR.out.trans (hb2.mono hwr))
            clear hb2 hn2 HGA HOR hfv hfm HNR hp
            dsimp only
            go_wp2_with fail
            refine Calls.mono HFA.out ?_
            rintro e w3 ⟨rfl, hb3⟩
            have HB3 := (show Hid _ from HB2.out.trans (hb3.mono HB2.out.size))
            clear hb3
            dsimp only
            go_wp2
            go_ret
            exact ⟨rfl, HB3.out⟩
          · omega
end Go.Proofs.YtfanagohfimnkaaDoor
