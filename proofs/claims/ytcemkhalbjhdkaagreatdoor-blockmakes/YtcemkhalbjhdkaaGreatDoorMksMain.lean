import Derived.Test.YtcemkhalbjhdkaaGreatDoorBlkSetsGroup
import Derived.Test.YtcemkhalbjhdkaaGreatDoorBlkHeadGroup
import Derived.Test.YtcemkhalbjhdkaaGreatDoorBlkTxtR
import Derived.Test.YtcemkhalbjhdkaaGreatDoorBlkTxtGroup
import Derived.Test.YtcemkhalbjhdkaaGreatDoorLabFaultGroup
import Derived.Test.YtcemkhalbjhdkaaGreatDoorMdAtGroup
import Derived.Test.YtcemkhalbjhdkaaGreatDoorHeadAtGroup
import Derived.Test.YtcemkhalbjhdkaaGreatDoorIsPackedGroup
import Derived.Test.YtcemkhalbjhdkaaGreatDoorRefsGroup
import Derived.Test.YtcemkhalbjhdkaaGreatDoorPtsOwn
import Derived.Test.YtcemkhalbjhdkaaGreatDoorPtMerge
import Derived.Test.YtcemkhalbjhdkaaGreatDoorRefReadGroup
import Derived.Deep.RegionHeld3
import Derived.Test.YtcemkhalbjhdkaaGreatDoorPtListGroup
namespace Go.Proofs.YtcemkhalbjhdkaaGreatDoor
open Go.RowKit Go.Maps dB
noncomputable def mP (f s:Int) (rows:List (List UInt8×List (Int×Nat))):Int:=if jK f s rows=0 then f else 0
noncomputable def mQ (f s:Int) (rows:List (List UInt8×List (Int×Nat))):Int:=if jK f s rows=0 then s else 0
noncomputable def mR (f s:Int) (rows:List (List UInt8×List (Int×Nat))):List (List UInt8×List (Int×Nat)):=if jK f s rows=0 then full rows else []
theorem Iw (w:World) (b:Nat):kr w b [] (.slice none 0 0) (.slice none 0 0):=⟨⟨rfl,.inl ⟨rfl,rfl⟩⟩,⟨rfl,.inl ⟨rfl,rfl⟩⟩⟩
theorem Si {ea:Nat->Addr} {w w':World} {f s:Int} {rows:List (List UInt8×List (Int×Nat))} {e:Ending} (h:F9 ea w w' f s rows e):∃ v u1 u2,e = .returned (.tuple #[.agg #[.int .i64 (mP f s rows),.int .i64 (mQ f s rows),u1,u2],v])/\Below w.heap.size w w'/\bE ea w' v (jK f s rows) (qG f s rows)/\kr w' w.heap.size (mR f s rows) u1 u2:=by
 obtain⟨v,hb,hf,⟨hz,u1,u2,rfl,o1,o2⟩|⟨hz,rfl⟩⟩:=h
 ·refine⟨v,u1,u2,?_,hb,hf,?_⟩
  ·unfold mP mQ;rw[if_pos hz,if_pos hz]
  ·unfold mR;rw[if_pos hz];exact⟨by rw[List.length_map];exact o1,by rw[kg];exact o2⟩
 ·refine⟨v,.slice none 0 0,.slice none 0 0,?_,hb,hf,?_⟩
  ·unfold mP mQ;rw[if_neg hz,if_neg hz]
  ·unfold mR;rw[if_neg hz];exact Iw _ _
theorem aat (f s:Int) (rows:List (List UInt8×List (Int×Nat))):(mR f s rows).length<=rows.length:=by
 unfold mR;split
 ·exact List.length_filter_le ..
 ·exact Nat.zero_le _
end Go.Proofs.YtcemkhalbjhdkaaGreatDoor
namespace Go.Proofs.YtcemkhalbjhdkaaGreatDoor
open Go.RowKit Go.Maps dB aZ
theorem PX (w:World) (sb:Nat) (rows:List (List UInt8×List (Int×Nat))) (h:uZ w sb rows) (hu:(rows.map Prod.fst).Pairwise (· < ·)) (hn:rows.length<=1000) (nm:ByteArray) :
  Calls Tryz.prog 22 #[.pointer (some ⟨sb,0,none⟩),.string nm] w fun e w'=>w'=w/\∃ a c,e = .returned (.slice a (jL rows nm.data.toList).length c)/\gM w a (jL rows nm.data.toList):=by
 obtain⟨a,c,b,d,h1,h2,h3⟩:=h.ex;have hV:∀ i,i<rows.length->∃ A C,w.cell? ⟨(b.getD ⟨0,0,none⟩).block,i,none⟩=some (.slice A (rows.getD i ([],[])).2.length C)/\gM w A (rows.getD i ([],[])).2:=fun i hi=>by
  obtain⟨g,e,A,C,hc,hp⟩:=h3 i hi;refine⟨A,C,?_,?_⟩
  ·rw[e];simpa [List.getD_eq_getElem?_getD,hi] using hc
  ·simpa [List.getD_eq_getElem?_getD,hi] using hp
 have hset:ZV w sb rows.length (fun i=>txt (rows.getD i ([],[])).1) (fun i=>(w.cell? ⟨(b.getD ⟨0,0,none⟩).block,i,none⟩).getD undef):=by
  refine⟨⟨a,c,b,d,ak h1 0,ak h1 1,fun i hi=>⟨?_,?_⟩⟩,fun i hi=>?_⟩
  ·obtain⟨g,e,hc⟩:=h2 i hi;refine⟨g,0,e,?_⟩;rw[Nat.zero_add,hc];simp[List.getD_eq_getElem?_getD,hi,encStr,txt]
  ·obtain⟨g,e,A,C,hc,hp⟩:=h3 i hi;refine⟨g,0,e,?_⟩;rw[Nat.zero_add,e];simp[hc]
  ·obtain⟨A,C,hc,_⟩:=hV i hi;exact⟨A,_,C,by rw[hc];rfl⟩
 refine (RH w sb rows.length _ _ hset (by omega) nm).mono ?_;rintro e w' ⟨⟨i,hi,hx,_,rfl⟩|⟨hno,rfl⟩,rfl⟩
 ·refine⟨rfl,?_⟩;dsimp only at hx ⊢;obtain⟨A,C,hc,hp⟩:=hV i hi;have hg:rows.getD i ([],[])=rows[i]:=by simp[List.getD_eq_getElem?_getD,hi]
  rw[hg] at hc hp hx;have ho:jL rows nm.data.toList=rows[i].2:=by
   rw[<-hx];exact aac hu hi
  rw[ho];exact⟨A,C,by rw[hc];rfl,hp⟩
 ·refine⟨rfl,none,0,?_,?_⟩;all_goals
   have ho:jL rows nm.data.toList = []:=by
    refine D5 fun j hj e=>hno j hj ?_
    have hg:rows.getD j ([],[])=rows[j]:=by simp[List.getD_eq_getElem?_getD,hj]
    show txt (rows.getD j ([],[])).1=nm;rw[hg,e];exact jS nm
   rw[ho]
  ·rfl
  ·exact .inl rfl
theorem ND {Q:List (Int×Nat)->Prop} (h0:Q []):∀ (l:List (List UInt8×List (Int×Nat))) (k:List UInt8),(∀ r,r∈l->Q r.2)->Q (jL l k)
 | [],_,_=>h0
 | r::l,k,h=>by
  rw[jL];split
  ·exact h r (by simp)
  ·exact ND h0 l k fun x hx=>h x (by simp[hx])
structure Cy (w:World) (bb wb:Nat) (p q:Int) (F:List (List UInt8×List (Int×Nat))) (a1:Option Addr) (c1:Nat) (a2:Option Addr) (c2:Nat) (d1:Option Addr) (e1:Nat) (d2:Option Addr) (e2:Nat) (C A:Int):Prop where
 b:w.heap[bb]? = some (.cells #[.int .i64 p,.int .i64 q,.slice a1 F.length c1,.slice a2 F.length c2] 25 (0,0))
 d:w.heap[wb]? = some (.cells #[.int .i64 p,.int .i64 q,.slice d1 F.length e1,.slice d2 F.length e2] 30 (0,0))
 f:w.heap[wb+1]? = some (.cells #[.int .i64 C,.int .i64 A] 32 (0,0))
 mb:∃ x,kr w x F (.slice a1 F.length c1) (.slice a2 F.length c2)
 md:∃ x,kr w x F (.slice d1 F.length e1) (.slice d2 F.length e2)
theorem Cy.below {w z:World} {bb wb:Nat} {p q:Int} {F:List (List UInt8×List (Int×Nat))} {a1:Option Addr} {c1:Nat} {a2:Option Addr} {c2:Nat} {d1:Option Addr} {e1:Nat} {d2:Option Addr} {e2:Nat} {C A:Int} (h:Cy w bb wb p q F a1 c1 a2 c2 d1 e1 d2 e2 C A) (hb:Below w.heap.size w z):Cy z bb wb p q F a1 c1 a2 c2 d1 e1 d2 e2 C A:=
 ⟨(hb.block _ (aL h.b)).trans h.b,(hb.block _ (aL h.d)).trans h.d,(hb.block _ (aL h.f)).trans h.f,h.mb.imp fun _ h=>h.below hb,h.md.imp fun _ h=>h.below hb⟩
theorem Cy.cells {w':World} {bb wb:Nat} {p q:Int} {F:List (List UInt8×List (Int×Nat))} {a1:Option Addr} {c1:Nat} {a2:Option Addr} {c2:Nat} {d1:Option Addr} {e1:Nat} {d2:Option Addr} {e2:Nat} {C A:Int} (h:Cy w' bb wb p q F a1 c1 a2 c2 d1 e1 d2 e2 C A) {m:Nat} (hm:F.length=m):(w'.cell? ⟨bb,0,none⟩=some (.int .i64 p)/\w'.cell? ⟨bb,1,none⟩=some (.int .i64 q)/\w'.cell? ⟨bb,2,none⟩=some (.slice a1 m c1)/\w'.cell? ⟨bb,3,none⟩=some (.slice a2 m c2)/\w'.cell? ⟨wb,0,none⟩=some (.int .i64 p)/\w'.cell? ⟨wb,1,none⟩=some (.int .i64 q)/\w'.cell? ⟨wb,2,none⟩=some (.slice d1 m e1)/\w'.cell? ⟨wb,3,none⟩=some (.slice d2 m e2)/\w'.cell? ⟨wb+1,0,none⟩=some (.int .i64 C)/\w'.cell? ⟨wb+1,1,none⟩=some (.int .i64 A)):=by
 subst hm;exact⟨ak h.b 0,ak h.b 1,ak h.b 2,ak h.b 3,ak h.d 0,ak h.d 1,ak h.d 2,ak h.d 3,ak h.f 0,ak h.f 1⟩
end Go.Proofs.YtcemkhalbjhdkaaGreatDoor
namespace Go.Proofs.YtcemkhalbjhdkaaGreatDoor
open Go.RowKit dB
theorem Sc (w:World) (a b:Option Addr) (ca cb:Nat) (l:List (Int×Nat)) (ha:gM w a l) (hb:gM w b l) (hin:jO l) (hn:l.length<=1000) :
  Calls Tryz.prog 20 #[.slice a l.length ca,.slice b l.length cb] w fun e w'=>e = .returned (.bool true)/\Below w.heap.size w w':=by
 refine (LW w a b l.length ca cb (gH l) (nP l) (pK ha hin) (pK hb hin) (by omega)).mono ?_;rintro e w' ⟨rfl,q,rfl⟩;exact⟨rfl,below_drewN (Below.refl _ _) q⟩
end Go.Proofs.YtcemkhalbjhdkaaGreatDoor
set_option maxRecDepth 100000
namespace Go.Proofs.YtcemkhalbjhdkaaGreatDoor
open Go.RowKit aZ jf
theorem Ip {s:ByteArray} (h:isWord s=true):∀ c,c∈s.data.toList->c≠32/\c≠10:=fun c hc=>by
 unfold isWord at h;rw[Bool.and_eq_true,List.all_eq_true] at h;have:=h.1 c hc;constructor
 ·rintro rfl;revert this;decide
 ·rintro rfl;revert this;decide
theorem R7 (s:List UInt8) (h:gP s=0):∀ c,c∈s->c≠32/\c≠10:=by
 unfold gP at h;cases hs:scan s [] [] [] false with
 | none=>rw[hs] at h;cases h
 | some out=>
  rw[hs] at h;dsimp only at h;obtain⟨h1,h6,_,hall⟩:=(Kr _ _ _).2 h;have hb:=Qt s out hs;intro c hc;rw[<-hb] at hc;rcases He out c hc with rfl | rfl | ⟨p,hp,hcp⟩
  ·decide
  ·decide
  ·obtain⟨i,hi,rfl⟩:=List.mem_iff_getElem.1 hp;have hk:=hall i hi;simp only[jm,Bool.and_eq_true] at hk;have e1:(nameAt out i).data.toList=out[i].1:=by simp[nameAt,hi,txt]
   have e2:(dI out i).data.toList=out[i].2:=by simp[dI,hi,txt]
   have hn:isWord (nameAt out i)=true:=by
    have:=hk.1.1;simp only[isName,Bool.and_eq_true] at this;exact this.1
   rcases hcp with hcp | hcp
   ·exact Ip hn c (by rw[e1];exact hcp)
   ·exact Ip hk.1.2 c (by rw[e2];exact hcp)
def u6 (l:List UInt8):List UInt8:=l.flatMap fun c=>[jY (c.toNat / 16),jY (c.toNat % 16)]
theorem R8 (l:List UInt8):eZ l l.length=u6 l:=by unfold eZ u6;rw[List.take_length]
theorem R9 (c:UInt8) (r:List UInt8):u6 (c::r)=jY (c.toNat / 16)::jY (c.toNat % 16)::u6 r:=by simp[u6]
theorem Iq:∀ d:Fin 16,sV (jY d.val)=(d.val:Int):=by decide
theorem Ir:∀ l:List UInt8,eO (u6 l)=some l
 | []=>rfl
 | c::r=>by
  have h1:=Iq ⟨c.toNat / 16,by have:=c.toNat_lt;omega⟩;have h2:=Iq ⟨c.toNat % 16,by omega⟩;simp only at h1 h2;rw[R9,eO,h1,h2,if_neg (by omega),Ir r,Option.map_some];congr 2;rw[Int.toNat_natCast,Int.toNat_natCast,show 16*(c.toNat / 16)+c.toNat % 16=c.toNat by omega];simp
theorem PU (l:List UInt8):∀ c,c∈u6 l->c≠32/\c≠10:=by
 have h:∀ d:Fin 16,jY d.val≠32/\jY d.val≠10:=by decide
 intro c hc;simp only[u6,List.mem_flatMap,List.mem_cons,List.not_mem_nil,or_false] at hc;obtain⟨b,_,rfl | rfl⟩:=hc
 ·exact h ⟨b.toNat / 16,by have:=b.toNat_lt;omega⟩
 ·exact h ⟨b.toNat % 16,by omega⟩
theorem UO (nm c:List UInt8):nS nm c=(nm++32::u6 c)++10 :: []:=by simp[nS,R8]
theorem UQ (nm c:List UInt8) (h:∀ x,x∈nm->x≠32):rH (nm++32::u6 c)=some (nm,c):=by
 unfold rH;rw[Cv 32 nm _ h];simp[Ir]
def ku (P:List (List UInt8×List UInt8)):List UInt8:=P.flatMap fun p=>nS p.1 p.2
theorem PV (P:List (List UInt8×List UInt8)):P.length<=(ku P).length:=by
 induction P with
 | nil=>simp
 | cons p P ih=>
  have:ku (p::P)=nS p.1 p.2++ku P:=by simp[ku]
  rw[this,List.length_append,BP];simp
  omega
theorem Iu:∀ (P:List (List UInt8×List UInt8)) (n:Nat),P.length<n->(∀ p,p∈P->∀ x,x∈p.1->x≠32/\x≠10)->lu n (ku P)=some (P.map Prod.fst,P.map Prod.snd)
 | [],n,hn,_=>by
  obtain⟨m,rfl⟩:∃ m,n=m+1:=⟨n-1,by simp at hn;omega⟩;simp[ku,lu]
 | p::P,n,hn,h=>by
  obtain⟨m,rfl⟩:∃ m,n=m+1:=⟨n-1,by simp at hn;omega⟩;have ih:=Iu P m (by simp at hn;omega) fun q hq=>h q (by simp[hq])
  have h1:=h p (by simp);have hl:ku (p::P)=(p.1++32::u6 p.2)++10::ku P:=by
   have:ku (p::P)=nS p.1 p.2++ku P:=by simp[ku]
   rw[this,UO];simp
  have hc:aI 10 (ku (p::P))=(p.1++32::u6 p.2,ku P,true):=by
   rw[hl];refine Cv 10 _ _ fun x hx=>?_
   rcases List.mem_append.1 hx with hx | hx
   ·exact (h1 x hx).2
   ·rcases List.mem_cons.1 hx with rfl | hx
    ·decide
    ·exact (PU _ x hx).2
  rw[lu,if_neg (by rw[hl];simp),hc];simp only
  rw[if_neg (by simp),UQ p.1 p.2 fun x hx=>(h1 x hx).1,ih];simp
theorem Cb (v:Int) (h0 : -1099511627776<=v) (h1:v<=1099511627776):iq (Lib.itoa v)=some v:=by
 unfold iq;rw[RF v h0 h1];simp only
 rw[if_pos ⟨by have:=lQ v h0 h1;omega,trivial⟩]
theorem oN (v:Int):∀ c,c∈Lib.itoa v->c≠32/\c≠10:=fun c hc=>by
 rcases Pn v c hc with h | rfl
 ·unfold zU at h;constructor
  ·rintro rfl;revert h;decide
  ·rintro rfl;revert h;decide
 ·decide
def headW (f s n:Int):List UInt8:=[98,108,111,99,107]++32::(Lib.itoa f++32::(Lib.itoa s++32::Lib.itoa n))
theorem Sb (f s n:Int) (hf:iq (Lib.itoa f)=some f) (hs:iq (Lib.itoa s)=some s) (hn:iq (Lib.itoa n)=some n):lX (headW f s n)=some (f,s,n):=by
 unfold lX headW;rw[wZ 32 _ [98,108,111,99,107] [] (by decide),wZ 32 _ (Lib.itoa f) [] (fun b hb=>(oN f b hb).1),wZ 32 _ (Lib.itoa s) [] (fun b hb=>(oN s b hb).1),D8 32 (Lib.itoa n) [] (fun b hb=>(oN n b hb).1)];simp only[List.nil_append];rw[if_pos trivial,hf,hs,hn]
theorem UR (f s:Int) (n:Nat):tF f s n=headW f s n++10 :: []:=by simp[tF,headW]
theorem Lv {f s:Int} {ss cs:List (List UInt8)} (hl:cs.length=ss.length):nT f s ss cs=headW f s ss.length++10::ku (ss.zip cs):=by
 unfold nT iQ;rw[UR,List.take_of_length_le (by simp[hl])];simp[ku]
theorem UU {f s:Int} {ss cs:List (List UInt8)} (hf:iq (Lib.itoa f)=some f) (hs:iq (Lib.itoa s)=some s) (hn:iq (Lib.itoa (ss.length:Int))=some (ss.length:Int)) (hl:cs.length=ss.length) (hnm:∀ x,x∈ss->∀ c,c∈x->c≠32/\c≠10):mO (nT f s ss cs)=some (f,s,ss,cs):=by
 have hc:aI 10 (nT f s ss cs)=(headW f s ss.length,ku (ss.zip cs),true):=by
  rw[Lv hl];refine Cv 10 _ _ fun x hx=>?_
  simp only[headW,List.mem_append,List.mem_cons,List.not_mem_nil,or_false] at hx;rcases hx with (rfl | rfl | rfl | rfl | rfl) | rfl | hx | rfl | hx | rfl | hx
  ·decide
  ·decide
  ·decide
  ·decide
  ·decide
  ·decide
  ·exact (oN _ x hx).2
  ·decide
  ·exact (oN _ x hx).2
  ·decide
  ·exact (oN _ x hx).2
 have hz1:(ss.zip cs).map Prod.fst=ss:=List.map_fst_zip (by omega);have hz2:(ss.zip cs).map Prod.snd=cs:=List.map_snd_zip (by omega);have hli:=Iu (ss.zip cs) ((nT f s ss cs).length+1) (by
  have:=PV (ss.zip cs);rw[Lv hl];simp only[List.length_append,List.length_cons];omega) fun p hp x hx=>hnm p.1 (by rw[<-hz1];exact List.mem_map_of_mem hp) x hx
 rw[hz1,hz2] at hli;unfold mO;rw[hc];simp only
 rw[if_neg (by simp),Sb f s _ hf hs hn];simp only
 rw[hli];simp
end Go.Proofs.YtcemkhalbjhdkaaGreatDoor
set_option maxRecDepth 1000000
set_option maxHeartbeats 8000000
namespace Go.Proofs.YtcemkhalbjhdkaaGreatDoor
open Go.RowKit Go.Maps dB aZ jf
theorem XE {w w':World} {f s:Int} {rows:List (List UInt8×List (Int×Nat))} {e:Ending} (h:Jf w w' f s rows e):∃ u1 u2,e = .returned (.tuple #[.agg #[.int .i64 (mP f s rows),.int .i64 (mQ f s rows),u1,u2],.agg #[.int .i64 (jK f s rows),.int .i64 (qG f s rows)]])/\Below w.heap.size w w'/\kr w' w.heap.size (mR f s rows) u1 u2:=by
 obtain⟨hb,⟨hz,u1,u2,rfl,o⟩|⟨hz,rfl⟩⟩:=h
 ·refine⟨u1,u2,?_,hb,?_⟩
  ·unfold mP mQ;rw[if_pos hz,if_pos hz,hz,(Nh (Ng hz)).2]
  ·unfold mR;rw[if_pos hz];exact o
 ·refine⟨.slice none 0 0,.slice none 0 0,?_,hb,?_⟩
  ·unfold mP mQ;rw[if_neg hz,if_neg hz]
  ·unfold mR;rw[if_neg hz];exact Iw _ _
theorem PY {B:Nat} {ea:Nat->Addr} (w:World) (E:UD B ea w) (PZ:Lib.TabBelow Tryz.prog B w "internal/strconv.uint64pow10" .u64 Lib.pow10Tab) (Gs:uV w) (hB:B<=w.heap.size) (mx:Int) (hM:w.cell? ⟨12,0,none⟩=some (.int .i64 mx)) (f s:Int) (la:Option Addr) (c:Nat) (rows:List (List UInt8×List (Int×Nat))) (hP:lW w la rows) (hin:∀ r,r∈rows->jO r.2/\(r.2.length:Int)<=140737488355328/\(r.1.length:Int)<=140737488355328) (hn:(rows.length:Int)<=9223372036854775807) (nm:ByteArray) (lo hi:Int) :
  Calls Tryz.prog 4 #[.int .i64 f,.int .i64 s,.slice la rows.length c,.string nm,.int .i64 lo,.int .i64 hi] w fun e w'=>e = .returned (.bool true)/\Below w.heap.size w w':=by
 have Bg:=(show Hid _ from ME w E.k hB);have HE:=(show Hid _ from E);have HPO:Hid (Lib.TabBelow Tryz.prog B w "internal/strconv.uint64pow10" .u64 Lib.pow10Tab):=PZ;have U9:=(show Hid _ from Gs);have VH:Hid (∀ z,Below w.heap.size w z->z.cell? ⟨12,0,none⟩=some (.int .i64 mx)):=fun z hz=>(hz.cell (p:=⟨12,0,none⟩) (World.block_lt_of_cell? w ⟨12,0,none⟩ hM)).trans hM
 have HP:Hid (lW w la rows):=hP;have iJ:Hid (∀ r,r∈rows->jO r.2):=fun r hr=>(hin r hr).1
 have Sj:Hid (∀ w',Below w.heap.size w w'->Calls Tryz.prog 13 #[.slice la rows.length c] w' fun e w2=>V9 w' w2 rows e):=fun w' h=>RL w' la c rows (hP.below h) hn fun r hr=>(hin r hr).2
 have HOW:Hid (∀ w',Below w.heap.size w w'->rows.length<=1000->(∀ r,r∈rows->r.2.length<=1000)->Calls Tryz.prog 15 #[.slice la rows.length c] w' fun e w2=>∃ v xs,e = .returned v/\Below w'.heap.size w' w2/\w2.ownsRow w'.heap.size 69 2 v rows.length xs/\gI w2 w'.heap.size xs rows):=fun w' h h1 h2=>MB w' la c rows (hP.below h) h1 h2
 have Sk:Hid (∀ w',Below w.heap.size w w'->rows.length<=1000->Calls Tryz.prog 17 #[.slice la rows.length c] w' fun e w2=>e = .returned (.pointer (some ⟨w'.heap.size,0,none⟩))/\Below w'.heap.size w' w2/\uZ w2 w'.heap.size rows):=fun w' h h1=>Pt w' la c rows (hP.below h) h1
 obtain⟨n,hnn⟩:∃ n,n=rows.length:=⟨_,rfl⟩;have HN:=(show Hid _ from hnn.symm);rw[<-hnn] at Sj HOW Sk hn ⊢;clear hP hin hnn E PZ Gs hM;go_enter Tryz.func4,Tryz.ntmps4;go_wp2_with fail;refine Calls.mono Bg.out ?_;rintro e w1 ⟨rfl,hb1⟩;have HB1:=(show Hid _ from hb1);clear hb1 Bg;dsimp only
 go_wp2_with fail;refine Calls.mono (Sj.out w1 HB1.out) ?_;rintro e w2 ⟨hw2,rfl | ⟨rfl,ad6,hlr⟩⟩
 ·have wF:=hw2;subst wF;clear Sj HOW Sk;go_wp2;go_ret;exact⟨rfl,HB1.out⟩
 ·have wF:=hw2;subst wF;by_cases Z9:200<nm.size
  ·have d0:decide ((200:Int)<(nm.size:Int))=true:=decide_eq_true (by omega);clear Sj HOW Sk;go_wp2;go_ret;exact⟨rfl,HB1.out⟩
  have d0:decide ((200:Int)<(nm.size:Int))=false:=decide_eq_false (by omega);have Kn:Hid (∀ r,r∈rows->r.1.length<=200/\r.2.length<=250):=hlr;have aau:=(show Hid _ from HOW.out w2 HB1.out (by have:=HN.out;omega) (fun r hr=>by have:=(hlr r hr).2;omega));have ahf:n<=70:=by have:=HN.out;omega
  clear Sj HOW hlr ad6 Z9;dsimp only
  go_wp2_with fail;refine Calls.mono aau.out ?_;rintro e w3 ⟨v3,xs3,rfl,hb3,hown3,aav⟩;have HB3:=(show Hid _ from HB1.out.trans (hb3.mono HB1.out.size));rw[<-HN.out] at hown3;obtain⟨a3,c3,rfl,hP3⟩:=KV hown3 aav;have hmk:=Fj w3 (HE.out.k.below HB3.out hB) (Nat.le_trans hB HB3.out.size) f s a3 c3 rows hP3 (fun r hr=>⟨iJ.out r hr,by have:=(Kn.out r hr).1;omega,by have:=(Kn.out r hr).2;omega⟩) (by rw[HN.out];omega);have xG:=(show Hid _ from hmk);rw[HN.out] at xG ⊢;clear hb3 hown3 aav hP3 hmk aau;dsimp only
  go_wp2_with fail;refine Calls.mono xG.out ?_;intro e w4 hmo;obtain⟨v,u1,u2,rfl,hb4,vB,hma⟩:=Si hmo;have fM:=(show Hid _ from HB3.out.trans (hb4.mono HB3.out.size));obtain⟨C,hC⟩:∃ C,C=jK f s rows:=⟨_,rfl⟩;obtain⟨A,hA⟩:∃ A,A=qG f s rows:=⟨_,rfl⟩;obtain⟨p,hp⟩:∃ p,p=mP f s rows:=⟨_,rfl⟩;obtain⟨q,hq⟩:∃ q,q=mQ f s rows:=⟨_,rfl⟩;obtain⟨F,hF⟩:∃ F,F=mR f s rows:=⟨_,rfl⟩;have oz:F.length<=70:=by have:=aat f s rows;have:=HN.out;rw[hF];omega
  have hC0:0<=C:=by rw[hC];exact OV f s rows
  rw[<-hp,<-hq];rw[<-hF] at hma;rw[<-hC,<-hA] at vB;have lI:=(show Hid _ from And.intro hC (And.intro hA (And.intro hp (And.intro hq hF))));obtain⟨a1,c1,a2,c2,rfl,rfl,_⟩:=hma.names;obtain⟨m,hm⟩:∃ m,m=F.length:=⟨_,rfl⟩;have HM:=(show Hid _ from hm.symm);have HMA:=(show Hid _ from hma);have Nr:Hid (bE ea w4 v C A):=vB;rw[<-hm] at oz ⊢;clear hmo hC hA hp hq hF hma vB hb4 xG hm;dsimp only
  go_upto_region 5 with fail;obtain⟨W5,Wq⟩:∃ W5,W5=w4.alloc (.cells #[.int .i64 p,.int .i64 q,.slice a1 m c1,.slice a2 m c2] 25):=⟨_,rfl⟩;have hb5:Below w4.heap.size w4 W5:=by rw[Wq];exact (Below.refl _ _).alloc (Nat.le_refl _) _
  have hx5:W5.heap[w4.heap.size]? = some (.cells #[.int .i64 p,.int .i64 q,.slice a1 m c1,.slice a2 m c2] 25 (0,0)):=by rw[Wq];exact heap_alloc_new _ _
  have qF:=(show Hid _ from fM.out.trans (hb5.mono fM.out.size));have NG:=(show Hid _ from And.intro hb5 hx5);have HS5:=(show Hid _ from Sk.out W5 qF.out (by have:=HN.out;omega));rw[<-Wq];clear Wq hb5 hx5 Sk;go_wp2_with fail;refine Calls.mono HS5.out ?_;rintro e w6 ⟨rfl,hb6,Ws⟩;have V7:=(show Hid _ from qF.out.trans (hb6.mono qF.out.size));have HM6:=(show Hid _ from Pw w6 W5.heap.size rows f s Ws (by rw[HN.out];omega) fun r hr=>⟨iJ.out r hr,by have:=(Kn.out r hr).1;omega,by have:=(Kn.out r hr).2;omega⟩);have aaw:=(show Hid _ from hb6);clear hb6 Ws HS5;dsimp only
  go_wp2_with fail;refine Calls.mono HM6.out ?_;intro e w7 hmo;obtain⟨y1,y2,rfl,kX,hmd⟩:=XE hmo;rw[<-lI.out.1,<-lI.out.2.1,<-lI.out.2.2.1,<-lI.out.2.2.2.1];rw[<-lI.out.2.2.2.2] at hmd;obtain⟨d1,e1,d2,e2,rfl,rfl,_⟩:=hmd.names;have xJ:=(show Hid _ from V7.out.trans (kX.mono V7.out.size));have P5:=(show Hid _ from aaw.out.trans (kX.mono aaw.out.size));have HMD:=(show Hid _ from hmd);rw[HM.out];clear hmo kX hmd HM6;dsimp only
  go_upto_region 6 with fail;obtain⟨W8,NH⟩:∃ W8,W8=(w7.alloc (.cells #[.int .i64 p,.int .i64 q,.slice d1 m e1,.slice d2 m e2] 30)).alloc (.cells #[.int .i64 C,.int .i64 A] 32):=⟨_,rfl⟩;have Dr:(w7.alloc (.cells #[.int .i64 p,.int .i64 q,.slice d1 m e1,.slice d2 m e2] 30)).heap.size=w7.heap.size+1:=by simp
  have jQ:Below w7.heap.size w7 W8:=by rw[NH];exact ((Below.refl _ _).alloc (Nat.le_refl _) _).alloc (by simp) _
  have kK:Cy W8 w4.heap.size w7.heap.size p q F a1 c1 a2 c2 d1 e1 d2 e2 C A:=by
   have h58:=P5.out.trans (jQ.mono P5.out.size);refine⟨?_,?_,?_,⟨_,(HMA.out.below (NG.out.1.trans (h58.mono NG.out.1.size)))⟩,⟨_,HMD.out.below jQ⟩⟩
   ·rw[HM.out];exact (h58.block _ (aL NG.out.2)).trans NG.out.2
   ·rw[HM.out,NH];exact (heap_alloc_old _ _ (by rw[Dr];omega)).trans (heap_alloc_new _ _)
   ·rw[NH,<-Dr];exact heap_alloc_new _ _
  have lS:=(show Hid _ from kK);have rU:=(show Hid _ from xJ.out.trans (jQ.mono xJ.out.size));have HF8:Hid (∀ z,Below W8.heap.size W8 z->bE ea z v C A):=fun z hz=>Nr.out.below (NG.out.1.trans ((P5.out.trans ((jQ.trans (hz.mono jQ.size)).mono P5.out.size)).mono NG.out.1.size))
  have FC:Hid (∀ w',Below W8.heap.size W8 w'->(w'.cell? ⟨w4.heap.size,0,none⟩=some (.int .i64 p)/\w'.cell? ⟨w4.heap.size,1,none⟩=some (.int .i64 q)/\w'.cell? ⟨w4.heap.size,2,none⟩=some (.slice a1 m c1)/\w'.cell? ⟨w4.heap.size,3,none⟩=some (.slice a2 m c2)/\w'.cell? ⟨w7.heap.size,0,none⟩=some (.int .i64 p)/\w'.cell? ⟨w7.heap.size,1,none⟩=some (.int .i64 q)/\w'.cell? ⟨w7.heap.size,2,none⟩=some (.slice d1 m e1)/\w'.cell? ⟨w7.heap.size,3,none⟩=some (.slice d2 m e2)/\w'.cell? ⟨w7.heap.size+1,0,none⟩=some (.int .i64 C)/\w'.cell? ⟨w7.heap.size+1,1,none⟩=some (.int .i64 A))):=fun z hz=>(kK.below hz).cells HM.out
  have uw:Hid (∀ z,Below W8.heap.size W8 z->Calls Tryz.prog 9 #[v,.agg #[.int .i64 C,.int .i64 A]] z fun e w'=>e = .returned (.bool true)/\(w'.cell? ⟨w4.heap.size,0,none⟩=some (.int .i64 p)/\w'.cell? ⟨w4.heap.size,1,none⟩=some (.int .i64 q)/\w'.cell? ⟨w4.heap.size,2,none⟩=some (.slice a1 m c1)/\w'.cell? ⟨w4.heap.size,3,none⟩=some (.slice a2 m c2)/\w'.cell? ⟨w7.heap.size,0,none⟩=some (.int .i64 p)/\w'.cell? ⟨w7.heap.size,1,none⟩=some (.int .i64 q)/\w'.cell? ⟨w7.heap.size,2,none⟩=some (.slice d1 m e1)/\w'.cell? ⟨w7.heap.size,3,none⟩=some (.slice d2 m e2)/\w'.cell? ⟨w7.heap.size+1,0,none⟩=some (.int .i64 C)/\w'.cell? ⟨w7.heap.size+1,1,none⟩=some (.int .i64 A))/\Below W8.heap.size W8 w'):=fun z hz=>by
   have hbz:=rU.out.trans (hz.mono rU.out.size);refine (OU z (HE.out.env.below hbz hB) (Nat.le_trans hB hbz.size) v C A (HF8.out z hz)).mono ?_;rintro e w' ⟨rfl,hb⟩;have hz':=hz.trans (hb.mono hz.size);exact⟨rfl,FC.out w' hz',hz'⟩
  have HAS:Hid (∀ z,Below W8.heap.size W8 z->Calls Tryz.prog 11 #[.agg #[.int .i64 p,.int .i64 q,.slice a1 m c1,.slice a2 m c2]] z fun e w'=>e = .returned (.agg #[.int .i64 p,.int .i64 q,.slice a1 m c1,.slice a2 m c2])/\(w'.cell? ⟨w4.heap.size,0,none⟩=some (.int .i64 p)/\w'.cell? ⟨w4.heap.size,1,none⟩=some (.int .i64 q)/\w'.cell? ⟨w4.heap.size,2,none⟩=some (.slice a1 m c1)/\w'.cell? ⟨w4.heap.size,3,none⟩=some (.slice a2 m c2)/\w'.cell? ⟨w7.heap.size,0,none⟩=some (.int .i64 p)/\w'.cell? ⟨w7.heap.size,1,none⟩=some (.int .i64 q)/\w'.cell? ⟨w7.heap.size,2,none⟩=some (.slice d1 m e1)/\w'.cell? ⟨w7.heap.size,3,none⟩=some (.slice d2 m e2)/\w'.cell? ⟨w7.heap.size+1,0,none⟩=some (.int .i64 C)/\w'.cell? ⟨w7.heap.size+1,1,none⟩=some (.int .i64 A))/\Below W8.heap.size W8 w'):=fun z hz=>by
   refine (Dm z p q a1 a2 m c1 m c2).mono ?_;rintro e w' ⟨rfl,hb⟩;have hz':=hz.trans (hb.mono hz.size);exact⟨rfl,FC.out w' hz',hz'⟩
  have Rw:Hid (∀ z,Below W8.heap.size W8 z->Calls Tryz.prog 10 #[.agg #[.int .i64 p,.int .i64 q,.slice a1 m c1,.slice a2 m c2],.agg #[.int .i64 p,.int .i64 q,.slice d1 m e1,.slice d2 m e2]] z fun e w'=>e = .returned (.bool true)/\(w'.cell? ⟨w4.heap.size,0,none⟩=some (.int .i64 p)/\w'.cell? ⟨w4.heap.size,1,none⟩=some (.int .i64 q)/\w'.cell? ⟨w4.heap.size,2,none⟩=some (.slice a1 m c1)/\w'.cell? ⟨w4.heap.size,3,none⟩=some (.slice a2 m c2)/\w'.cell? ⟨w7.heap.size,0,none⟩=some (.int .i64 p)/\w'.cell? ⟨w7.heap.size,1,none⟩=some (.int .i64 q)/\w'.cell? ⟨w7.heap.size,2,none⟩=some (.slice d1 m e1)/\w'.cell? ⟨w7.heap.size,3,none⟩=some (.slice d2 m e2)/\w'.cell? ⟨w7.heap.size+1,0,none⟩=some (.int .i64 C)/\w'.cell? ⟨w7.heap.size+1,1,none⟩=some (.int .i64 A))/\Below W8.heap.size W8 w'):=fun z hz=>by
   have hz2:=kK.below hz;obtain⟨_,hm1⟩:=hz2.mb;obtain⟨_,hm2⟩:=hz2.md;have:=Ig z (f:=p) (s:=q) (by rw[HM.out];exact oz) hm1 hm2;rw[HM.out] at this;refine this.mono ?_;rintro e w' ⟨rfl,hb⟩;have hz':=hz.trans (hb.mono hz.size);exact⟨rfl,FC.out w' hz',hz'⟩
  rw[<-NH];obtain⟨x0,x1,x2,x3,x4,x5,x6,x7,x8,x9⟩:=FC.out W8 (Below.refl _ _);have hdr:Below W8.heap.size W8 W8.drew:=bZ (Below.refl _ _);have ahg:Hid (w7.heap.size+2<=W8.heap.size):=by show _<=_;rw[NH];simp
  clear NH Dr jQ kK;go_region_held3 (fun w'=>(w'.cell? ⟨w4.heap.size,0,none⟩=some (.int .i64 p)/\w'.cell? ⟨w4.heap.size,1,none⟩=some (.int .i64 q)/\w'.cell? ⟨w4.heap.size,2,none⟩=some (.slice a1 m c1)/\w'.cell? ⟨w4.heap.size,3,none⟩=some (.slice a2 m c2)/\w'.cell? ⟨w7.heap.size,0,none⟩=some (.int .i64 p)/\w'.cell? ⟨w7.heap.size,1,none⟩=some (.int .i64 q)/\w'.cell? ⟨w7.heap.size,2,none⟩=some (.slice d1 m e1)/\w'.cell? ⟨w7.heap.size,3,none⟩=some (.slice d2 m e2)/\w'.cell? ⟨w7.heap.size+1,0,none⟩=some (.int .i64 C)/\w'.cell? ⟨w7.heap.size+1,1,none⟩=some (.int .i64 A))) (go_keep) ((first
   | (go_at_call 9;refine Calls.mono (uw.out _ (by assumption)) ?_;rintro e w9 ⟨rfl,⟨j0,j1,j2,j3,j4,j5,j6,j7,j8,j9⟩,k9⟩)
   | (go_at_call 11;refine Calls.mono (HAS.out _ (by assumption)) ?_;rintro e Yy ⟨rfl,⟨j0,j1,j2,j3,j4,j5,j6,j7,j8,j9⟩,k10⟩)
   | (go_at_call 10;refine Calls.mono (Rw.out _ (by assumption)) ?_;rintro e Bj ⟨rfl,⟨j0,j1,j2,j3,j4,j5,j6,j7,j8,j9⟩,k11⟩)))
  have Lx:=(show Hid _ from rU.out.trans (k11.mono rU.out.size));have Wt:=(show Hid _ from lS.out.below k11);have UY:=(show Hid _ from k11);clear j0 j1 j2 j3 j4 j5 j6 j7 j8 j9 k11 k9 k10 x0 x1 x2 x3 x4 x5 x6 x7 x8 x9 hdr uw HAS Rw;obtain⟨x0,x1,x2,x3,x4,x5,x6,x7,x8,x9⟩:=FC.out Bj UY.out;by_cases hz:C=0
  ·subst hz;have LA:jK f s rows=0:=lI.out.1.symm;have hpf:p=f:=by rw[lI.out.2.2.1];unfold mP;rw[if_pos LA]
   have hqs:q=s:=by rw[lI.out.2.2.2.1];unfold mQ;rw[if_pos LA]
   have vg:F=full rows:=by rw[lI.out.2.2.2.2];unfold mR;rw[if_pos LA]
   have hmb:zX f s F:=by rw[vg];exact Xv LA iJ.out
   have hFn:∀ r,r∈F->r.1.length<=200:=fun r hr=>(Kn.out r (sN (vg ▸ hr)).1).1
   subst hpf hqs;have vD:=(show Hid _ from hmb);have Ij:Hid (∀ r,r∈F->r.1.length<=200):=hFn;have Di:Hid (jO (aQ lo hi (jL F nm.data.toList))/\(aQ lo hi (jL F nm.data.toList)).length<=120/\(jL F nm.data.toList).length<=120):=by
    have h1:jO (jL F nm.data.toList)/\(jL F nm.data.toList).length<=120:=ND (Q:=fun l=>jO l/\l.length<=120) ⟨fun p hp=>(by cases hp),Nat.zero_le _⟩ F _ fun r hr=>⟨hmb.bits r hr,(kM (hmb.well.each r hr).2.1).1⟩
    have h2:=qP lo hi (jL F nm.data.toList);exact⟨fun x hx=>h1.1 x (List.mem_filter.1 hx).1,by omega,h1.2⟩
   have Np:Hid (Calls Tryz.prog 18 #[.agg #[.int .i64 p,.int .i64 q,.slice a1 m c1,.slice a2 m c2],.string nm,.int .i64 lo,.int .i64 hi] Bj fun e w'=>∃ x,e = .returned (.tuple #[x,.nilIface])/\Below Bj.heap.size Bj w'/\w'.ownsRow Bj.heap.size 67 2 x (aQ lo hi (jL F nm.data.toList)).length (aV (aQ lo hi (jL F nm.data.toList)))):=by
    obtain⟨_,hm1⟩:=Wt.out.mb;have:=MF Bj (HE.out.k.below Lx.out hB) (Nat.le_trans hB Lx.out.size) hmb (by rw[HM.out];exact oz) hFn hm1 nm lo hi;rw[HM.out] at this;exact this
   clear LA hmb hFn vg;go_wp2_with fail;refine Calls.mono Np.out ?_;rintro e NI ⟨x,rfl,zW,aax⟩;have UZ:=(show Hid _ from UY.out.trans (zW.mono UY.out.size));have ahh:=(show Hid _ from Lx.out.trans (zW.mono Lx.out.size));obtain⟨a12,c12,rfl,_,aay,_⟩:=qB aax;obtain⟨nb,hnb⟩:∃ nb,nb=(aQ lo hi (jL F nm.data.toList)).length:=⟨_,rfl⟩;have Zy:Hid (gM NI a12 (aQ lo hi (jL F nm.data.toList))):=aay;have Ii:=(show Hid _ from hnb.symm);rw[<-hnb];have Dt:Hid (Calls Tryz.prog 19 #[.agg #[.int .i64 p,.int .i64 q,.slice d1 m e1,.slice d2 m e2]] NI fun e w'=>∃ sb,e = .returned (.tuple #[.pointer (some ⟨sb,0,none⟩),.agg #[.int .i64 0,.int .i64 (-1)]])/\Below NI.heap.size NI w'/\uZ w' sb F):=by
    obtain⟨_,hm2⟩:=(Wt.out.below zW).md;obtain⟨hbz,hba,hbr⟩:=vD.out.bk;have:=MG NI p q _ _ _ _ (F.map Prod.fst) (jZ F) hm2.o1 hm2.o2 (fun x hx=>by obtain⟨r,hr,rfl⟩:=List.mem_map.1 hx;have:=Ij.out r hr;omega) vD.out.chunks (by rw[List.length_map,HM.out];omega) (by rw[kg,HM.out];omega);rw[HM.out] at this;refine this.mono ?_;rintro e w' ⟨hb,⟨_,sb,rfl,hs⟩|⟨hne,_⟩⟩
    ·rw[hbr] at hs;exact⟨sb,rfl,hb,hs⟩
    ·exact absurd hbz hne
   clear x0 x1 x2 x3 x4 x5 x6 x7 x8 x9 zW aax aay hnb Np;obtain⟨x0,x1,x2,x3,x4,x5,x6,x7,x8,x9⟩:=FC.out NI UZ.out;dsimp only
   go_wp2_with fail;refine Calls.mono Dt.out ?_;rintro e Wu ⟨sb,rfl,wT,hset⟩;have aaz:=(show Hid _ from UZ.out.trans (wT.mono UZ.out.size));have ad7:Hid (gM Wu a12 (aQ lo hi (jL F nm.data.toList))):=gM.below Zy.out wT;have pI:=(show Hid _ from hset);clear x0 x1 x2 x3 x4 x5 x6 x7 x8 x9 wT hset Dt;dsimp only
   go_upto_region 12 with fail;obtain⟨Sl,U0⟩:∃ Sl,Sl=Wu.alloc (.cells #[.int .i64 0,.int .i64 (-1)] 32):=⟨_,rfl⟩;have P6:Below Wu.heap.size Wu Sl:=by rw[U0];exact (Below.refl _ _).alloc (Nat.le_refl _) _
   rw[<-U0];have aaA:=(show Hid _ from aaz.out.trans (P6.mono aaz.out.size));have ad8:Hid (gM Sl a12 (aQ lo hi (jL F nm.data.toList))):=gM.below ad7.out P6;have Ao:=(show Hid _ from PX Sl sb F (pI.out.below P6) vD.out.well.up (by rw[HM.out];omega) nm);clear U0 P6;go_wp2_with fail;refine Calls.mono Ao.out ?_;rintro e w15 ⟨aaB,ao,co,rfl,hpo⟩;have abt:=aaB;subst abt;have uf:=(show Hid _ from LU w15 ao co (jL F nm.data.toList) lo hi hpo (by have:=Di.out.2.2;omega));clear Ao hpo aaB;obtain⟨no,hno⟩:∃ no,no=(jL F nm.data.toList).length:=⟨_,rfl⟩;rw[<-hno] at uf ⊢;clear hno;dsimp only
   go_wp2_with fail;refine Calls.mono uf.out ?_;rintro e w16 ⟨v16,rfl,aaC,Lj⟩;obtain⟨a16,c16,rfl,_,aaD,_⟩:=qB aaC;have Lp:=(show Hid _ from Sc w16 a12 a16 c12 c16 _ (gM.below ad8.out Lj) aaD Di.out.1 (by have:=Di.out.2.1;omega));rw[Ii.out] at Lp ⊢;have aaE:=(show Hid _ from aaA.out.trans (Lj.mono aaA.out.size));clear uf aaC aaD Lj;dsimp only
   go_wp2_with fail;refine Calls.mono Lp.out ?_;rintro e Sm ⟨rfl,aaF⟩;have LB:=(show Hid _ from aaE.out.trans (aaF.mono aaE.out.size));have FD:=rU.out.trans (LB.out.mono rU.out.size);have agr:=(show Hid _ from FD);obtain⟨tx,htx⟩:∃ tx:ByteArray,tx=txt (nT p q (F.map Prod.fst) (jZ F)):=⟨_,rfl⟩;have HTX:Hid (Calls Tryz.prog 12 #[.agg #[.int .i64 p,.int .i64 q,.slice a1 m c1,.slice a2 m c2]] Sm fun e w'=>e = .returned (.tuple #[.string tx,.nilIface])/\Below Sm.heap.size Sm w'):=by
    obtain⟨_,hm1⟩:=(lS.out.below LB.out).mb;obtain⟨hbz,hba,hbr⟩:=vD.out.bk;have:=Po Sm ⟨HE.out.k.below FD hB,HPO.out.on (FD.mono hB)⟩ (Nat.le_trans hB FD.size) p q _ _ _ _ (F.map Prod.fst) (jZ F) hm1.o1 hm1.o2 (fun x hx=>by obtain⟨r,hr,rfl⟩:=List.mem_map.1 hx;have:=Ij.out r hr;omega) vD.out.chunks (by rw[List.length_map,HM.out];omega) (by rw[kg,HM.out];omega);rw[HM.out] at this;refine this.mono ?_;rintro e w' ⟨x,v,rfl,hb,hf,hx⟩;have hv:=hf.none hbz;subst hv;rw[hx hbz,htx];exact⟨rfl,hb⟩
   have Vo:Hid (∀ z,Below W8.heap.size W8 z->Calls Tryz.prog 23 #[.agg #[.int .i64 p,.int .i64 q,.slice d1 m e1,.slice d2 m e2]] z fun e w'=>e = .returned (.string tx)/\Below z.heap.size z w'):=fun z hz=>by
    obtain⟨_,hm2⟩:=(lS.out.below hz).md;have:=PW z p q vD.out.well.bd _ _ _ _ (F.map Prod.fst) (jZ F) hm2.o1 hm2.o2 (by rw[kg,List.length_map]) (by rw[List.length_map];exact vD.out.well.len) (fun x hx=>by obtain⟨r,hr,rfl⟩:=List.mem_map.1 hx;have:=Ij.out r hr;omega) vD.out.chunks;rw[HM.out] at this;refine this.mono ?_;rintro e w' ⟨rfl,hb⟩;exact⟨by rw[htx],hb⟩
   have HTE:=(show Hid _ from htx);obtain⟨x0,x1,x2,x3,x4,x5,x6,x7,x8,x9⟩:=FC.out Sm LB.out;clear Lp aaF FD htx;dsimp only
   go_wp2_with fail;refine Calls.mono HTX.out ?_;rintro e w18 ⟨rfl,aaG⟩;have P7:=(show Hid _ from LB.out.trans (aaG.mono LB.out.size));clear x0 x1 x2 x3 x4 x5 x6 x7 x8 x9 aaG HTX;obtain⟨x0,x1,x2,x3,x4,x5,x6,x7,x8,x9⟩:=FC.out w18 P7.out;have hte:(tx.toList==tx.toList)=true:=by simp
   dsimp only
   go_wp2_with fail;refine Calls.mono (Vo.out w18 P7.out) ?_;rintro e Wv ⟨rfl,aaH⟩;have U1:=(show Hid _ from P7.out.trans (aaH.mono P7.out.size));have Cc:=(show Hid _ from rU.out.trans (U1.out.mono rU.out.size));clear x0 x1 x2 x3 x4 x5 x6 x7 x8 x9 aaH Vo;have hll:(jZ F).length=(F.map Prod.fst).length:=by rw[kg,List.length_map]
   have htl:tx.size<=10000000:=by
    rw[HTE.out,bF];have h1:=xV p q (F.map Prod.fst) (jZ F) hll (fun x hx=>by obtain⟨r,hr,rfl⟩:=List.mem_map.1 hx;have:=Ij.out r hr;omega) vD.out.chunks (F.map Prod.fst).length (Nat.le_refl _);obtain⟨b1,b2,b3,b4⟩:=ql vD.out.well.bd;have h2:=BO p q (F.map Prod.fst).length b3 b4 b1 b2 (by rw[List.length_map];exact vD.out.well.len);have h3:(F.map Prod.fst).length<=60:=by rw[List.length_map];exact vD.out.well.len
    unfold nT;have h4:(F.map Prod.fst).length*21002<=60*21002:=Nat.mul_le_mul_right _ h3;omega
   by_cases hlong:20000<tx.size
   ·have d9:decide ((20000:Int)<(tx.size:Int))=true:=decide_eq_true (by omega);have nO:=(show Hid _ from MN tx hlong (by omega) Wv (HE.out.k.below Cc.out hB));have vw:Hid (uH tx.data.toList=2/\Aq tx.data.toList = -1):=by
     have:20000<tx.data.toList.length:=by rw[jM];exact hlong
     unfold uH Aq;rw[if_pos this,if_pos this];exact⟨rfl,rfl⟩
    clear hlong hll htl;dsimp only
    go_wp2_with fail;refine Calls.mono nO.out ?_;rintro e mg ⟨v20,D9,Gg,⟨Gh,_⟩|⟨Gh,rfl⟩⟩
    ·rw[vw.out.1] at Gh;cases Gh
    ·rw[vw.out.1,vw.out.2] at Gg;obtain⟨ni,Ce⟩:∃ ni,ni=mg.alloc (.cells #[.int .i64 0,.int .i64 0,.slice none 0 0,.slice none 0 0] 25):=⟨_,rfl⟩;have Cg:Below mg.heap.size mg ni:=by rw[Ce];exact (Below.refl _ _).alloc (Nat.le_refl _) _
     have Sn:=D9.trans (Cg.mono D9.size);have hbw:=Cc.out.trans (Sn.mono Cc.out.size);have HCD:=(show Hid _ from T9 ni (HE.out.env.below hbw hB) (Nat.le_trans hB hbw.size) v20 2 (bE.below Gg Cg) (by decide));have dh:=(show Hid _ from hbw);have U3:Hid (∀ wx,wx=mg.alloc (.cells #[.int .i64 0,.int .i64 0,.slice none 0 0,.slice none 0 0] 25)->wx=ni):=fun wx h=>h.trans Ce.symm
     clear Ce Cg Sn hbw Gg D9 Gh nO;dsimp only
     go_wp2_with fail;rw[U3.out _ rfl];refine Calls.mono HCD.out ?_;rintro e w22 ⟨rfl,aaI⟩;have ad9:=(show Hid _ from dh.out.trans (aaI.mono dh.out.size));clear aaI;dsimp only
     go_wp2;go_ret;exact⟨rfl,ad9.out⟩
   ·have d9:decide ((20000:Int)<(tx.size:Int))=false:=decide_eq_false (by omega);have nO:=(show Hid _ from PS tx (by omega) Wv ⟨HE.out.k.below Cc.out hB,HPO.out.on (Cc.out.mono hB)⟩ (U9.out.below Cc.out U9.out.lt) (Nat.le_trans hB Cc.out.size) mx (VH.out Wv Cc.out));obtain⟨b1,b2,b3,b4⟩:=ql vD.out.well.bd;have hpar:mO tx.data.toList=some (p,q,F.map Prod.fst,jZ F):=by
     rw[HTE.out];have h3:(F.map Prod.fst).length<=60:=by rw[List.length_map];exact vD.out.well.len
     refine UU (Cb p b3 b4) (Cb q (by omega) (by omega)) (Cb _ (by omega) (by omega)) hll fun x hx=>?_
     obtain⟨r,hr,rfl⟩:=List.mem_map.1 hx;exact R7 _ (vD.out.well.each r hr).1
    have vw:Hid (uH tx.data.toList=0):=by
     have:¬ 20000<tx.data.toList.length:=by rw[jM];exact hlong
     show _=_;unfold uH;rw[if_neg this,hpar];exact vD.out.bk.1
    have aea:=(show Hid _ from hpar);clear hlong hll htl hpar b1 b2 b3 b4;dsimp only
    go_wp2_with fail;refine Calls.mono nO.out ?_;rintro e mg ⟨v20,D9,Gg,⟨_,f',s',ss',cs',u1,u2,hpr,rfl,o1,o2⟩|⟨Gh,_⟩⟩
    ·have hv:=Gg.none vw.out;subst hv;rw[aea.out] at hpr;simp only[Option.some.injEq,Prod.mk.injEq] at hpr;obtain⟨rfl,rfl,rfl,rfl⟩:=hpr;have LC:kr mg Wv.heap.size F u1 u2:=⟨o1,o2⟩;obtain⟨g1,h1,g2,h2,rfl,rfl,_⟩:=LC.names;rw[HM.out] at LC ⊢;have ahi:=(show Hid _ from LC);obtain⟨ni,Ce⟩:∃ ni,ni=mg.alloc (.cells #[.int .i64 p,.int .i64 q,.slice g1 m h1,.slice g2 m h2] 25):=⟨_,rfl⟩;have Cg:Below mg.heap.size mg ni:=by rw[Ce];exact (Below.refl _ _).alloc (Nat.le_refl _) _
     have U4:ni.heap[mg.heap.size]? = some (.cells #[.int .i64 p,.int .i64 q,.slice g1 m h1,.slice g2 m h2] 25 (0,0)):=by rw[Ce];exact heap_alloc_new _ _
     have Ea:=U1.out.trans ((D9.trans (Cg.mono D9.size)).mono U1.out.size);have ahj:=(show Hid _ from Ea);have aaJ:=(show Hid _ from rU.out.trans (Ea.mono rU.out.size));have qC:Hid (∀ w',Below ni.heap.size ni w'->(w'.cell? ⟨mg.heap.size,0,none⟩=some (.int .i64 p)/\w'.cell? ⟨mg.heap.size,1,none⟩=some (.int .i64 q)/\w'.cell? ⟨mg.heap.size,2,none⟩=some (.slice g1 m h1)/\w'.cell? ⟨mg.heap.size,3,none⟩=some (.slice g2 m h2)/\w'.cell? ⟨w7.heap.size,0,none⟩=some (.int .i64 p)/\w'.cell? ⟨w7.heap.size,1,none⟩=some (.int .i64 q)/\w'.cell? ⟨w7.heap.size,2,none⟩=some (.slice d1 m e1)/\w'.cell? ⟨w7.heap.size,3,none⟩=some (.slice d2 m e2))):=fun z hz=>by
      have q1:=(hz.block _ (aL U4)).trans U4;obtain⟨_,_,_,_,y4,y5,y6,y7,_,_⟩:=FC.out z (Ea.trans (hz.mono Ea.size));exact⟨ak q1 0,ak q1 1,ak q1 2,ak q1 3,y4,y5,y6,y7⟩
     have HAS:Hid (∀ z,Below ni.heap.size ni z->Calls Tryz.prog 11 #[.agg #[.int .i64 p,.int .i64 q,.slice g1 m h1,.slice g2 m h2]] z fun e w'=>e = .returned (.agg #[.int .i64 p,.int .i64 q,.slice g1 m h1,.slice g2 m h2])/\(w'.cell? ⟨mg.heap.size,0,none⟩=some (.int .i64 p)/\w'.cell? ⟨mg.heap.size,1,none⟩=some (.int .i64 q)/\w'.cell? ⟨mg.heap.size,2,none⟩=some (.slice g1 m h1)/\w'.cell? ⟨mg.heap.size,3,none⟩=some (.slice g2 m h2)/\w'.cell? ⟨w7.heap.size,0,none⟩=some (.int .i64 p)/\w'.cell? ⟨w7.heap.size,1,none⟩=some (.int .i64 q)/\w'.cell? ⟨w7.heap.size,2,none⟩=some (.slice d1 m e1)/\w'.cell? ⟨w7.heap.size,3,none⟩=some (.slice d2 m e2))/\Below ni.heap.size ni w'):=fun z hz=>by
      refine (Dm z p q g1 g2 m h1 m h2).mono ?_;rintro e w' ⟨rfl,hb⟩;have hz':=hz.trans (hb.mono hz.size);exact⟨rfl,qC.out w' hz',hz'⟩
     have Rw:Hid (∀ z,Below ni.heap.size ni z->Calls Tryz.prog 10 #[.agg #[.int .i64 p,.int .i64 q,.slice g1 m h1,.slice g2 m h2],.agg #[.int .i64 p,.int .i64 q,.slice d1 m e1,.slice d2 m e2]] z fun e w'=>e = .returned (.bool true)/\(w'.cell? ⟨mg.heap.size,0,none⟩=some (.int .i64 p)/\w'.cell? ⟨mg.heap.size,1,none⟩=some (.int .i64 q)/\w'.cell? ⟨mg.heap.size,2,none⟩=some (.slice g1 m h1)/\w'.cell? ⟨mg.heap.size,3,none⟩=some (.slice g2 m h2)/\w'.cell? ⟨w7.heap.size,0,none⟩=some (.int .i64 p)/\w'.cell? ⟨w7.heap.size,1,none⟩=some (.int .i64 q)/\w'.cell? ⟨w7.heap.size,2,none⟩=some (.slice d1 m e1)/\w'.cell? ⟨w7.heap.size,3,none⟩=some (.slice d2 m e2))/\Below ni.heap.size ni w'):=fun z hz=>by
      obtain⟨_,hm2⟩:=(lS.out.below (Ea.trans (hz.mono Ea.size))).md;rw[HM.out] at hm2;have:=Ig z (f:=p) (s:=q) (by rw[HM.out];exact oz) (LC.below (Cg.trans (hz.mono Cg.size))) hm2;refine this.mono ?_;rintro e w' ⟨rfl,hb⟩;have hz':=hz.trans (hb.mono hz.size);exact⟨rfl,qC.out w' hz',hz'⟩
     have U3:Hid (∀ wx,wx=mg.alloc (.cells #[.int .i64 p,.int .i64 q,.slice g1 m h1,.slice g2 m h2] 25)->wx=ni):=fun wx h=>h.trans Ce.symm
     obtain⟨x0,x1,x2,x3,x4,x5,x6,x7⟩:=qC.out ni (Below.refl _ _);have hdr:Below ni.heap.size ni ni.drew:=bZ (Below.refl _ _);clear Ce Cg U4 Ea LC Gg D9 o1 o2 nO;dsimp only
     go_upto_region 20 with fail;rw[U3.out _ rfl];go_region_held3 (fun w'=>(w'.cell? ⟨mg.heap.size,0,none⟩=some (.int .i64 p)/\w'.cell? ⟨mg.heap.size,1,none⟩=some (.int .i64 q)/\w'.cell? ⟨mg.heap.size,2,none⟩=some (.slice g1 m h1)/\w'.cell? ⟨mg.heap.size,3,none⟩=some (.slice g2 m h2)/\w'.cell? ⟨w7.heap.size,0,none⟩=some (.int .i64 p)/\w'.cell? ⟨w7.heap.size,1,none⟩=some (.int .i64 q)/\w'.cell? ⟨w7.heap.size,2,none⟩=some (.slice d1 m e1)/\w'.cell? ⟨w7.heap.size,3,none⟩=some (.slice d2 m e2))) (go_keep) ((first
      | (go_at_call 11;refine Calls.mono (HAS.out _ (by assumption)) ?_;rintro e w22 ⟨rfl,⟨j0,j1,j2,j3,j4,j5,j6,j7⟩,k22⟩)
      | (go_at_call 10;refine Calls.mono (Rw.out _ (by assumption)) ?_;rintro e w23 ⟨rfl,⟨j0,j1,j2,j3,j4,j5,j6,j7⟩,k23⟩)))
     have aeb:=(show Hid _ from aaJ.out.trans (k23.mono aaJ.out.size));clear j0 j1 j2 j3 j4 j5 j6 j7 k22 k23;go_wp2;go_ret;exact⟨rfl,aeb.out⟩
    ·exact absurd vw.out Gh
  ·have hpos:decide (0<C)=true:=decide_eq_true (by omega);clear hz;go_wp2;go_ret;exact⟨rfl,Lx.out⟩
end Go.Proofs.YtcemkhalbjhdkaaGreatDoor
