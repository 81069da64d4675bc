import Derived.Sort.Walk0
import Derived.Test.YtnjmhjdhfaboaaaGreatDoorHeadAtGroup
import Derived.Test.YtnjmhjdhfaboaaaGreatDoorIsPackedGroup
set_option maxRecDepth 1000000
set_option maxHeartbeats 1000000
open Nat (le_refl le_trans lt_of_lt_of_le lt_or_ge)
open Go.Proofs.Tryz
namespace Go.Proofs.YtnjmhjdhfaboaaaGreatDoor
open Go.RowKit aR
theorem û{p:Prop}(h:p):Go.RowKit.Hid p:=h
theorem gD{w:World}{b b':Nat}{e:TypeId}{A:Nat}{v:Value}{n:Nat}{xs:List Value}(h:w.ownsRow b' e A v n xs)(D:b<=b'):w.ownsRow b e A v n xs:=by
 obtain⟨F,o⟩:=h;refine⟨F,?_⟩;rcases o with o|⟨g,z,q,G,H,r⟩
 ·exact .inl o
 ·exact .inr ⟨g,z,q,G,le_trans D H,r⟩
theorem TK{b:Nat}{w w':World}(h:Below b w w'):Below b w w'.drew:=h.trans ⟨rfl,rfl,rfl,le_refl _,λ_ _=>rfl⟩
structure oF(B:Nat)(ea:Nat->Addr)(w:World):Prop where
 sI:M9 B ea w
 c2:w.cell? ⟨2,0,none⟩=some (.iface 397 (.pointer (some (ea 2))))
 c3:w.cell? ⟨3,0,none⟩=some (.iface 397 (.pointer (some (ea 3))))
 forms:Forms w
 tab:Tab w
 lf:14<B
 lt:16<B
theorem oF.below{B:Nat}{ea:Nat->Addr}{w w':World}(E:oF B ea w){q:Nat}(h:Below q w w')(o:B<=q):oF B ea w':=by
 have A:=E.sI.low;have z:∀g,g<=11->w'.cell? ⟨g,0,none⟩=w.cell? ⟨g,0,none⟩:=λg D=>h.cell (p:=⟨g,0,none⟩) (by show g<q;omega)
 exact⟨E.sI.below h o,(z _ fO).trans E.c2,(z _ fO).trans E.c3,E.forms.below h (lt_of_lt_of_le E.lf o),E.tab.below h (lt_of_lt_of_le E.lt o),E.lf,E.lt⟩
theorem oF.types{B:Nat}{ea:Nat->Addr}{w:World}(E:oF B ea w):KA B w:=⟨E.sI.typ,E.sI.low⟩
theorem aL.es{ea:Nat->Addr}{w:World}{C:Int}(m:Nat)(o:m<11)(h:(m:Int)+1=C):aL ea w (.iface 397 (.pointer (some (ea m)))) C (-1):=.inr (.inl ⟨m,o,rfl,h,rfl⟩)
theorem aL.pos{ea:Nat->Addr}{w:World}{v:Value}{C A:Int}(h:aL ea w v C A)(o:C≠0):∃t p,v = .iface t (.pointer (some p)):=by
 rcases h with⟨_,h⟩|⟨m,_,h,_⟩|⟨pb,m,_,h,_⟩
 ·exact absurd h o
 ·exact⟨_,_,h⟩
 ·exact⟨_,_,h⟩
theorem QS{B:Nat}{ea:Nat->Addr}(w:World)(E:oF B ea w)(J:B<=w.heap.size)(s:ByteArray)(O:s.size<=10000):
  Calls prog 162 #[.string s] w λe w'=>∃x v,e = .returned (.tuple #[x,v])/\Below w.heap.size w w'/\aL ea w' v (yx s.data.toList) (-1)/\(yx s.data.toList=0->w'.ownsRow w.heap.size 93 2 x (lH s.data.toList).length (aF (lH s.data.toList))):=by
 refine (WZ w E.sI J E.forms E.tab s O).mono ?_;rintro e w' ⟨D,⟨n,T,A,v,G,F,z,H,U,rfl⟩|⟨o,rfl⟩⟩
 ·have K:jB s.data.toList:=⟨n,T,A,G,F,z,H⟩;have R:lH s.data.toList=mP T A n:=by
   rw[H,<-KC];refine Mv (CS (by rw[nK];exact G) λi q=>?_) λp I=>?_
   ·rw[nK] at q;rw[DX _ T n (λj Q=>yO T A n j Q) i q];exact F i q
   ·simp[mP] at I;obtain⟨i,q,rfl⟩:=I;exact z i q
  refine⟨v,.nilIface,rfl,D,.inl ⟨rfl,xC.2 K⟩,λ_=>?_⟩;rw[R,nK,Ai];exact U
 ·refine⟨_,_,rfl,D,?_,λh=>absurd (xC.1 h) o⟩;rw[afr o];split
  ·exact aL.es 0 nQ nQ
  ·split
   ·exact aL.es 0 nQ nQ
   ·exact aL.es 8 nQ nQ
theorem QT{B:Nat}{ea:Nat->Addr}(w:World)(E:oF B ea w)(V:B<=w.heap.size)(q:Option Addr)(c:Nat)(l:List (Int×Nat))(R:l5 w q l)(U:ni l)(Y:l.length<=1000):
  Calls prog 52 #[.slice q l.length c] w λe w'=>∃x v A,e = .returned (.tuple #[.string x,v])/\Below w.heap.size w w'/\aL ea w' v (gL l) A/\(gL l=0->x.data.toList=dU l):=by
 by_cases h:120<l.length
 ·have o:gL l=2:=by unfold gL;rw[if_pos h]
  refine (TJ w q l.length c h fO (ea 1) E.sI.c1).mono ?_;rintro e w' ⟨rfl,rfl⟩;exact⟨_,_,-1,rfl,Below.refl _ _,by rw[o];exact aL.es 1 nQ nQ,λh=>by rw[o] at h;cases h⟩
 ·obtain⟨g,K,O⟩:=jV (iy (fI l)) l.length;refine (WY w E.sI E.forms E.tab q l.length c (fI l) (rU l) (Tx R U) fO _ g K O).mono ?_;rintro e w' ⟨F,⟨J,rfl⟩|⟨J,G,rfl,Z,H,z⟩⟩
  ·have Q:gL l=0:=CS fO λi W=>K i fO
   exact⟨_,_,-1,rfl,F,.inl ⟨rfl,Q⟩,λ_=>by simp[dU]⟩
  ·have o:gL l=if dS (fI l (iE (iy (fI l)) l.length))=true then 8 else 2:=by
    unfold gL KD;rw[if_neg h,if_pos J]
   refine⟨_,_,((iE (iy (fI l)) l.length:Nat):Int),rfl,F,?_,λD=>?_⟩
   ·rw[o];by_cases I:dS (fI l (iE (iy (fI l)) l.length))=true
    ·rw[if_pos I] at z ⊢;exact .inr (.inr ⟨G,7,nQ,rfl,H,z,rfl⟩)
    ·rw[if_neg I] at z ⊢;exact .inr (.inr ⟨G,1,nQ,rfl,H,z,rfl⟩)
   ·rw[o] at D;split at D<;>cases D
theorem afz{B:Nat}{ea:Nat->Addr}(w:World)(E:oF B ea w)(s:ByteArray)(F:s.size<=100000):
  Calls prog 87 #[.string s] w λe w'=>∃x v,e = .returned (.tuple #[x,v])/\Below w.heap.size w w'/\aL ea w' v (bH s.data.toList) (pW s.data.toList):=by
 refine (Ah w E.sI.c0 E.sI.c1 E.c2 E.c3 s fO).mono ?_;rintro e w' ⟨x,v,rfl,z,⟨D,_,q⟩|⟨A,o,q,_⟩⟩
 ·exact⟨x,v,rfl,z,by unfold bH pW;rw[D];exact q⟩
 ·exact⟨x,v,rfl,z,by unfold bH pW;rw[o];exact q⟩
theorem afA(f s:Int)(l:List (Int×Nat)):(bO f (f+s-1) l).length<l.length↔qU f s l=false:=by
 rw[<-Bool.not_eq_true,kD];have A:=Fz f (f+s-1) l;constructor
 ·intro q z;have:bO f (f+s-1) l=l:=by
   unfold bO;rw[List.filter_eq_self];intro p o;simp[z p o]
  rw[this] at q;omega
 ·intro q;rcases lt_or_ge (bO f (f+s-1) l).length l.length with h|h
  ·exact h
  ·exfalso;apply q;have:=List.Sublist.eq_of_length List.filter_sublist (by show (bO f (f+s-1) l).length=l.length;omega);intro p o;rw[<-this] at o;simp at o;omega
theorem IW(w:World)(f s:Int)(n:Nat)(o:pF f s=0)(D:n<=60):
  Calls prog 144 #[.int .i64 f,.int .i64 s,.int .i64 (n:Int)] w λe w'=>e = .returned .nilIface/\w'=w:=by
 obtain⟨z,K,A,F⟩:=oz o;have H:decide (s<1)=false:=rD;have J:decide (100000<s)=false:=rD;have q:decide (f < -1099511627776)=false:=rD;have G:decide (1099511627776<f)=false:=rD;have I:decide ((60:Int)<n)=false:=rD;go_enter func144,ntmps144;go_wp2;go_ret;exact⟨rfl,rfl⟩
theorem FZ(w:World)(f s:Int)(n:Nat)(K:(n:Int)<=9223372036854775807)(h:pF f s≠0\/60<n)(a:Addr)(O:w.cell? ⟨0,0,none⟩=some (.iface 397 (.pointer (some a)))):
  Calls prog 144 #[.int .i64 f,.int .i64 s,.int .i64 (n:Int)] w λe w'=>e = .returned (.iface 397 (.pointer (some a)))/\w'=w:=by
 have I:s<1\/(1<=s/\100000<s)\/(1<=s/\s<=100000/\f < -1099511627776)\/(1<=s/\s<=100000 /\ -1099511627776<=f/\1099511627776<f)\/(1<=s/\s<=100000 /\ -1099511627776<=f/\f<=1099511627776/\60<n):=by
  rcases h with h|h
  ·unfold pF at h;split at h
   ·omega
   ·exact absurd rfl h
  ·omega
 rcases I with h|⟨z,q⟩|⟨z,q,F⟩|⟨z,q,F,H⟩|⟨z,q,F,H,J⟩
 ·have o:decide (s<1)=true:=rD;go_enter func144,ntmps144;go_wp2;go_ret;exact⟨rfl,rfl⟩
 ·have o:decide (s<1)=false:=rD;have A:decide (100000<s)=true:=rD;go_enter func144,ntmps144;go_wp2;go_ret;exact⟨rfl,rfl⟩
 ·have o:decide (s<1)=false:=rD;have A:decide (100000<s)=false:=rD;have D:decide (f < -1099511627776)=true:=rD;go_enter func144,ntmps144;go_wp2;go_ret;exact⟨rfl,rfl⟩
 ·have o:decide (s<1)=false:=rD;have A:decide (100000<s)=false:=rD;have D:decide (f < -1099511627776)=false:=rD;have G:decide (1099511627776<f)=true:=rD;go_enter func144,ntmps144;go_wp2;go_ret;exact⟨rfl,rfl⟩
 ·have o:decide (s<1)=false:=rD;have A:decide (100000<s)=false:=rD;have D:decide (f < -1099511627776)=false:=rD;have G:decide (1099511627776<f)=false:=rD;have Q:decide ((60:Int)<n)=true:=rD;go_enter func144,ntmps144;go_wp2;go_ret;exact⟨rfl,rfl⟩
theorem U1(a b:ByteArray):Op.bytesLess a.toList b.toList=decide (a.data.toList<b.data.toList):=by
 rw[bytesLess_eq,ByteArray.toList_eq,ByteArray.toList_eq]
theorem akw(a b:ByteArray):(a.toList==b.toList)=decide (a.data.toList=b.data.toList):=by
 rw[ByteArray.toList_eq,ByteArray.toList_eq,Bool.eq_iff_iff];simp
theorem KY{B:Nat}{ea:Nat->Addr}(w:World)(E:oF B ea w)(Q:B<=w.heap.size)(s a:ByteArray)(Y:s.size<=100000):
  Calls prog 189 #[.string s,.string a] w λe w'=>∃v A,e = .returned v/\Below w.heap.size w w'/\aL ea w' v (jw a.data.toList s.data.toList) A:=by
 have R:=û (afz w E s Y);have U:=û E;have F:=û (U1 s a);have K:=û (akw s a);go_enter func189,ntmps189;go_wp2_with fail;refine Calls.mono R.out ?_;rintro e w1 ⟨x,v,rfl,O,H⟩;have o:=û O;have Z:=(U.out.below O Q).c2;by_cases D:bH s.data.toList=0
 ·have G:=H.none D;subst G;by_cases z:a.data.toList<s.data.toList
  ·have J:Op.bytesLess s.toList a.toList=false:=by rw[F.out];exact decide_eq_false (λh=>absurd (List.lt_trans h z) (List.lt_irrefl _))
   have V:(s.toList==a.toList)=false:=by rw[K.out];exact decide_eq_false (λh=>by rw[h] at z;exact List.lt_irrefl _ z)
   have q:Hid (jw a.data.toList s.data.toList=0):=by unfold jw;show _=_;rw[if_neg (λh=>h D),if_pos z]
   go_wp2;go_ret;exact⟨_,0,rfl,o.out,.inl ⟨rfl,q.out⟩⟩
  ·have q:Hid (jw a.data.toList s.data.toList=3):=by unfold jw;show _=_;rw[if_neg (λh=>h D),if_neg z]
   by_cases I:s.data.toList<a.data.toList
   ·have J:Op.bytesLess s.toList a.toList=true:=by rw[F.out];exact decide_eq_true I
    go_wp2;go_ret;exact⟨_,-1,rfl,o.out,by rw[q.out];exact aL.es 2 nQ nQ⟩
   ·have J:Op.bytesLess s.toList a.toList=false:=by rw[F.out];exact decide_eq_false I
    have V:(s.toList==a.toList)=true:=by rw[K.out];exact decide_eq_true (List.le_antisymm (List.not_lt.1 z) (List.not_lt.1 I))
    go_wp2;go_ret;exact⟨_,-1,rfl,o.out,by rw[q.out];exact aL.es 2 nQ nQ⟩
 ·obtain⟨t,p,G⟩:=H.pos D;have q:Hid (jw a.data.toList s.data.toList=bH s.data.toList):=by unfold jw;show _=_;rw[if_pos D]
  have W:=û H;subst G;go_wp2;go_ret;exact⟨_,_,rfl,o.out,by rw[q.out];exact W.out⟩
def KZ(f s:Int)(l:List (Int×Nat))(a:Addr):Value:=if qU f s l=true then .nilIface else .iface 397 (.pointer (some a))
theorem JF{f s:Int}{l:List (Int×Nat)}{a:Addr}(h:qU f s l=true):KZ f s l a = .nilIface:=if_pos h
theorem F4{f s:Int}{l:List (Int×Nat)}{a:Addr}(h:¬ qU f s l=true):KZ f s l a = .iface 397 (.pointer (some a)):=if_neg h
theorem IX(w:World)(O V R:Option Addr)(Q Y H K c:Nat)(f s:Int)(l:List (Int×Nat))(hb:pF f s=0)(hP:l5 w R l)(G:l.length<=1000)(a:Addr)(I:w.cell? ⟨0,0,none⟩=some (.iface 397 (.pointer (some a)))):
  Calls prog 190 #[.agg #[.int .i64 f,.int .i64 s,.slice O Q Y,.slice V H K],.slice R l.length c] w λe w'=>e = .returned (KZ f s l a)/\Below w.heap.size w w':=by
 obtain⟨b1,b2,b3,b4⟩:=oz hb;obtain⟨W,z⟩:=bE (w.alloc (.cells #[.int .i64 f,.int .i64 s,.slice O Q Y,.slice V H K] 114));have U:Below w.heap.size w W:=by rw[z];exact (Below.refl _ _).alloc (le_refl _) _
 have bN:=û U;have IY:=û (zV W R c l f (f+s-1) (hP.below U) G);have J:W.heap[w.heap.size]? = some (.cells #[.int .i64 f,.int .i64 s,.slice O Q Y,.slice V H K] 114 (0,0)):=by rw[z];exact heap_alloc_new _ _
 have x0:=ak J 0;have x1:=ak J 1;have q:=World.block_lt_of_cell? w ⟨0,0,none⟩ I;have F:Hid (∀w',Below w.heap.size w w'->w'.cell? ⟨0,0,none⟩=some (.iface 397 (.pointer (some a)))):=λw' h=>(h.cell (p:=⟨0,0,none⟩) q).trans I
 have A:=û (afA f s l);have HW:=û z;obtain⟨n,ϛ⟩:=bE l.length;rw[<-ϛ] at IY A G ⊢;clear J U hP I q ϛ hb z G;go_enter func190,ntmps190;go_upto_region 1 with fail;rw[<-HW.out];go_wp2_with fail;refine Calls.mono IY.out ?_;rintro e w2 ⟨v,rfl,ό,ϒ⟩;obtain⟨a3,c3,rfl⟩:=bA ό;have o:=û (bN.out.trans (ϒ.mono bN.out.size));have kE:=F.out w2 o.out;generalize hm:(bO f (f+s-1) l).length=m at A ⊢;by_cases D:qU f s l=true
 ·have Ý:¬ m<n:=λh=>by
   have:=A.out.1 h;rw[D] at this;cases this
  have Z:=û D;go_wp2;go_ret;exact⟨by rw[JF Z.out];rfl,o.out⟩
 ·have Ý:m<n:=A.out.2 (by simpa using D);have Z:=û D;go_wp2;go_ret;exact⟨by rw[F4 Z.out];rfl,o.out⟩
theorem QU{B:Nat}{ea:Nat->Addr}(w:World)(E:oF B ea w)(Z:B<=w.heap.size)(K U F:Option Addr)(Q V H J c:Nat)(f s:Int)(Ō:pF f s=0)(nm q:ByteArray)(hs:nm.size<=100000)(l:List (Int×Nat))(hP:l5 w F l)(ϻ:ni l)(hn:l.length<=1000):
  Calls prog 145 #[.agg #[.int .i64 f,.int .i64 s,.slice K Q V,.slice U H J],.agg #[.string nm,.slice F l.length c],.string q] w λe w'=>∃x v A,e = .returned (.tuple #[.string x,v])/\Below w.heap.size w w'/\aL ea w' v (pX f s q.data.toList nm.data.toList l) A/\(pX f s q.data.toList nm.data.toList l=0->x.data.toList=dU l):=by
 obtain⟨W,hW⟩:=bE ((w.alloc (.cells #[.int .i64 f,.int .i64 s,.slice K Q V,.slice U H J] 114)).alloc (.cells #[.string nm,.slice F l.length c] 104));have Ϗ:Below w.heap.size w W:=by rw[hW];exact ((Below.refl _ _).alloc (le_refl _) _).alloc vI _
 have Ö:(w.alloc (.cells #[.int .i64 f,.int .i64 s,.slice K Q V,.slice U H J] 114)).heap.size=w.heap.size+1:=vI;have hx:W.heap[w.heap.size]? = some (.cells #[.int .i64 f,.int .i64 s,.slice K Q V,.slice U H J] 114 (0,0)):=by
  rw[hW];exact (heap_alloc_old _ _ (by rw[Ö];omega)).trans (heap_alloc_new _ _)
 have hy:W.heap[w.heap.size+1]? = some (.cells #[.string nm,.slice F l.length c] 104 (0,0)):=by
  rw[hW,<-Ö];exact heap_alloc_new _ _
 have HW:=û hW;have bN:=û Ϗ;have wS:=û (KY W (E.below Ϗ Z) (le_trans Z Ϗ.size) nm q hs);have Y:Hid (∀w',Below W.heap.size W w'->w'.heap[w.heap.size]? = some (.cells #[.int .i64 f,.int .i64 s,.slice K Q V,.slice U H J] 114 (0,0))/\w'.heap[w.heap.size+1]? = some (.cells #[.string nm,.slice F l.length c] 104 (0,0))):=λw' h=>⟨(h.block _ (aC hx)).trans hx,(h.block _ (aC hy)).trans hy⟩
 have y0:=ak hy 0;have tJ:Hid (∀w',Below w.heap.size w w'->Calls prog 52 #[.slice F l.length c] w' λe o=>∃x v A,e = .returned (.tuple #[.string x,v])/\Below w'.heap.size w' o/\aL ea o v (gL l) A/\(gL l=0->x.data.toList=dU l)):=λw' h=>QT w' (E.below h Z) (le_trans Z h.size) F c l (hP.below h) ϻ hn
 have qH:Hid (∀w',Below w.heap.size w w'->Calls prog 190 #[.agg #[.int .i64 f,.int .i64 s,.slice K Q V,.slice U H J],.slice F l.length c] w' λe o=>e = .returned (KZ f s l (ea 1))/\Below w'.heap.size w' o):=λw' h=>IX w' K U F Q V H J c f s l Ō (hP.below h) hn (ea 1) (E.below h Z).sI.c1
 generalize hl:l.length=n at *;clear hW Ϗ Ö hx hy E hP ϻ hn hl;go_enter func145,ntmps145;go_upto_region 1 with fail;rw[<-HW.out];go_wp2_with fail;refine Calls.mono wS.out ?_;rintro e w1 ⟨v,A,rfl,ώ,ã⟩;have G:=û (bN.out.trans (ώ.mono bN.out.size));have MH:=û ώ;by_cases I:jw q.data.toList nm.data.toList=0
 ·have O:=ã.none I;subst O;have z1:=ak (Y.out w1 MH.out).2 1;go_wp2_with fail;refine Calls.mono (tJ.out w1 G.out) ?_;rintro e o ⟨x,v2,A2,rfl,ϒ,ú,ĩ⟩;have D:=û (G.out.trans (ϒ.mono G.out.size));have lI:=û (MH.out.trans (ϒ.mono MH.out.size));by_cases R:gL l=0
  ·have O:=ú.none R;subst O;have uU:=û (ĩ R);have q0:=ak (Y.out o lI.out).1 0;have q1:=ak (Y.out o lI.out).1 1;have q2:=ak (Y.out o lI.out).1 2;have q3:=ak (Y.out o lI.out).1 3;have z1:=ak (Y.out o lI.out).2 1;go_wp2_with fail;refine Calls.mono (qH.out o D.out) ?_;rintro e w3 ⟨rfl,Ϛ⟩;have HB3:=û (D.out.trans (Ϛ.mono D.out.size));by_cases hi:qU f s l=true
   ·have z:Hid (pX f s q.data.toList nm.data.toList l=0):=by show _=_;unfold pX;rw[if_neg (λh=>h I),if_neg (λh=>h R),if_pos hi]
    rw[JF hi];go_wp2;go_ret2;exact⟨x,_,0,rfl,HB3.out,.inl ⟨rfl,z.out⟩,λ_=>uU.out⟩
   ·have z:Hid (pX f s q.data.toList nm.data.toList l=2):=by show _=_;unfold pX;rw[if_neg (λh=>h I),if_neg (λh=>h R),if_neg hi]
    rw[F4 hi];go_wp2;go_ret2;exact⟨x,_,-1,rfl,HB3.out,by rw[z.out];exact aL.es 1 nQ nQ,λh=>by rw[z.out] at h;cases h⟩
  ·obtain⟨t,p,O⟩:=ú.pos R;have z:Hid (pX f s q.data.toList nm.data.toList l=gL l):=by show _=_;unfold pX;rw[if_neg (λh=>h I),if_pos R]
   have HF:=û ú;subst O;go_wp2;go_ret2;exact⟨_,_,_,rfl,D.out,by rw[z.out];exact HF.out,λh=>absurd (z.out.symm.trans h) R⟩
 ·obtain⟨t,p,O⟩:=ã.pos I;have z:Hid (pX f s q.data.toList nm.data.toList l=jw q.data.toList nm.data.toList):=by show _=_;unfold pX;rw[if_pos I]
  have HF:=û ã;subst O;go_wp2;go_ret2;exact⟨_,_,_,rfl,G.out,by rw[z.out];exact HF.out,λh=>absurd (z.out.symm.trans h) I⟩
theorem MI{B:Nat}{ea:Nat->Addr}(w:World)(E:oF B ea w)(R:B<=w.heap.size)(Y a2:Option Addr)(Z c1 U V:Nat)(f s:Int)(Ō:pF f s=0)(nm o G:ByteArray)(hs:nm.size<=100000)(hc:o.size<=10000):
  Calls prog 153 #[.agg #[.int .i64 f,.int .i64 s,.slice Y Z c1,.slice a2 U V],.string nm,.string o,.string G] w λe w'=>∃x v A,e = .returned (.tuple #[x,v])/\Below w.heap.size w w'/\aL ea w' v (oW f s G.data.toList nm.data.toList o.data.toList) A/\(oW f s G.data.toList nm.data.toList o.data.toList=0->w'.ownsRow w.heap.size 93 2 x (lH o.data.toList).length (aF (lH o.data.toList))):=by
 obtain⟨W,hW⟩:=bE (w.alloc (.cells #[.int .i64 f,.int .i64 s,.slice Y Z c1,.slice a2 U V] 114));have Ϗ:Below w.heap.size w W:=by rw[hW];exact (Below.refl _ _).alloc (le_refl _) _
 have hx:W.heap[w.heap.size]? = some (.cells #[.int .i64 f,.int .i64 s,.slice Y Z c1,.slice a2 U V] 114 (0,0)):=by rw[hW];exact heap_alloc_new _ _
 have HW:=û hW;have bN:=û Ϗ;have wS:=û (KY W (E.below Ϗ R) (le_trans R Ϗ.size) nm G hs);have HE:=û E;have HX:Hid (∀w',Below W.heap.size W w'->w'.heap[w.heap.size]? = some (.cells #[.int .i64 f,.int .i64 s,.slice Y Z c1,.slice a2 U V] 114 (0,0))):=λw' h=>(h.block _ (aC hx)).trans hx
 have HDE:Hid (∀w',Below w.heap.size w w'->Calls prog 162 #[.string o] w' λe z=>∃x v,e = .returned (.tuple #[x,v])/\Below w'.heap.size w' z/\aL ea z v (yx o.data.toList) (-1)/\(yx o.data.toList=0->z.ownsRow w'.heap.size 93 2 x (lH o.data.toList).length (aF (lH o.data.toList)))):=λw' h=>QS w' (E.below h R) (le_trans R h.size) o hc
 have CR:Hid (yx o.data.toList=0->(lH o.data.toList).length<=120):=λh=>(iq (Ao (xC.1 h)).1).1
 have qH:Hid (∀w' Q l c,Below w.heap.size w w'->l5 w' Q l->l.length<=1000->Calls prog 190 #[.agg #[.int .i64 f,.int .i64 s,.slice Y Z c1,.slice a2 U V],.slice Q l.length c] w' λe z=>e = .returned (KZ f s l (ea 1))/\Below w'.heap.size w' z):=λw' Q l c h hP hn=>IX w' Y a2 Q Z c1 U V c f s l Ō hP hn (ea 1) (E.below h R).sI.c1
 clear hW Ϗ hx E;go_enter func153,ntmps153;go_upto_region 1 with fail;rw[<-HW.out];go_wp2_with fail;refine Calls.mono wS.out ?_;rintro e w1 ⟨v,A,rfl,ώ,ã⟩;have H:=û (bN.out.trans (ώ.mono bN.out.size));have MH:=û ώ;by_cases K:jw G.data.toList nm.data.toList=0
 ·have O:=ã.none K;subst O;go_wp2_with fail;refine Calls.mono (HDE.out w1 H.out) ?_;rintro e z ⟨x,v2,rfl,ϒ,ú,ĩ⟩;have D:=û (H.out.trans (ϒ.mono H.out.size));have lI:=û (MH.out.trans (ϒ.mono MH.out.size));by_cases J:yx o.data.toList=0
  ·have O:=ú.none J;subst O;have ό:=ĩ J;obtain⟨Q,cc,rfl,_,į,_⟩:=gT ό;have ϑ:=CR.out J;have aht:=û (qH.out z Q _ cc D.out į fO);have HOW:=û (gD ό H.out.size);have k4:=(HE.out.below D.out R).sI.c4;have anM:Hid (∀q,Below w.heap.size w (z.drewN q)):=λq=>below_draws D.out q
   have yZ:(lH o.data.toList).length=0↔lH o.data.toList = []:=List.length_eq_zero_iff;have I:=û yZ;generalize hl:(lH o.data.toList).length=n at aht I ϑ ⊢;have jD:=û hl;by_cases hz:n=0
   ·have F:Hid (oW f s G.data.toList nm.data.toList o.data.toList=5):=by show _=_;unfold oW;rw[if_neg (λh=>h K),if_neg (λh=>h J),if_pos (I.out.1 hz)]
    have hz':((n:Int)==0)=true:=by simp[hz]
    go_wp2_with fail;go_quiet (fail);go_wp2;go_ret2;exact⟨_,_,-1,rfl,anM.out _,by rw[F.out];exact aL.es 4 nQ nQ,λh=>by rw[F.out] at h;cases h⟩
   ·have hz':((n:Int)==0)=false:=by simp[hz]
    have q0:=ak (HX.out z lI.out) 0;have q1:=ak (HX.out z lI.out) 1;have q2:=ak (HX.out z lI.out) 2;have q3:=ak (HX.out z lI.out) 3;go_wp2_with fail;refine Calls.mono aht.out ?_;rintro e w3 ⟨rfl,Ϛ⟩;have HB3:=û (D.out.trans (Ϛ.mono D.out.size));have K3:Hid (w3.ownsRow w.heap.size 93 2 (.slice Q n cc) (lH o.data.toList).length (aF (lH o.data.toList))):=by
     have h1:=HOW.out;rw[jD.out] at h1 ⊢;exact bC h1 λg hg=>Ϛ.block g (aH h1 hg).2.1
    by_cases hi:qU f s (lH o.data.toList)=true
    ·have F:Hid (oW f s G.data.toList nm.data.toList o.data.toList=0):=by show _=_;unfold oW;rw[if_neg (λh=>h K),if_neg (λh=>h J),if_neg (λh=>hz (I.out.2 h)),if_pos hi]
     rw[JF hi];go_wp2;go_ret2;exact⟨_,_,0,rfl,HB3.out,.inl ⟨rfl,F.out⟩,λ_=>K3.out⟩
    ·have F:Hid (oW f s G.data.toList nm.data.toList o.data.toList=2):=by show _=_;unfold oW;rw[if_neg (λh=>h K),if_neg (λh=>h J),if_neg (λh=>hz (I.out.2 h)),if_neg hi]
     rw[F4 hi];go_wp2;go_ret2;exact⟨_,_,-1,rfl,HB3.out,by rw[F.out];exact aL.es 1 nQ nQ,λh=>by rw[F.out] at h;cases h⟩
  ·obtain⟨t,p,O⟩:=ú.pos J;have F:Hid (oW f s G.data.toList nm.data.toList o.data.toList=yx o.data.toList):=by show _=_;unfold oW;rw[if_neg (λh=>h K),if_pos J]
   obtain⟨AA,Zu⟩:∃AA,aL ea z v2 (yx o.data.toList) AA:=⟨_,ú⟩;have HF:=û Zu;subst O;go_wp2;go_ret2;exact⟨_,_,_,rfl,D.out,by rw[F.out];exact HF.out,λh=>absurd (F.out.symm.trans h) J⟩
 ·obtain⟨t,p,O⟩:=ã.pos K;have F:Hid (oW f s G.data.toList nm.data.toList o.data.toList=jw G.data.toList nm.data.toList):=by show _=_;unfold oW;rw[if_pos K]
  have HF:=û ã;subst O;go_wp2;go_ret2;exact⟨_,_,_,rfl,H.out,by rw[F.out];exact HF.out,λh=>absurd (F.out.symm.trans h) K⟩
end Go.Proofs.YtnjmhjdhfaboaaaGreatDoor
