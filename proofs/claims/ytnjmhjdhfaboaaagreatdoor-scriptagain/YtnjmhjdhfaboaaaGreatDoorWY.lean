import Derived.Test.YtnjmhjdhfaboaaaGreatDoorWX
import Derived.Laws.EntriesVeiled
set_option maxRecDepth 1000000
set_option maxHeartbeats 4000000
open Nat (le_refl le_trans zero_add zero_le)
open List
open Go.Proofs.Tryz
namespace Go.Proofs.YtnjmhjdhfaboaaaGreatDoor
open Go.RowKit Go.Maps aV aD aU bH dF aR iT
theorem Œ{p:Prop}(h:p):Go.RowKit.Hid p:=h
def Tj:Nat->Nat
 | 0=>22
 | 1=>23
 | 2=>24
 | 3=>25
 | 4=>26
 | 5=>27
 | 6=>28
 | 7=>29
 | _=>30
theorem nine{c:Nat}(h:c<9):c=0\/c=1\/c=2\/c=3\/c=4\/c=5\/c=6\/c=7\/c=8:=fM
theorem agK{c:Nat}(h:c<9):adV c = .agg #[.bool (GQ c),.int .i64 (Nc c:Int),.bool (adU c),.func (.func (Tj c)) #[] #[]]:=by
 rcases nine h with rfl|rfl|rfl|rfl|rfl|rfl|rfl|rfl|rfl;all_goals rfl
theorem abL{c:Nat}(h:c<9):∀args w,(callFunc (Tj c) args).run prog w = .ok (.enter (Tj c) args) w:=by
 rcases nine h with rfl|rfl|rfl|rfl|rfl|rfl|rfl|rfl|rfl
 ·exact enters_of func22 iX rfl
 ·exact enters_of func23 iX rfl
 ·exact enters_of func24 iX rfl
 ·exact enters_of func25 iX rfl
 ·exact enters_of func26 iX rfl
 ·exact enters_of func27 iX rfl
 ·exact enters_of func28 iX rfl
 ·exact enters_of func29 iX rfl
 ·exact enters_of func30 iX rfl
theorem agL{B:Nat}{ea:Nat->Addr}{T:Nat->List UInt8}(w q:World)(E:oP B ea T w)(H:B<=w.heap.size)(F D G:Nat)(s:PS)(K:List Nat)(k:List UInt8)(ns:List Int)(z A:Value)(h:rO w q F D G s K ns A)(j:Nat)(I:iL s j)(Q:j<=200){c:Nat}(R:c<9)(J:Nc c<=ns.length)(O:∀v,v∈ns->0<=v/\v<=9223372036854775807)(U:ns.length<=1000)(o:GQ c=true->bI k=0/\q.ownsRow w.heap.size 54 2 z (fV k).length (eP (fV k))):
  Calls prog (Tj c) #[.pointer (some ⟨F,0,none⟩),.agg #[encStr k,z,A]] q λe w'=>kR ea T w q D s c k ns K e w':=by
 rcases nine R with rfl|rfl|rfl|rfl|rfl|rfl|rfl|rfl|rfl
 ·exact abB w q E H F D G s K k ns z A h j I fM J O (le_trans (yB k (o rfl).1).2 lJ)
 ·exact UL w q E H F D G s K k ns z A h j I fM J O
 ·exact Pz w q E H F D G s K k ns z A h j I
 ·exact abE w q E H F D G s K k ns z A h j I J O
 ·exact YA w q E H F D G s K k ns z A h j I fM
 ·exact abK w q E H F D G s K k ns z A h j I Q J (o rfl).1 (o rfl).2
 ·exact abJ w q E H F D G s K k ns z A h j I Q J (o rfl).1 (o rfl).2
 ·exact Tg w q E H F D G s K k ns z A h j I
 ·exact Ti w q E H F D G s K k ns z A h O U
structure BP(w wr:World)(yb pb mb:Nat)(s:PS)(K:List Nat):Prop where
 pl:uj w wr pb s K
 blk:wr.heap[yb]? = some (.cells #[.pointer (some ⟨pb,0,none⟩),.map (some mb)] 49 (0,0))
 map:MapAt wr mb 9 SS
 yo:yb∉K
 mo:mb∉K
theorem BP.below{w wr z:World}{A q o:Nat}{s:PS}{K:List Nat}(h:BP w wr A q o s K)(j:Below wr.heap.size wr z):BP w z A q o s K:=⟨h.pl.below j,(j.block _ (aC h.blk)).trans h.blk,h.map.same (j.block _ h.map.lt),h.yo,h.mo⟩
theorem BP.go{w wr w':World}{F A D:Nat}{s s':PS}{K:List Nat}(h:BP w wr F A D s K)(H:iO w wr w' A s' K):∃j,BP w w' F A D s' j/\Kept K wr w'/\From K j wr:=by
 obtain⟨j,G,o,q⟩:=H;refine⟨j,⟨G,(o.block _ (aC h.blk) h.yo).trans h.blk,h.map.same (o.block _ h.map.lt h.mo),λz=>?_,λz=>?_⟩,o,q⟩
 ·rcases q _ z with e|e
  ·exact h.yo e
  ·have:=aC h.blk;omega
 ·rcases q _ z with e|e
  ·exact h.mo e
  ·have:=h.map.lt;omega
def V4(ea:Nat->Addr)(T:Nat->List UInt8)(w wa:World)(pb:Nat)(s:PS)(l:List UInt8)(K:List Nat)(e:Ending)(w':World):Prop:=
 ∃x v C A a s',e = .returned (.tuple #[.string x,v])/\aM ea w' v C A/\kQ T s l a s'/\(C=0->x=txt a)/\(C≠0->a=Na T C)/\iO w wa w' pb s' K
theorem V4.text{ea:Nat->Addr}{T:Nat->List UInt8}{w j z:World}{o:Nat}{s:PS}{l:List UInt8}{K:List Nat}(h:uj w j o s K)(A:Below j.heap.size j z)(q:kQ T s l (T 0) s):V4 ea T w j o s l K (.returned (.tuple #[.string ⟨#[]⟩,.iface 397 (.pointer (some (ea 0)))])) z:=
 ⟨_,_,1,-1,T 0,s,rfl,.es 0 lJ lJ,q,λh=>absurd h lJ,λ_=>rfl,.self h A⟩
theorem ad7{B:Nat}{ea:Nat->Addr}{T:Nat->List UInt8}(w wa:World)(E:oP B ea T w)(hB:B<=w.heap.size)(yb pb mb:Nat)(s:PS)(K:List Nat)(h:BP w wa yb pb mb s K)(j:Nat)(hp:iL s j)(hj:j<=200)(l:ByteArray)(hl:l.size<=900):
  Calls prog 31 #[.pointer (some ⟨yb,0,none⟩),.string l] wa λe w'=>V4 ea T w wa pb s l.data.toList K e w':=by
 obtain⟨mx,hmx⟩:=(E.below h.pl.aI hB).mx;have Bp:=Œ (SX wa mx hmx l fM);have ý:l.data.toList.length=l.size:=Array.length_toList;obtain⟨hpn,hpe⟩:=Ni 32 l.data.toList [];have Oi:=Œ (And.intro hpn (And.intro hpe ý));have Q:=Œ (And.intro h hp);have HE:=Œ E;clear h hp E hmx hpn hpe ý;go_enter func31,ntmps31;go_wp2_with fail;refine Calls.mono Bp.out ?_;rintro e w1 ⟨U,tl,ta,tc,D,rfl,ϖ,htc,ώ⟩;have h1:=Q.out.1.below ώ;have y1:=ak h1.blk 1;simp at y1;obtain⟨u,hu⟩:∃u:ByteArray,encStr U = .string u:=⟨_,rfl⟩;have y7:u.data.toList=U/\u.size<=1000:=by
  have e1:u=txt U:=by injection hu.symm
  have e2:=Oi.out.2.1 U (by rw[D];exact mem_cons_self ..);have e3:=Oi.out.2.2;simp only[length_nil] at e2;refine⟨by rw[e1];simp[txt],?_⟩;rw[e1,dH];omega
 have Ö:=h1.map.look u fM;rw[y7.1] at Ö;rw[abz U] at Ö;have YC:=(HE.out.below (Q.out.1.pl.aI.trans (ώ.mono Q.out.1.pl.aI.size)) hB).z.x.k.sO.c0;rw[hu];rcases Ö with⟨Ø,v,Ϭ,rfl⟩|⟨v,ς,Ϭ⟩
 ·have I:sj U=none:=by
   cases o:sj U with
   | none=>rfl
   | some c=>rw[o] at Ø;cases Ø
  have IE:Hid (kQ T s l.data.toList (T 0) s):=by
   show kQ T s l.data.toList (T 0) s;unfold kQ;rw[D];dsimp only [headD_cons];rw[I];exact⟨rfl,rfl⟩
  obtain⟨W,hW⟩:=bF (w1.alloc (.cells #[.bool false,.int .i64 0,.bool false,.nilFunc] 68));have Ϗ:Below w1.heap.size w1 W:=by rw[hW];exact (Below.refl _ _).alloc (le_refl _) _
  have qP:Hid (∀q,V4 ea T w wa pb s l.data.toList K (.returned (.tuple #[.string ⟨#[]⟩,.iface 397 (.pointer (some (ea 0)))])) (W.drewN q)):=λq=>.text Q.out.1.pl (below_draws (ώ.trans (Ϗ.mono ώ.size)) q) IE.out
  have hEW:=(Ϗ.cell (World.block_lt_of_cell? w1 ⟨1,0,none⟩ YC)).trans YC;have HW:Hid (∀G,G=w1.alloc (.cells #[.bool false,.int .i64 0,.bool false,.nilFunc] 68)->G=W):=λG F=>F.trans hW.symm
  clear ώ h1 y7 Ø I ϖ htc D YC hW Ϗ Bp hu;dsimp only
  go_upto_region 4 with fail;rw[HW.out _ rfl];clear HW Ϭ y1;go_quiet (fail);go_wp2;go_ret2;exact qP.out _
 ·obtain⟨c,o⟩:∃c,sj U=some c:=by
   cases o:sj U with
   | none=>rw[o] at ς;cases ς
   | some c=>exact⟨c,rfl⟩
  have Md:=Ke o;rw[o] at ς;have hv:adV c=v:=by injection ς
  rw[agK Md] at hv;subst hv;obtain⟨L,hL⟩:=bF (GQ c);obtain⟨N,hN⟩:=bF (Nc c);obtain⟨M,hM⟩:=bF (adU c);obtain⟨fn,ŋ⟩:=bF (Tj c);have hen:=abL Md;rw[<-ŋ] at hen;rw[<-hL,<-hN,<-hM,<-ŋ] at Ϭ;have HCC:=Œ (And.intro hL (And.intro hN (And.intro hM (And.intro ŋ (And.intro Md (And.intro o D))))));obtain⟨W,hW⟩:=bF (w1.alloc (.cells #[.bool L,.int .i64 (N:Int),.bool M,.func (.func fn) #[] #[]] 68));have Ϗ:Below w1.heap.size w1 W:=by rw[hW];exact (Below.refl _ _).alloc (le_refl _) _
  have H:W.heap[w1.heap.size]? = some (.cells #[.bool L,.int .i64 (N:Int),.bool M,.func (.func fn) #[] #[]] 68 (0,0)):=by rw[hW];exact heap_alloc_new _ _
  have ad8:=ώ.trans (Ϗ.mono ώ.size);have O:=Q.out.1.pl.aI.trans (ad8.mono Q.out.1.pl.aI.size);have Ř:∀x,x∈tl->x.length<=900:=λx F=>by
   have e2:=Oi.out.2.1 x (by rw[D];exact mem_cons_of_mem _ F);have e3:=Oi.out.2.2;simp only[length_nil] at e2;omega
  have J:tl.length<=900:=by
   have e1:=Oi.out.1;have e3:=Oi.out.2.2;rw[D,length_cons] at e1;omega
  have kS:=Œ (Yz W (HE.out.below O hB) (le_trans hB O.size) L N M fn ta tc tl (ϖ.below Ϗ) htc (λx F=>by have:=Ř x F;omega) fM);obtain⟨cb,hcb⟩:=bF w1.heap.size;rw[<-hcb] at H;have vC:=Œ (And.intro H (And.intro ad8 (And.intro O J)));have z0:=ak H 0;have z1:=ak H 1;have z2:=ak H 2;have z3:=ak H 3;simp at z0 z1 z2 z3;have HW:Hid (∀G,G=w1.alloc (.cells #[.bool L,.int .i64 (N:Int),.bool M,.func (.func fn) #[] #[]] 68)->G=W):=λG F=>F.trans hW.symm
  clear ώ h1 y7 ς ϖ htc D YC hW Ϗ ad8 O Ř J Bp hu o Md hL hN hM ŋ H;dsimp only
  go_upto_region 3 with fail;rw[HW.out _ rfl,<-hcb];clear HW hcb Ϭ y1;go_wp2_with fail;refine Calls.mono kS.out ?_;rintro e R ⟨ċ,Ϛ⟩;obtain⟨H,yV,O,J⟩:=vC.out;obtain⟨hL,hN,hM,ŋ,Md,o,D⟩:=HCC.out;have AO:=yV.trans (Ϛ.mono yV.size);have yX:=O.trans (Ϛ.mono O.size);have IE:Hid (∀a s',(match Mc c tl with|none=>a=T 0/\s'=s|some (k,ns)=>wI T s c k ns a s')->kQ T s l.data.toList a s'):=λa s' h=>by
   unfold kQ;rw[D];dsimp only [headD_cons,tail_cons];rw[o];exact h
  have Z:Ma L N M tl=Mc c tl:=by rw[hL,hN,hM];rfl
  rcases ċ with⟨Ø,rfl⟩|⟨k,ns,lv,nv,ς,rfl,hnu,hla⟩
  ·rw[Z] at Ø;obtain⟨Y,hY⟩:=bF (R.alloc (.cells #[.string ⟨#[]⟩,.slice none 0 0,.slice none 0 0] 88));have vE:Below R.heap.size R Y:=by rw[hY];exact (Below.refl _ _).alloc (le_refl _) _
   have qP:Hid (∀q,V4 ea T w wa pb s l.data.toList K (.returned (.tuple #[.string ⟨#[]⟩,.iface 397 (.pointer (some (ea 0)))])) (Y.drewN q)):=λq=>.text Q.out.1.pl (below_draws (AO.trans (vE.mono AO.size)) q) (IE.out _ _ (by rw[Ø];exact⟨rfl,rfl⟩))
   have hEY:=(HE.out.below (yX.trans (vE.mono yX.size)) hB).z.x.k.sO.c0;have GU:Hid (∀G,G=R.alloc (.cells #[.string ⟨#[]⟩,.slice none 0 0,.slice none 0 0] 88)->G=Y):=λG F=>F.trans hY.symm
   clear Ϛ H yV O J hL hN hM ŋ Md o D AO yX Z Ø hY vE kS vC z0 z1 z2 z3;dsimp only
   go_upto_region 7 with fail;rw[GU.out _ rfl];clear GU;go_quiet (fail);go_wp2;go_ret2;exact qP.out _
  ·rw[Z] at ς;obtain⟨Ù,â,ş,ø,_⟩:=abw ς;obtain⟨na,nn,nc,rfl⟩:=mO hnu;obtain⟨l1,l2,l3,rfl⟩:∃l1 l2 l3,lv = .slice l1 l2 l3:=by
    rcases hla with⟨_,_,h⟩|⟨_,h⟩
    ·exact mO h
    ·exact⟨_,_,_,h⟩
   obtain⟨kb,κ⟩:∃kb:ByteArray,encStr k = .string kb:=⟨_,rfl⟩;obtain⟨Y,hY⟩:=bF (R.alloc (.cells #[.string kb,.slice l1 l2 l3,.slice na nn nc] 88));have vE:Below R.heap.size R Y:=by rw[hY];exact (Below.refl _ _).alloc (le_refl _) _
   have xY:Y.heap[R.heap.size]? = some (.cells #[.string kb,.slice l1 l2 l3,.slice na nn nc] 88 (0,0)):=by rw[hY];exact heap_alloc_new _ _
   have ad9:=AO.trans (vE.mono AO.size);have V:=Q.out.1.below ad9;have Ϸ:rO w Y yb pb mb s K ns (.slice na nn nc):=⟨V.pl,V.blk,V.yo,aX (gD hnu O.size) vE,λx F hm=>by
    have e1:=(aH hnu F).1;have e2:=(Q.out.1.pl.mem hm).2;have e3:=yV.size;omega⟩
   have HCM:=(show Hid _ from agL w Y HE.out hB yb pb mb s K k ns (.slice l1 l2 l3) (.slice na nn nc) Ϸ j Q.out.2 hj Md Ù â fM (λh=>by
    rcases hla with⟨_,h2,h3⟩|⟨h1,_⟩
    ·exact⟨h2,aX (gD h3 O.size) vE⟩
    ·rw[hL,h] at h1;cases h1))
   rw[κ,<-ŋ] at HCM;have qP:Hid (∀e z,kR ea T w Y pb s c k ns K e z->∃x v,e = .returned (.tuple #[.string x,v])/\V4 ea T w wa pb s l.data.toList K e z):=λe z Ŋ=>by
    obtain⟨x,v,C,A,y,s',rfl,hf,hr,F,ho⟩:=Ŋ;refine⟨x,v,rfl,x,v,C,A,mM T C y,s',rfl,hf,IE.out _ _ (by rw[ς];exact hr),λh0=>?_,λh0=>?_,.pre ad9 ho⟩
    ·rw[F h0];unfold mM;rw[if_pos h0]
    ·unfold mM;rw[if_neg h0]
   obtain⟨wb,hwb⟩:=bF R.heap.size;rw[<-hwb] at xY;have v0:=ak xY 0;have v1:=ak xY 1;have v2:=ak xY 2;have z3':=ak (((Ϛ.trans (vE.mono Ϛ.size)).block cb (aC H)).trans H) 3;simp at v0 v1 v2 z3';have GU:Hid (∀G,G=R.alloc (.cells #[.string kb,.slice l1 l2 l3,.slice na nn nc] 88)->G=Y):=λG F=>F.trans hY.symm
   clear Ϛ H yV O J hL hN hM ŋ Md o D AO yX Z ς hnu hla Ù â ş ø hY vE xY ad9 V Ϸ kS vC IE z0 z1 z2 z3;rw[κ];go_upto_region 6 with fail;rw[GU.out _ rfl,<-hwb];clear GU hwb;go_wp2_with fail;refine Calls.mono HCM.out ?_;rintro e w5 Ŋ;obtain⟨x,v,rfl,ho⟩:=qP.out e w5 Ŋ;have HO:=Œ ho;clear Ŋ ho HCM qP v0 v1 v2 z3';dsimp only
   go_wp2;go_ret2;exact HO.out
theorem Tk{B:Nat}{ea:Nat->Addr}{T:Nat->List UInt8}(w F:World)(E:oP B ea T w)(R:B<=w.heap.size)(Q O V:Nat)(s:PS)(K:List Nat)(h:BP w F Q O V s K)(j:Nat)(hp:iL s j)(hj:j<=200)(l:ByteArray)(hl:l.size<=900):
  Calls prog 15 #[.pointer (some ⟨Q,0,none⟩),.string l] F λe w'=>∃a s',e = .returned (.string (txt a))/\kQ T s l.data.toList a s'/\iO w F w' O s' K:=by
 have q:=Œ (ad7 w F E R Q O V s K h j hp hj l hl);have Y:=Œ E;have m1:=Tryz.methES;have m2:=Tryz.methFE;go_enter func15,ntmps15;go_wp2_with fail;refine Calls.mono q.out ?_;rintro e w1 ⟨x,v,C,A,a,s',rfl,Z,W,U,I,J⟩;have G:=Œ (And.intro W J);have o:=Y.out.below J.aI R;rcases Z with⟨rfl,rfl⟩|⟨m,hm,rfl,hc,_⟩|⟨fb,m,hm,rfl,_,c1,hc⟩
 ·obtain rfl:x=txt a:=U rfl;go_wp2;go_ret;exact⟨a,s',rfl,G.out⟩
 ·have D:a=T m:=by
   have H:=I fM;rw[H];unfold Na;rw[show C.toNat-1=m by omega]
  have z:=Œ (Jt w1 (ea m) _ (o.tx m hm));rw[<-D] at z;go_wp2_with fail;refine Calls.mono z.out ?_;rintro e w2 ⟨rfl,rfl⟩;dsimp only
  go_wp2;go_ret;exact⟨a,s',rfl,G.out⟩
 ·have D:a=T m:=by
   have H:=I fM;rw[H];unfold Na;rw[show C.toNat-1=m by omega]
  have z:=Œ (SI w1 fb (ea m) _ c1 (o.tx m hm));rw[<-D] at z;clear W J o I U q hc hm D c1;go_wp2_with fail;refine Calls.mono z.out ?_;rintro e w2 ⟨rfl,rfl⟩;go_wp2;go_ret;exact⟨a,s',rfl,G.out⟩
abbrev O6:PS:=⟨[],⟨[],false,false,0⟩,[]⟩
structure Tm(T:Nat->List UInt8)(w wa wr:World)(yb pb mb:Nat)(ls:List (List UInt8))(av:Value)(ys:List (List UInt8))(s':PS)(K':List Nat):Prop where
 py:BP w wr yb pb mb s' K'
 run:lS T O6 ls ys s'
 inv:iL s' ls.length
 own:wr.ownsRow wa.heap.size 9 1 av ls.length (ys.map encStr)
 aI:Below wa.heap.size wa wr
 low:(∀x,x∈K'->wa.heap.size<=x)/\wa.heap.size<=yb/\wa.heap.size<=mb
 out:∀x,av.ownBlock=some x->x∉K'
theorem Tm.blk{T:Nat->List UInt8}{w O wr:World}{A K z:Nat}{J:List (List UInt8)}{q:Value}{Q:List (List UInt8)}{s':PS}{F:List Nat}(h:Tm T w O wr A K z J q Q s' F){x:Nat}(I:q.ownBlock=some x):x≠A/\x≠z:=by
 obtain⟨_,_,G,j⟩:=aH h.own I;refine⟨λe=>?_,λe=>?_⟩
 ·rw[e,h.py.blk] at j;injection j with j;injection j with _ j _;exact absurd j lJ
 ·obtain⟨D,⟨es,o,H,_⟩,_⟩:=h.py.map;rw[e,H] at j;cases j
theorem Tm.step{T:Nat->List UInt8}{w q wr D:World}{U G R:Nat}{A:List (List UInt8)}{F:Value}{H:List (List UInt8)}{s' o:PS}{I:List Nat}{l a:List UInt8}(h:Tm T w q wr U G R A F H s' I)(Q:kQ T s' l a o)(Y:iO w wr D G o I):
  ∃j,BP w D U G R o j/\lS T O6 (A ++ [l]) (H ++ [a]) o/\iL o (A ++ [l]).length/\D.ownsRow q.heap.size 9 1 F A.length (H.map encStr)/\Below q.heap.size q D/\(∀x,x∈j->q.heap.size<=x)/\∀x,F.ownBlock=some x->x∉j:=by
 obtain⟨j,V,J,K⟩:=h.py.go Y;have Z:=h.aI.size;refine⟨j,V,h.run.snoc Q,by rw[length_append];exact h.inv.line Q,bC h.own λg O=>J.block g (aH h.own O).2.1 (h.out g O),h.aI.trans (J.below Z h.low.1),λx z=>?_,λx z W=>?_⟩
 ·rcases K x z with e|e
  ·exact h.low.1 x e
  ·omega
 ·rcases K x W with e|e
  ·exact h.out x z e
  ·have:=(aH h.own z).2.1;omega
theorem BP.grow{w wr z:World}{o I j:Nat}{s:PS}{K:List Nat}{row:Option Nat}(h:BP w wr o I j s K)(q:wr.grownBy z row)(F:∀x,row=some x->w.heap.size<=x/\x∉K/\x≠o/\x≠j):BP w z o I j s K:=by
 have H:Kept row.toList wr z:=⟨q.os,q.tape,q.output,q.size,λb J O=>q.block b J λe=>O (by rw[<-e];exact mem_singleton.2 rfl)⟩;have G:∀x,x∈row.toList->row=some x:=λx D=>by simpa using D
 exact⟨h.pl.kept H (λx D=>(F x (G x D)).1) (λx D A=>(F x (G x A)).2.1 D),(H.block o (aC h.blk) λA=>(F o (G o A)).2.2.1 rfl).trans h.blk,h.map.same (H.block j h.map.lt λA=>(F j (G j A)).2.2.2 rfl),h.yo,h.mo⟩
def afn(T:Nat->List UInt8)(wa:World)(ls:List (List UInt8))(e:Ending)(w':World):Prop:=∃v ys s',e = .returned (.tuple #[v,.nilIface])/\lS T O6 ls ys s'/\w'.ownsRow wa.heap.size 9 1 v ys.length (ys.map encStr)/\Below wa.heap.size wa w'
theorem G5{B:Nat}{ea:Nat->Addr}{T:Nat->List UInt8}(w F:World)(E:oP B ea T w)(hB:B<=w.heap.size)(bT:Below w.heap.size w F)(a:Option Addr)(c:Nat)(A:List (List UInt8))(hS:xC F a A)(hz:∀x,x∈A->x.length<=900)(hn:A.length<=100):
  Calls prog 6 #[.slice a A.length c] F λe w'=>afn T F A e w':=by
 have gY:=Œ (abt w F E.z.x.a hB bT);obtain⟨i0,hi,ò,å,ô⟩:=info_parts Tryz.infoStrG;have qA:=Œ hi;have HE:=Œ (And.intro E (And.intro hz bT));have HS:Hid (xC F a A):=hS;obtain⟨n,Ϝ⟩:=bF A.length;rw[<-Ϝ] at hn ⊢;have iI:=Œ Ϝ;have d1:decide ((100:Int)<n)=false:=decide_eq_false fM;have hws:=bT.size;clear E hz hS hi Ϝ bT;go_enter func6,ntmps6;go_wp2_with fail;refine Calls.mono gY.out ?_;rintro e w1 ⟨J,K,rfl,ē,ώ,hK⟩;have Vw:=Œ (Nh w1);have H1:=Œ (And.intro ē (And.intro ώ hK));go_wp2_with fail;refine Calls.mono Vw.out ?_;rintro e w2 ⟨H,rfl,G,ϒ,ŕ⟩;obtain⟨ē,ώ,hK⟩:=H1.out;obtain⟨Y,hY⟩:=bF (w2.alloc (.cells #[.pointer (some ⟨J,0,none⟩),.map (some H)] 49));have vE:Below w2.heap.size w2 Y:=by rw[hY];exact (Below.refl _ _).alloc (le_refl _) _
 have xY:Y.heap[w2.heap.size]? = some (.cells #[.pointer (some ⟨J,0,none⟩),.map (some H)] 49 (0,0)):=by rw[hY];exact heap_alloc_new _ _
 obtain⟨V,U⟩:=bF w2.heap.size;rw[<-U] at xY;have s1:=ώ.size;have s2:=ϒ.size;have HPY:Hid (BP w Y V J H O6 K/\Below F.heap.size F Y/\(∀x,x∈K->F.heap.size<=x)/\F.heap.size<=V/\F.heap.size<=H):=by
  have Rp:=ϒ.trans (vE.mono ϒ.size);refine⟨⟨ē.below Rp,xY,G.same (vE.block _ G.lt),λI=>?_,λI=>?_⟩,ώ.trans (Rp.mono ώ.size),hK,fM,fM⟩
  ·have:=(ē.mem I).2;omega
  ·have:=(ē.mem I).2;omega
 have GU:Hid (∀wx,wx=w2.alloc (.cells #[.pointer (some ⟨J,0,none⟩),.map (some H)] 49)->wx=Y):=λwx D=>D.trans hY.symm
 clear ē ώ hK G ϒ ŕ hY vE xY Vw H1 s1 s2;go_upto_region 4 with fail;rw[GU.out _ rfl,<-U];clear GU U;have hYs:=HPY.out.2.1.size;go_wp2_with (at_make;refine wpList_make_own _ rfl _ _ 22 rfl F.heap.size 9 i0 (.string ⟨#[]⟩) 1 underlying22 qA.out ò å _ _ _ n rfl rfl fM ?b2 ?b3 fM ?_);case b2=>rw[ô];omega
 case b3=>unfold maxLen;omega
 intro w0 ϻ iU;have Ï:Below Y.heap.size Y w0:=⟨iU.os,iU.tape,iU.output,iU.size,λj hj=>iU.block j hj rQ⟩;have vO:Hid (Tm T w F w0 V J H [] (.slice (some ⟨Y.heap.size,0,none⟩) 0 n) [] O6 K):=by
  obtain⟨W,h2,h3,h4,h5⟩:=HPY.out;refine⟨W.below Ï,⟨rfl,rfl⟩,iL.new,ϻ,h2.trans (Ï.mono h2.size),⟨h3,h4,h5⟩,λx D I=>?_⟩;have D:Y.heap.size=x:=by simpa [Value.ownBlock] using D
  have:=(W.pl.mem I).2;omega
 go_wp2_with fail;go_loopw [5,7,21] (λav _ iv wr=>∃(q:Nat) (ys:List (List UInt8)) (s':PS) (K':List Nat),q<=n/\iv = .int .i64 (q:Int)/\Tm T w F wr V J H (A.take q) av ys s' K') (λ_ _ iv _=>n-(intOf iv).toNat);case atStart=>exact⟨0,[],O6,K,zero_le _,by first|rfl|go_num,vO.out⟩
 case round=>
  obtain⟨q,ys,s',K',hq,rfl,Q⟩:=hrel;have EH:=Œ Q;by_cases Ah:q<n
  ·have VH:q<A.length:=by rw[<-iI.out];exact Ah
   obtain⟨g,o,rfl,þ⟩:=(HS.out.below Q.aI) q VH;have Ř:(A.take q).length=q:=by rw[length_take];omega
   obtain⟨x,D⟩:∃x:ByteArray,encStr A[q] = .string x:=⟨_,rfl⟩;have hxx:x.data.toList=A[q]/\x.size<=900:=by
    have e1:x=txt A[q]:=by injection D.symm
    refine⟨by rw[e1];simp[txt],?_⟩;rw[e1,dH];exact HE.out.2.1 _ (getElem_mem VH)
   rw[D] at þ;have Ϸ:=Q.inv;rw[Ř] at Ϸ;have R:=Œ (Tk w wr HE.out.1 hB V J H s' K' Q.py q Ϸ fM x hxx.2);rw[hxx.1] at R;have ό:=Q.own;rw[Ř] at ό;obtain⟨aa,ac,rfl⟩:∃z1 z2,u5 = .slice z1 q z2:=jh ό;have Av:=Œ (And.intro Ř (show A.take (q+1)=A.take q ++ [A[q]] from take_succ_eq_append_getElem VH));have j0:(0:Int)<=q:=fM
   have j1:(q:Int)<n:=fM;go_wp2_with fail;refine Calls.mono R.out ?_;rintro e O ⟨y,s2,rfl,Ν,ho⟩;obtain⟨K2,m1,m2,m3,Z,m5,m6,m7⟩:=EH.out.step Ν ho;rw[Av.out.1] at Z;rw[<-Av.out.2] at m2 m3;obtain⟨X,hX⟩:=bF (txt y);have lC:Hid ((O.alloc (.cells #[.string X] 9)).ownsRow F.heap.size 9 1 (.slice aa q ac) q (ys.map encStr)):=Z.alloc _;have aoT:Hid (∀i z,([.string X]:List Value)[i]? = some z->(O.alloc (.cells #[.string X] 9)).cell? ((⟨O.heap.size,0,none⟩:Addr).add i)=some z):=World.news_of_block (heap_alloc_new O _);have ko:Hid (∀z∈([.string X]:List Value),z.oneCell'=true):=by
    intro z hz;simp at hz;subst hz;rfl
   have ė:=m5.size;have HMM:=Œ (And.intro m1 (And.intro m2 (And.intro m3 (And.intro Z (And.intro m5 (And.intro m6 (And.intro m7 hX)))))));rw[<-hX];clear m1 m2 m3 Z m5 m6 m7 hX Ν ho R;go_wp2_with (at_builtin;refine wpList_append_lies _ rfl _ _ 22 rfl F.heap.size 9 i0 (.string ⟨#[]⟩) 1 16 underlying22 qA.out ò å ô rfl lJ _ _ _ rfl lC.out ⟨O.heap.size,0,none⟩ 1 1 [.string X] rfl rfl aoT.out ko.out fM (by unfold maxLen;omega) fM oI _ rfl ?_);intro g7 dQ w7 bR dY qh _;have jl:Hid (Tm T w F w7 V J H (A.take (q+1)) (.slice (some ⟨g7,0,none⟩) (q+1) dQ) (ys ++ [y]) s2 K2):=by
    obtain⟨m1,m2,m3,Z,m5,m6,m7,hX⟩:=HMM.out;have sN:Below O.heap.size O (O.alloc (.cells #[.string X] 9)):=(Below.refl _ _).alloc (le_refl _) _;have m1A:=m1.below sN;have ϧ:∀x,(Value.slice aa q ac).ownBlock=some x->x≠V/\x≠H:=λx D=>EH.out.blk D
    refine⟨m1A.grow dY λx D=>⟨le_trans hws (aH Z D).1,m7 x D,(ϧ x D).1,(ϧ x D).2⟩,m2,m3,?_,(m5.alloc ė _).grown dY oI (λk hk=>(lC.out.lt k hk).1),⟨m6,EH.out.low.2⟩,λx D I=>?_⟩
    ·rw[Av.out.2,length_append,Av.out.1,map_append];rw[hX] at bR;exact bR
    ·have D:g7=x:=by simpa [Value.ownBlock] using D
     subst D;rcases qh with e|e
     ·exact m7 g7 e I
     ·have h9:=(m1A.pl.mem I).2;rw[e] at h9;simp at h9
   go_wp2;go_roundw;case rel=>exact⟨q+1,_,_,_,fM,rU,jl.out⟩
   case measure=>simp[intOf]<;>omega
  ·obtain rfl:q=n:=fM;have qP:Hid (afn T F A (.returned (.tuple #[u5,.nilIface])) wr):=by
    have e1:A.take q=A:=by rw[iI.out,take_length]
    have W:=Q.run;have h2:=Q.own;rw[e1] at W h2;exact⟨u5,ys,s',rfl,W,by rw[W.len];exact h2,Q.aI⟩
   go_wp2;go_ret2;exact qP.out
def hL:List (List UInt8):=[[97,100,100,32,110,61,97,32,51,32,55],[103,101,116,32,110,61,97,32,48,32,57],[102,108,117,115,104,32,49,48,48],[98,108,111,99,107,115]]
def hA:List (List UInt8):=[[111,107],[110,61,97,32,51,58,55],[49],[48,43,53,48]]
theorem xM(u:Nat)(h:u<10):Lib.decDigits u = [UInt8.ofNat (48+u)]:=by rw[Lib.decDigits,dif_pos h]
theorem agM:Lib.decDigits 100 = [49,48,48]:=by
 rw[Lib.decDigits,dif_neg lJ,Lib.decDigits,dif_neg lJ,xM _ lJ];rfl
theorem akb:Lib.decDigits 50 = [53,48]:=by
 rw[Lib.decDigits,dif_neg lJ,xM _ lJ];rfl
theorem abM(u:Nat)(h:u<10):pR [UInt8.ofNat (48+u)]=some (u:Int):=by
 have j:Lib.itoa (u:Int) = [UInt8.ofNat (48+u)]:=by
  unfold Lib.itoa;rw[if_neg fM,Int.toNat_natCast,xM u h]
 have o:Lib.atoiAll [UInt8.ofNat (48+u)] = .ok (u:Int):=by
  rcases (by omega:u=0\/u=1\/u=2\/u=3\/u=4\/u=5\/u=6\/u=7\/u=8\/u=9) with rfl|rfl|rfl|rfl|rfl|rfl|rfl|rfl|rfl|rfl;all_goals rfl
 unfold pR;rw[o];exact if_pos ⟨rQ,fM,j⟩
theorem akc:pR [49,48,48]=some 100:=by
 have j:Lib.itoa 100 = [49,48,48]:=by
  unfold Lib.itoa;rw[if_neg lJ];exact agM
 have o:Lib.atoiAll [49,48,48] = .ok 100:=by rfl
 unfold pR;rw[o];exact if_pos ⟨lJ,lJ,j⟩
theorem aea(a b:Nat)(j:a<10)(o:b<10):numsL [[UInt8.ofNat (48+a)],[UInt8.ofNat (48+b)]]=some [(a:Int),(b:Int)]:=by
 unfold numsL;rw[abM a j];unfold numsL;rw[abM b o];rfl
abbrev ĕ:Dk:=⟨dN (mD,3,7),false,false,0⟩
theorem YE:lG 0 50 pF:=by
 refine⟨lJ,lJ,Cm.up,λr j=>⟨(Cm.each r j).1,(Cm.each r j).2.1,?_⟩⟩;simp[pF] at j;subst j;decide
theorem h_M:Fe 50 100 pJ = [(0,50,pF)]/\LU 50 100 pJ=0:=by
 have h:=(afW YE).1;have j:Jq 50 100 pJ=pF:=lJ;have o:zS 50 pF = [0]:=lJ;have q:jk 50 0 pF=pF:=lJ;unfold Fe LU;rw[j,o,tJ,xJ,q,if_pos h,if_pos h];exact⟨rfl,rfl⟩
theorem aoU(d:Dk)(z:d.off=false):yJ 50 100 pJ d []=0/\AY 50 100 pJ d []=1/\AX 50 100 pJ [] 6 = [(0,50,pF)]:=by
 have o:wU 50 100 pJ []=naT:=by
  unfold wU;rw[h_M.1];rfl
 have q:GJ 50 100 pJ [] = []:=by
  unfold GJ;rw[o];decide
 have j:yJ 50 100 pJ d []=0:=by
  unfold yJ;rw[h_M.2,q,if_neg lJ];unfold Jp;rw[z,if_neg lJ];rfl
 refine⟨j,?_,?_⟩
 ·unfold AY;rw[j,if_neg lJ,h_M.1];rfl
 ·unfold AX;rw[h_M.1];rfl
theorem afq:fV mD = [([110],[97])]:=lJ
theorem aoV:zk mD=0:=by
 unfold zk;rw[afq];unfold mC;rw[if_neg lJ];have:iF (pW KQ (nameAt [([110],[97])])) 1=1:=ru _ 1 1 (le_refl _) (λi j=>(by omega:i=0) ▸ lJ) (λh=>absurd h lJ);simp only[length_cons,length_nil];rw[this];rfl
theorem alp:A9 ⟨pJ,ĕ,[]⟩ mD 0 9 = [(mD,[(3,7)])]:=by
 unfold A9 Cw lN;rw[afq];have j:Dl pJ [] = [mD]:=lJ
 have o:GK pJ [] mD 0 9 = [(3,7)]:=lJ;have q:GL mD KQ (nameAt [([110],[97])]) (cK [([110],[97])]) 1=true:=by
  unfold GL;rw[show scan mD [] [] [] false=some [([110],[97])] by decide];simp[qW,zW,nJ,KQ]
 rw[j,flatMap_cons,flatMap_nil,o,if_pos ⟨q,rQ⟩];rfl
theorem abN(c a b:Nat)(z:c=0\/c=5)(o:a<10)(q:b<10):Mc c [mD,[UInt8.ofNat (48+a)],[UInt8.ofNat (48+b)]]=some (mD,[(a:Int),(b:Int)]):=by
 have j:Dm 2 false mD [[UInt8.ofNat (48+a)],[UInt8.ofNat (48+b)]]=some (mD,[(a:Int),(b:Int)]):=by
  unfold Dm;rw[if_neg rQ,aea a b o q];rfl
 unfold Mc Ma;rcases z with rfl|rfl
 ·exact (if_pos Am).trans j
 ·exact (if_pos Am).trans j
theorem Ez{T:Nat->List UInt8}{s s':PS}{l a h:List UInt8}{t:List (List UInt8)}{c:Nat}{k:List UInt8}{ns:List Int}(q:uh 32 [] l=h::t)(j:sj h=some c)(z:Mc c t=some (k,ns))(o:wI T s c k ns a s'):kQ T s l a s':=by
 unfold kQ;rw[q];dsimp only [headD_cons,tail_cons];rw[j];dsimp only
 rw[z];exact o
theorem abO{T:Nat->List UInt8}{s s':PS}{k:List UInt8}{ns:List Int}{a:List UInt8}(h:ns.getD 0 0<=1099511627776)(j:a=mM T (yJ 50 (ns.getD 0 0) s.S s.d s.Bs) (Lib.itoa (AY 50 (ns.getD 0 0) s.S s.d s.Bs))/\s'=⟨wU 50 (ns.getD 0 0) s.S s.Bs,O0 50 (ns.getD 0 0) s.S s.d s.Bs,AX 50 (ns.getD 0 0) s.S s.Bs 6⟩):wI T s 1 k ns a s':=(if_pos h).mpr j
theorem UM(T:Nat->List UInt8):∃s',lS T O6 hL hA s':=by
 obtain⟨o,q,z⟩:=alj;have G:kQ T O6 [97,100,100,32,110,61,97,32,51,32,55] BO ⟨pJ,ĕ,[]⟩:=by
  refine Ez (h:=[97,100,100]) (t:=[mD,[51],[55]]) (c:=0) lJ lJ (abN 0 3 7 (.inl rfl) lJ lJ) ?_;show BO=mM T (wC [] ⟨[],false,false,0⟩ [] mD 3 7) BO/\(⟨pJ,ĕ,[]⟩:PS)=⟨AP [] ⟨[],false,false,0⟩ [] mD 3 7,Dj [] ⟨[],false,false,0⟩ [] mD 3 7,[]⟩;rw[o,q,z];exact⟨rfl,rfl⟩
 have H:kQ T ⟨pJ,ĕ,[]⟩ [103,101,116,32,110,61,97,32,48,32,57] [110,61,97,32,51,58,55] ⟨pJ,ĕ,[]⟩:=by
  refine Ez (h:=[103,101,116]) (t:=[mD,[48],[57]]) (c:=5) lJ lJ (abN 5 0 9 (.inr rfl) lJ lJ) ?_;show [110,61,97,32,51,58,55]=mM T (zk mD) (su [59,32] ((A9 ⟨pJ,ĕ,[]⟩ mD 0 9).map nC))/\_;rw[aoV,alp];refine⟨?_,rfl⟩;unfold mM su;rw[if_pos rfl,if_neg rQ,map_cons,map_nil,Lib.join_one];unfold nC;simp only[flatMap_cons,flatMap_nil];rw[show Lib.itoa 3=Lib.decDigits 3 from rfl,xM 3 lJ,xM 7 lJ];rfl
 have I:kQ T ⟨pJ,ĕ,[]⟩ [102,108,117,115,104,32,49,48,48] [49] ⟨wU 50 100 pJ [],O0 50 100 pJ ĕ [],[(0,50,pF)]⟩:=by
  have K:Mc 1 [[49,48,48]]=some ([],[100]):=by
   show Dm 1 false [] [[49,48,48]]=_;unfold Dm;rw[if_neg rQ];unfold numsL;rw[akc];rfl
  obtain⟨A,D,F⟩:=aoU ĕ rfl;have j:∀a s',(a=mM T (yJ 50 100 pJ ĕ []) (Lib.itoa (AY 50 100 pJ ĕ []))/\s'=⟨wU 50 100 pJ [],O0 50 100 pJ ĕ [],AX 50 100 pJ [] 6⟩)->wI T ⟨pJ,ĕ,[]⟩ 1 [] [100] a s':=λa s' h=>abO (ns:=[100]) lJ h
  refine Ez (h:=[102,108,117,115,104]) (t:=[[49,48,48]]) (c:=1) lJ lJ K (j _ _ ?_);rw[A,D,F];refine⟨?_,rfl⟩;unfold mM;rw[if_pos rfl,show Lib.itoa 1=Lib.decDigits 1 from rfl,xM 1 lJ];rfl
 have J:∀S d,kQ T ⟨S,d,[(0,50,pF)]⟩ [98,108,111,99,107,115] [48,43,53,48] ⟨S,d,[(0,50,pF)]⟩:=λS d=>by
  refine Ez (h:=[98,108,111,99,107,115]) (t:=[]) (c:=7) (k:=[]) (ns:=[]) lJ lJ rfl ⟨?_,rfl⟩;unfold su;rw[if_neg rQ,map_cons,map_nil,Lib.join_one];unfold wH;rw[show Lib.itoa 0=Lib.decDigits 0 from rfl,show Lib.itoa 50=Lib.decDigits 50 from rfl,xM 0 lJ,akb];rfl
 exact⟨_,BO,_,_,G,rfl,_,_,_,H,rfl,_,_,_,I,rfl,_,_,_,J _ _,rfl,rfl,rfl⟩
theorem abP{B:Nat}{ea:Nat->Addr}{T:Nat->List UInt8}(w:World)(E:oP B ea T w)(Y:B<=w.heap.size):
  Calls prog 5 #[] w λe w'=>e = .returned (.bool true)/\Below w.heap.size w w':=by
 obtain⟨W,H⟩:=bF (w.alloc (.cells #[.string ⟨#[97,100,100,32,110,61,97,32,51,32,55]⟩,.string ⟨#[103,101,116,32,110,61,97,32,48,32,57]⟩,.string ⟨#[102,108,117,115,104,32,49,48,48]⟩,.string ⟨#[98,108,111,99,107,115]⟩] 9));have R:Below w.heap.size w W:=by rw[H];exact (Below.refl _ _).alloc (le_refl _) _
 have xW:W.heap[w.heap.size]? = some (.cells #[.string ⟨#[97,100,100,32,110,61,97,32,51,32,55]⟩,.string ⟨#[103,101,116,32,110,61,97,32,48,32,57]⟩,.string ⟨#[102,108,117,115,104,32,49,48,48]⟩,.string ⟨#[98,108,111,99,107,115]⟩] 9 (0,0)):=by rw[H];exact heap_alloc_new _ _
 have Q:=(show Hid _ from G5 w W E Y R (some ⟨w.heap.size,0,none⟩) 4 hL (λk Z=>⟨w.heap.size,0,rfl,by
  rw[zero_add,ak xW k];match k,Z with
  | 0,_=>rfl
  | 1,_=>rfl
  | 2,_=>rfl
  | 3,_=>rfl⟩) lJ lJ)
 have K:Hid (∀o,o=w.alloc (.cells #[.string ⟨#[97,100,100,32,110,61,97,32,51,32,55]⟩,.string ⟨#[103,101,116,32,110,61,97,32,48,32,57]⟩,.string ⟨#[102,108,117,115,104,32,49,48,48]⟩,.string ⟨#[98,108,111,99,107,115]⟩] 9)->o=W):=λo z=>z.trans H.symm
 have G:=Œ R;go_enter func5,ntmps5;go_wp2_with fail;rw[K.out _ rfl];refine Calls.mono Q.out ?_;rintro e w1 ⟨v,ys,s',rfl,U,I,J⟩;obtain⟨sx,z⟩:=UM T;obtain⟨rfl,_⟩:=U.unique z;obtain⟨V,A⟩:=bF (w1.alloc (.cells #[.string ⟨#[111,107]⟩,.string ⟨#[110,61,97,32,51,58,55]⟩,.string ⟨#[49]⟩,.string ⟨#[48,43,53,48]⟩] 9));have j:Below w1.heap.size w1 V:=by rw[A];exact (Below.refl _ _).alloc (le_refl _) _
 have O:V.heap[w1.heap.size]? = some (.cells #[.string ⟨#[111,107]⟩,.string ⟨#[110,61,97,32,51,58,55]⟩,.string ⟨#[49]⟩,.string ⟨#[48,43,53,48]⟩] 9 (0,0)):=by rw[A];exact heap_alloc_new _ _
 have D:=Œ (Lm V W.heap.size w1.heap.size v (.slice (some ⟨w1.heap.size,0,none⟩) 4 4) hA (aX I j) ⟨rfl,.inr ⟨w1.heap.size,4,_,rfl,le_refl _,O,lJ,lJ,lJ,rfl⟩⟩ lJ);have F:Hid (∀o,o=w1.alloc (.cells #[.string ⟨#[111,107]⟩,.string ⟨#[110,61,97,32,51,58,55]⟩,.string ⟨#[49]⟩,.string ⟨#[48,43,53,48]⟩] 9)->o=V):=λo z=>z.trans A.symm
 have qP:Hid (∀q,Below w.heap.size w (V.drewN q)):=λq=>below_draws ((G.out.trans (J.mono G.out.size)).trans (j.mono (le_trans G.out.size J.size))) q
 obtain⟨va,vc,rfl⟩:=jh I;clear U z I J A j O Q K;go_wp2_with fail;rw[F.out _ rfl];refine Calls.mono D.out ?_;rintro e w2 ⟨rfl,q,rfl⟩;go_wp2;go_ret;exact⟨rfl,qP.out q⟩
def wJ(k:List UInt8)(lb:Bool)(n:Int)(is:Bool):Prop:=(sj k=none/\is=false)\/∃c,sj k=some c/\is=true/\lb=GQ c/\n=if c=8 then -1 else (Nc c:Int)
theorem sD{s:ByteArray}{l:List UInt8}(h:s.data.toList≠l):(s.toList==l)=false:=by
 rw[beq_eq_false_iff_ne,ByteArray.toList_eq];exact h
theorem sI{s:ByteArray}{l:List UInt8}(h:s.data.toList=l):(s.toList==l)=true:=by
 rw[beq_iff_eq,ByteArray.toList_eq];exact h
theorem aeb(w:World)(s:ByteArray):Calls prog 8 #[.string s] w λe w'=>∃lb n J,e = .returned (.tuple #[.bool lb,.int .i64 n,.bool J])/\w'=w/\wJ s.data.toList lb n J:=by
 by_cases o:s.data.toList = [97,100,100]
 ·have K:=sI o;have j:Hid (wJ s.data.toList true 2 true):=.inr ⟨0,by rw[o];decide,rfl,rfl,rfl⟩;go_enter func8,ntmps8;go_wp2;go_ret3;exact⟨_,_,_,rfl,rfl,j.out⟩
 have K:=sD o;by_cases q:s.data.toList = [103,101,116]
 ·have O:=sI q;have j:Hid (wJ s.data.toList true 2 true):=.inr ⟨5,by rw[q];decide,rfl,rfl,rfl⟩;go_enter func8,ntmps8;go_wp2;go_ret3;exact⟨_,_,_,rfl,rfl,j.out⟩
 have O:=sD q;by_cases z:s.data.toList = [115,117,109]
 ·have Q:=sI z;have j:Hid (wJ s.data.toList true 2 true):=.inr ⟨6,by rw[z];decide,rfl,rfl,rfl⟩;go_enter func8,ntmps8;go_wp2;go_ret3;exact⟨_,_,_,rfl,rfl,j.out⟩
 have Q:=sD z;by_cases A:s.data.toList = [102,108,117,115,104]
 ·have R:=sI A;have j:Hid (wJ s.data.toList false 1 true):=.inr ⟨1,by rw[A];decide,rfl,rfl,rfl⟩;go_enter func8,ntmps8;go_wp2;go_ret3;exact⟨_,_,_,rfl,rfl,j.out⟩
 have R:=sD A;by_cases D:s.data.toList = [99,117,116]
 ·have U:=sI D;have j:Hid (wJ s.data.toList false 1 true):=.inr ⟨3,by rw[D];decide,rfl,rfl,rfl⟩;go_enter func8,ntmps8;go_wp2;go_ret3;exact⟨_,_,_,rfl,rfl,j.out⟩
 have U:=sD D;by_cases F:s.data.toList = [99,111,109,112,97,99,116]
 ·have V:=sI F;have j:Hid (wJ s.data.toList false 0 true):=.inr ⟨2,by rw[F];decide,rfl,rfl,rfl⟩;go_enter func8,ntmps8;go_wp2;go_ret3;exact⟨_,_,_,rfl,rfl,j.out⟩
 have V:=sD F;by_cases G:s.data.toList = [98,111,111,116]
 ·have W:=sI G;have j:Hid (wJ s.data.toList false 0 true):=.inr ⟨4,by rw[G];decide,rfl,rfl,rfl⟩;go_enter func8,ntmps8;go_wp2;go_ret3;exact⟨_,_,_,rfl,rfl,j.out⟩
 have W:=sD G;by_cases H:s.data.toList = [98,108,111,99,107,115]
 ·have Y:=sI H;have j:Hid (wJ s.data.toList false 0 true):=.inr ⟨7,by rw[H];decide,rfl,rfl,rfl⟩;go_enter func8,ntmps8;go_wp2;go_ret3;exact⟨_,_,_,rfl,rfl,j.out⟩
 have Y:=sD H;by_cases I:s.data.toList = [99,104,117,110,107]
 ·have Z:=sI I;have j:Hid (wJ s.data.toList false (-1) true):=.inr ⟨8,by rw[I];decide,rfl,rfl,rfl⟩;go_enter func8,ntmps8;go_wp2;go_ret3;exact⟨_,_,_,rfl,rfl,j.out⟩
 have Z:=sD I;have j:Hid (wJ s.data.toList false 0 false):=.inl ⟨by
  unfold sj;rw[if_neg I,if_neg H,if_neg z,if_neg q,if_neg G,if_neg D,if_neg F,if_neg A,if_neg o],rfl⟩
 go_enter func8,ntmps8;go_wp2;go_ret3;exact⟨_,_,_,rfl,rfl,j.out⟩
