import Derived.Test.YtnjmhjdhfaboaaaGreatDoorStrLib
import Derived.Test.YtnjmhjdhfaboaaaGreatDoorWalMathGroup
import Derived.Test.YtnjmhjdhfaboaaaGreatDoorMaskLibGroup
import Derived.Shelf.Strings.Repeat
set_option maxRecDepth 1000000
set_option maxHeartbeats 4000000
open Go.Proofs.Tryz
namespace Go.Proofs.YtnjmhjdhfaboaaaGreatDoor
open Go.Shelf
theorem Ŕ{p:Prop}(h:p):Go.RowKit.Hid p:=h
def I9:Go.Shelf.Ren:=⟨fun|105=>226|212=>269|99=>225|165=>119|166=>75|170=>270|169=>77|263=>290|264=>291|206=>268|240=>117|241=>164|276=>163|277=>208|n=>n,fun|9=>9|3=>3|4=>4|20=>20|0=>0|46=>162|109=>359|5=>5|72=>153|76=>94|51=>224|146=>381|53=>91|148=>386|70=>151|37=>82|75=>25|127=>216|164=>121|80=>71|n=>n,fun|n=>n⟩
theorem afJ:Go.Proofs.Lays.n105 prog I9:=by constructor<;>first|kernel_rfl|exact λ_=>by kernel_rfl|exact⟨_,nQ,rfl⟩
theorem afK:Builder.Extra prog I9 where
 sizeBuilder:=mU
 liesBuilder:=mU
 t5:=underlying5
 a5:=isAgg5
 z5:=sizeOf5
 v5:=zeroValue5
 infoByte:=mU
 cellsByte:=mU
 sizeByte:=mU
 neB5:=nQ
open Go.RowKit aU
def P16(l:List UInt8)(e:Ending):Prop:=
 (l ≠ []/\∃v:Nat,dQ 0 l=some v/\e = .returned (.tuple #[.int .u64 (v:Int),.nilIface])) \/
 ((l = []\/dQ 0 l=none)/\∃x m:Int,(m=1\/m=2)/\e = .returned (.tuple #[.int .u64 x,.iface 352 (.int .i64 m)]))
theorem akE:∀c:Nat,c<256->bits .or .u8 (c:Int) 32=((c|||32:Nat):Int):=nQ
theorem ah9:∀c:Nat,c<256->97<=c|||32->c|||32<=102->57<c/\c≠95:=nQ
theorem Xi(c:Nat)(o:c<256)(w:World):Calls prog 299 #[.int .u8 (c:Int)] w λe w'=>e = .returned (.int .u8 ((c|||32:Nat):Int))/\w'=w:=by
 have h:=akE c o;go_enter func299,ntmps299;go_wp2;go_ret;exact⟨rfl,rfl⟩
theorem ZM(t:ByteArray)(hmax:t.size<=1000000)(w:World):
  Calls prog 287 #[.string t,.int .i64 16,.int .i64 64] w λe w'=>P16 t.data.toList e/\Below w.heap.size w w':=by
 by_cases ϕ:t.size=0
 ·have hem:t.toList.isEmpty=true:=by
   have:=List.eq_nil_of_length_eq_zero (by rw[Array.length_toList];exact ϕ);rw[ByteArray.toList_eq,this];rfl
  have HE:=Ŕ (List.eq_nil_of_length_eq_zero (by rw[Array.length_toList];exact ϕ));clear ϕ;go_enter func287,ntmps287;go_wp2;go_ret2;exact⟨.inr ⟨.inl HE.out,0,2,.inr rfl,rfl⟩,Below.refl _ _⟩
 have hemp:t.toList.isEmpty=false:=by
  rw[<-decide_eq_emptyBytes];exact decide_eq_false (λh=>ϕ (by rw[h];rfl))
 have ū:=Lib.run_convert_string_bytes (P:=prog) w 9 82 5 t (u:=.string) underlying9 underlying82 underlying5;have hB:∀j,j<t.size->(Lib.bytesWorld w 5 t).cell? ⟨w.heap.size,j,none⟩=some (.int .u8 (t.data.toList.getD j 0).toNat):=λj hj=>Lib.bytesWorld_cell w 5 t j hj
 have V:Hid (Below w.heap.size w (Lib.bytesWorld w 5 t)):=Lib.bytesWorld_below _ _ _;obtain⟨W1,â⟩:=dM (Lib.bytesWorld w 5 t);rw[<-â] at ū hB V;clear â;obtain⟨I,hL⟩:=dM t.data.toList;have hLn:I.length=t.size:=by rw[hL,Array.length_toList];rfl
 rw[<-hL] at hB ⊢;have UZ:Hid (I ≠ []):=by
  show I ≠ [];intro h;rw[h] at hLn;exact ϕ hLn.symm
 clear hL;have Oq:=Ŕ hB;have hmv:IntKind.u64.wrap (IntKind.u64.wrap 18446744073709551616-1)=18446744073709551615:=by
  rw[IntKind.wrap_u64,IntKind.wrap_u64];decide
 clear hB;go_enter func287,ntmps287;go_wp2_with fail;go_loop [12,13,101] (λvu vn vi=>∃(k z:Nat) (a:Int),vu = .bool false/\vn = .int .u64 a/\vi = .int .i64 k/\k<=t.size/\Hid (a=(z:Int)/\z<18446744073709551616/\dQ 0 I=dQ z (I.drop k)))
  (λ_ _ vi=>t.size-(intOf vi).toNat)
 case atStart=>exact⟨0,0,0,rfl,rfl,rfl,iK,rfl,iK,rfl⟩
 case round=>
  obtain⟨k,z,a,rfl,rfl,rfl,hk,hh⟩:=hrel;obtain⟨ha,H,D⟩:=hh.out;clear hh;have a0:0<=a:=iK;have a1:a<18446744073709551616:=iK;by_cases ϥ:k<t.size
  ·have hc:=Oq.out k ϥ;have τ:I.drop k=I[k]'iK::I.drop (k+1):=List.drop_eq_getElem_cons iK;have Ϩ:I.getD k 0=I[k]'iK:=by simp[List.getD,List.getElem?_eq_getElem (show k<I.length by omega)]
   rw[τ,dQ] at D;rw[Ϩ] at hc;generalize I[k]'iK=c at hc D;have G:c.toNat<256:=c.toNat_lt;have J:Hid (∀w',Calls prog 299 #[.int .u8 (c.toNat:Int)] w' λe w2=>e = .returned (.int .u8 ((c.toNat|||32:Nat):Int))/\w2=w'):=λw'=>Xi c.toNat G w'
   obtain⟨A,Ν⟩:=dM (c.toNat|||32);have ap6:A<256:=by rw[Ν];exact Nat.or_lt_two_pow (n:=8) G nQ
   rw[<-Ν] at J;have hv:Ck c.toNat=if 48<=c.toNat/\c.toNat<=57 then some (c.toNat-48) else if 97<=A/\A<=102 then some (A-87) else none:=by rw[Ν];rfl
   have U8:=Ŕ hv;have Gr:=Ŕ D;have R:Hid (97<=A->A<=102->57<c.toNat/\c.toNat≠95):=by rw[Ν];exact ah9 _ G
   clear τ Ϩ Ν hv D;obtain⟨F,hcn⟩:=dM c.toNat;rw[<-hcn] at hc G J U8 Gr R;clear hcn;by_cases K:48<=F/\F<=57
   ·obtain⟨hd0,Ŧ⟩:=K;have O:Ck F=some (F-48):=by rw[U8.out,if_pos ⟨hd0,Ŧ⟩]
    have D:=Gr.out;rw[O] at D;dsimp only at D;by_cases hcut:1152921504606846976<=z
    ·rw[if_pos hcut] at D;have U:=Ŕ D;have Q:1152921504606846976<=a:=iK
     clear hcut H O ha D;go_wp2;go_ret2;exact⟨.inr ⟨.inr U.out,_,1,.inl rfl,rfl⟩,V.out⟩
    ·rw[if_neg hcut] at D;have HN:Hid (a*16+((F:Int)-48)=((z*16+(F-48):Nat):Int)/\z*16+(F-48)<18446744073709551616/\dQ 0 I=dQ (z*16+(F-48)) (I.drop (k+1))):=⟨iK,iK,D⟩;have Q:a<1152921504606846976:=iK
     have iov:a*16+((F:Int)-48)<18446744073709551616:=iK;clear hcut H O D ha;go_wp2;exact⟨⟨k+1,z*16+(F-48),a*16+((F:Int)-48),rfl,(by first|rfl|(congr 1;omega)),(by first|rfl|(congr 1;omega)),iK,HN⟩,by simp[intOf];omega⟩
   ·by_cases Ι:97<=A/\A<=102
    ·obtain⟨ĥ,Ī⟩:=Ι;have O:Ck F=some (A-87):=by rw[U8.out,if_neg K,if_pos ⟨ĥ,Ī⟩]
     have D:=Gr.out;rw[O] at D;dsimp only at D;have il0:(97:Int)<=A:=iK;have il1:(A:Int)<=122:=iK;have hgt:=R.out ĥ Ī;have Z:(48:Int)<=F:=iK;have W:decide ((F:Int)<=57)=false:=rP;have d95:((F:Int)==95)=false:=by rw[beq_eq_false_iff_ne];omega
     clear K R U8 hgt;by_cases hcut:1152921504606846976<=z
     ·rw[if_pos hcut] at D;have U:=Ŕ D;have Q:1152921504606846976<=a:=iK
      clear hcut H O ha D;go_wp2_with fail;refine Calls.mono (J.out _) ?_;rintro e w' ⟨rfl,q⟩;have o:=q.symm;subst o;go_wp2_with fail;refine Calls.mono (J.out _) ?_;rintro e w' ⟨rfl,q⟩;have o:=q.symm;subst o;go_wp2_with fail;refine Calls.mono (J.out _) ?_;rintro e w' ⟨rfl,q⟩;have o:=q.symm;subst o;go_wp2;go_ret2;exact⟨.inr ⟨.inr U.out,_,1,.inl rfl,rfl⟩,V.out⟩
     ·rw[if_neg hcut] at D;have HN:Hid (a*16+((A:Int)-97+10)=((z*16+(A-87):Nat):Int)/\z*16+(A-87)<18446744073709551616/\dQ 0 I=dQ (z*16+(A-87)) (I.drop (k+1))):=⟨iK,iK,D⟩;have Q:a<1152921504606846976:=iK
      have iov:a*16+((A:Int)-97+10)<18446744073709551616:=iK;clear hcut H O D ha;go_wp2_with fail;refine Calls.mono (J.out _) ?_;rintro e w' ⟨rfl,q⟩;have o:=q.symm;subst o;go_wp2_with fail;refine Calls.mono (J.out _) ?_;rintro e w' ⟨rfl,q⟩;have o:=q.symm;subst o;go_wp2_with fail;refine Calls.mono (J.out _) ?_;rintro e w' ⟨rfl,q⟩;have o:=q.symm;subst o;go_wp2;exact⟨⟨k+1,z*16+(A-87),a*16+((A:Int)-97+10),rfl,(by first|rfl|(congr 1;omega)),(by first|rfl|(congr 1;omega)),iK,HN⟩,by simp[intOf];omega⟩
    ·have O:Ck F=none:=by rw[U8.out,if_neg K,if_neg Ι]
     have D:=Gr.out;rw[O] at D;have U:=Ŕ D;have CX:=(show Hid (¬ (97<=A/\A<=102)) from Ι);clear O D H ha R U8 Gr Ι;have Y:decide ((48:Int)<=F)=false\/((48:Int)<=(F:Int)/\decide ((F:Int)<=57)=false):=by
      rcases (by omega:F<48\/57<F) with h|h
      ·exact .inl rP
      ·exact .inr ⟨iK,rP⟩
     rcases (by have:=CX.out;omega:A<97\/122<A\/(103<=A/\A<=122)) with h1|h1|⟨h1,h2⟩
     ·have e1:decide ((97:Int)<=A)=false:=rP;rcases Y with Z|⟨Z,W⟩<;>cases h95:((F:Int)==95);all_goals ((go_wp2_with fail;refine Calls.mono (J.out _) ?_;rintro e w' ⟨rfl,q⟩;have o:=q.symm;subst o);(go_wp2;go_ret2;exact⟨.inr ⟨.inr U.out,_,2,.inr rfl,rfl⟩,V.out⟩))
     ·have e1:(97:Int)<=A:=iK;have e2:decide ((A:Int)<=122)=false:=rP;rcases Y with Z|⟨Z,W⟩<;>cases h95:((F:Int)==95);all_goals ((go_wp2_with fail;refine Calls.mono (J.out _) ?_;rintro e w' ⟨rfl,q⟩;have o:=q.symm;subst o);(go_wp2_with fail;refine Calls.mono (J.out _) ?_;rintro e w' ⟨rfl,q⟩;have o:=q.symm;subst o);(go_wp2;go_ret2;exact⟨.inr ⟨.inr U.out,_,2,.inr rfl,rfl⟩,V.out⟩))
     ·have e1:(97:Int)<=A:=iK;have e2:(A:Int)<=122:=iK;have e3:(16:Int)<=A-97+10:=iK;rcases Y with Z|⟨Z,W⟩<;>cases h95:((F:Int)==95);all_goals ((go_wp2_with fail;refine Calls.mono (J.out _) ?_;rintro e w' ⟨rfl,q⟩;have o:=q.symm;subst o);(go_wp2_with fail;refine Calls.mono (J.out _) ?_;rintro e w' ⟨rfl,q⟩;have o:=q.symm;subst o);(go_wp2_with fail;refine Calls.mono (J.out _) ?_;rintro e w' ⟨rfl,q⟩;have o:=q.symm;subst o);(go_wp2;go_ret2;exact⟨.inr ⟨.inr U.out,_,2,.inr rfl,rfl⟩,V.out⟩))
  ·have í:k=t.size:=iK;subst í;have O:dQ z (I.drop t.size)=some z:=by rw[List.drop_eq_nil_of_le iK];rfl
   rw[O] at D;have U:=Ŕ D;subst ha;go_wp2;go_ret2;exact⟨.inl ⟨UZ.out,z,U.out,rfl⟩,V.out⟩
theorem anZ(w:World)(o:Tab w):Calls prog 196 #[.int .u64 16] w λe w'=>e = .returned (.int .i64 4)/\w'=w:=by
 have H:Hid (Calls prog 246 #[.int .u64 16] w λe w'=>e = .returned (.int .i64 4)/\w'=w):=(Any7.bits_TrailingZeros64 Tryz.lays729 16 iK w λ_=>o).mono λe w' h=>⟨h.1.trans (by rfl),h.2⟩
 go_enter func196,ntmps196;go_wp2_with (go_at_call 246;refine Calls.mono H.out ?_;rintro e w' ⟨rfl,rfl⟩);go_ret;exact⟨rfl,rfl⟩
theorem afI(w:World):Calls prog 195 #[.int .i64 16] w λe w'=>e = .returned (.bool true)/\w'=w:=by
 go_enter func195,ntmps195;go_wp2;go_ret;exact⟨rfl,rfl⟩
structure qL(w wr:World)(tl:List UInt8):Prop where
 blk:∃C:Array Value,C.size=65/\wr.heap[w.heap.size]? = some (.cells C 299 (0,0))/\∀m (hm:m<tl.length),C[65-tl.length+m]? = some (.int .u8 (tl[m].toNat:Int))
 aI:Below w.heap.size w wr
theorem qL.cell{w wr:World}{q:List UInt8}(h:qL w wr q)(j:Nat)(o:j<65):∃x,wr.cell? ⟨w.heap.size,j,none⟩=some x:=by
 obtain⟨C,A,z,_⟩:=h.blk;exact⟨C[j]'iK,by simp[World.cell?,z,A,o]⟩
theorem qL.byte{w wr:World}{o:List UInt8}(h:qL w wr o)(j:Nat)(A:j<o.length):wr.cell? ⟨w.heap.size,65-o.length+j,none⟩=some (.int .u8 (o[j].toNat:Int)):=by
 obtain⟨C,F,q,D⟩:=h.blk;have z:wr.cell? ⟨w.heap.size,65-o.length+j,none⟩=C[65-o.length+j]?:=by simp[World.cell?,q]
 rw[z,D j A]
theorem qL.free{w wr:World}{o:List UInt8}(h:qL w wr o)(j:Nat):wr.frozen? ⟨w.heap.size,j,none⟩=false:=by
 obtain⟨C,z,q,_⟩:=h.blk;simp[World.frozen?,q]
theorem qL.put{w wr:World}{o:List UInt8}(h:qL w wr o)(H:o.length<65)(j:Nat)(I:j+1+o.length=65)(c:UInt8):qL w (wr.setCell ⟨w.heap.size,j,none⟩ (.int .u8 (c.toNat:Int))) (c::o):=by
 obtain⟨C,D,A,G⟩:=h.blk;refine⟨⟨C.setIfInBounds j (.int .u8 (c.toNat:Int)),by simp[D],heap_set A j _,λm F=>?_⟩,h.aI.setCell (Nat.le_refl _) _⟩;have q:(c::o).length=o.length+1:=rfl;cases m with
 | zero=>
  have e:65-(c::o).length+0=j:=by rw[q];omega
  rw[e,Array.getElem?_setIfInBounds_self_of_lt iK];rfl
 | succ m=>
  have z:m<o.length:=by rw[q] at F;omega
  have e:65-(c::o).length+(m+1)=65-o.length+m:=by rw[q];omega
  rw[e,Array.getElem?_setIfInBounds_ne iK,G m z];rfl
theorem ZL(d:Nat)(h:d<16)(o:d<(ByteArray.mk #[48,49,50,51,52,53,54,55,56,57,97,98,99,100,101,102,103,104,105,106,107,108,109,110,111,112,113,114,115,116,117,118,119,120,121,122]).size):(ByteArray.mk #[48,49,50,51,52,53,54,55,56,57,97,98,99,100,101,102,103,104,105,106,107,108,109,110,111,112,113,114,115,116,117,118,119,120,121,122])[d]=qF d:=by
 rcases (by omega:d=0\/d=1\/d=2\/d=3\/d=4\/d=5\/d=6\/d=7\/d=8\/d=9\/d=10\/d=11\/d=12\/d=13\/d=14\/d=15) with rfl|rfl|rfl|rfl|rfl|rfl|rfl|rfl|rfl|rfl|rfl|rfl|rfl|rfl|rfl|rfl;all_goals rfl
theorem qL.text{w wr:World}{o:List UInt8}(h:qL w wr o)(j:Nat)(A:j+o.length=65)(q:Nat):(convert 82 9 (.slice (some ⟨w.heap.size,j,none⟩) o.length q)).run prog wr = .ok (.string ⟨o.toArray⟩) wr:=by
 refine run_convert_bytes_back (P:=prog) wr 82 9 5 ⟨w.heap.size,j,none⟩ q o underlying82 underlying5 underlying9 (λm z=>?_);have:=h.byte m z;rw[show 65-o.length+m=j+m by omega] at this;have ea:(⟨w.heap.size,j,none⟩:Addr).add m=⟨w.heap.size,j+m,none⟩:=by
  unfold Addr.add;split
  ·simp_all
  ·rfl
 rw[ea];exact this
theorem Ph(u:Nat)(hu:u<18446744073709551616)(w:World)(R:Tab w):
  Calls prog 152 #[.slice none 0 0,.int .u64 (u:Int),.int .i64 16,.bool false,.bool false] w λe w'=>e = .returned (.tuple #[.slice none 0 0,.string ⟨(hexDigits u).toArray⟩])/\Below w.heap.size w w':=by
 have Y:Hid (∀C,Tab (w.alloc C)):=λC=>R.below ((Below.refl _ _).alloc (Nat.le_refl _) _) R.lt
 go_enter func152,ntmps152;go_upto_region 8 with (go_at_call 195;refine Calls.mono (afI _) ?_;rintro e w' ⟨rfl,rfl⟩);obtain⟨W,D⟩:=dM (w.alloc (.cells Tryz.zeroCells299 299));have HA:Hid (qL w W []):=⟨⟨Tryz.zeroCells299,by rfl,by rw[D];exact heap_alloc_new _ _,λm hm=>absurd hm vI⟩,by rw[D];exact (Below.refl _ _).alloc (Nat.le_refl _) _⟩;have G:Hid (Tab W):=by rw[D];exact Y.out _
 rw[<-D];clear D Y;go_wp2_with (go_at_call 196;refine Calls.mono (anZ _ G.out) ?_;rintro e w' ⟨rfl,rfl⟩);go_loopw [1,13] (λv i wr=>∃(o p:Nat) (q:List UInt8),v = .int .u64 (o:Int)/\i = .int .i64 ((p:Int)+1)/\Hid (p+1+q.length=65/\hexDigits o++q=hexDigits u/\o<18446744073709551616)/\qL w wr q) (λv _ _=>(intOf v).toNat);case atStart=>exact⟨u,64,[],rfl,rfl,⟨rfl,vI,hu⟩,HA.out⟩
 case round=>
  obtain⟨o,p,q,rfl,rfl,hh,H⟩:=hrel;obtain⟨hp,hd,F⟩:=hh.out;have z:=hh;have đ:=(uq 15 u iK).2.1;have Q:=(uq 15 o iK).1;have ϑ:=congrArg List.length hd;rw[List.length_append] at ϑ;have ip0:(0:Int)<=p:=iK;have ip1:(p:Int)<65:=iK;obtain⟨x,Ϥ⟩:=H.cell p iK;have K:=H.free p;have U:=Ŕ H;have I:Hid (q.length<=15):=by show _<=_;omega
  by_cases σ:16<=o
  ·have O:(16:Int)<=o:=iK;have Z:bits .and .u64 (o:Int) 15=((o % 16:Nat):Int):=by
    rw[show (15:Int)=((15:Nat):Int) from rfl,bits_and_u64_nat o 15 F iK,Nat.and_two_pow_sub_one_eq_mod o 4]
   have HD:Hid (hexDigits o=hexDigits (o / 16) ++ [qF (o % 16)]/\o / 16<18446744073709551616):=⟨by rw[hexDigits,dif_neg iK],iK⟩;go_wp2_with fail;have ų:1<=p:=by have:=z.out.1;have:=I.out;omega
   refine⟨⟨o / 16,p-1,qF (o % 16)::q,by rw[Int.natCast_ediv];rfl,by congr 1;omega,⟨?_,?_,HD.out.2⟩,?_⟩,?_⟩
   ·have:=z.out.1;simp
    omega
   ·rw[<-z.out.2.1,HD.out.1];simp
   ·rw[ZL _ (Nat.mod_lt _ nQ)];exact U.out.put (by have:=I.out;omega) p z.out.1 _
   ·simp[intOf];omega
  ·have hlt':(o:Int)<16:=iK;have Ħ:(prog).arrayLen 299=65:=by simp[Program.arrayLen,underlying299]
   have Ĕ:∀W,(Instr.sliceAt 299 (.pointer (some ⟨w.heap.size,0,none⟩)) (some (.int .i64 (p:Int))) none none).run prog W = .ok (.slice (some ⟨w.heap.size,p,none⟩) (65-p) (65-p)) W:=λW=>by
    rw[run_sliceAt_array_l W 299 ⟨w.heap.size,0,none⟩ (by simp[Program.arrayLen,Program.elem,underlying299]) .i64 (p:Int) iK (by rw[Ħ];omega)];go_simp
    omega
   obtain⟨J,A⟩:=dM (wr.setCell ⟨w.heap.size,p,none⟩ (.int .u8 ((qF o).toNat:Int)));have V:Hid (qL w J (qF o::q)):=by rw[A];exact U.out.put (by have:=I.out;omega) p z.out.1 _
   have ū:(convert 82 9 (.slice (some ⟨w.heap.size,p,none⟩) (65-p) (65-p))).run prog J = .ok (.string ⟨(qF o::q).toArray⟩) J:=by
    have:=V.out.text p (by have:=z.out.1;simp;omega) (65-p);rw[show (qF o::q).length=65-p by have:=z.out.1;simp;omega] at this;exact this
   go_upto_region 30 with fail;rw[ZL _ iK,<-A];clear A;go_wp2;go_ret2;refine⟨?_,V.out.aI⟩;rw[<-z.out.2.1,hexDigits,dif_pos iK];rfl
theorem Pj(u:Nat)(q:u<18446744073709551616)(w:World)(z:Tab w):
  Calls prog 76 #[.int .u64 (u:Int),.int .i64 16] w λe w'=>e = .returned (.string ⟨(hexDigits u).toArray⟩)/\Below w.heap.size w w':=by
 have H:Hid (Calls prog 118 #[.int .u64 (u:Int),.int .i64 16] w λe w'=>e = .returned (.string ⟨(hexDigits u).toArray⟩)/\Below w.heap.size w w'):=by
  have H:=Ŕ (Ph u q w z);go_enter func118,ntmps118;go_wp2_with fail;refine Calls.mono H.out ?_;rintro e w' ⟨rfl,o⟩;go_wp2;go_ret;exact⟨rfl,o⟩
 go_enter func76,ntmps76;go_wp2_with fail;refine Calls.mono H.out ?_;rintro e w' ⟨rfl,o⟩;go_wp2;go_ret;exact⟨rfl,o⟩
open aD
theorem Xj(s:ByteArray)(w:World):
  Calls prog 220 #[.string s,.string ⟨#[64]⟩] w λe w'=>e = .returned (.int .i64 (Lib.indexByte s.data.toList 64))/\w'=w:=by
 have o:=Ŕ (vO s 64 w);cases A:([(64:UInt8)]==s.toList) with
 | true=>
  have z:Hid (Lib.indexByte s.data.toList 64=0):=by
   show _=_;have e : [(64:UInt8)]=s.toList:=by simpa using A
   rw[ByteArray.toList_eq] at e;rw[<-e];rfl
  go_enter func220,ntmps220;go_wp2;go_ret;exact⟨by rw[z.out];rfl,rfl⟩
 | false=>
  go_enter func220,ntmps220;go_wp2_with fail;refine Calls.mono o.out ?_;rintro e w1 ⟨rfl,D⟩;have q:=D.symm;subst q;go_wp2;go_ret;exact⟨rfl,rfl⟩
theorem acH(s:ByteArray)(w:World)(J:s.size<=1000000):
  Calls prog 180 #[.string s,.string ⟨#[64]⟩] w λe w'=>e = .returned (.tuple #[.string (txt (aJ 64 s.data.toList).1),.string (txt (aJ 64 s.data.toList).2.1),.bool (aJ 64 s.data.toList).2.2])/\∃q,w'=w.drewN q:=by
 have o:=Xj s w;rcases zq 64 s.data.toList with⟨h1,h2⟩|⟨i,h1,h2,h3⟩
 ·rw[h1] at o;rw[h2];have z:=Ŕ o;go_enter func180,ntmps180;go_wp2_with fail;refine Calls.mono z.out ?_;rintro e w1 ⟨rfl,D⟩;have A:=D.symm;subst A;go_wp2;go_ret3;exact⟨rfl,0,rfl⟩
 ·rw[h1] at o;rw[h3];have I:s.data.toList.length=s.size:=Array.length_toList;have z:=Ŕ o;have H:(0:Int)<=i:=iK
  have Q:(i:Int)<=s.size:=iK;have K:(0:Int)<=i+1:=iK;have O:(i:Int)+1<=(s.size:Int):=iK;have F:=Ŕ (DR s i);have G:=Ŕ (DT s (i+1));go_enter func180,ntmps180;go_wp2_with fail;refine Calls.mono z.out ?_;rintro e w1 ⟨rfl,D⟩;have A:=D.symm;subst A;go_wp2_with fail;go_quiet (fail);go_wp2;go_ret3;refine⟨?_,_,rfl⟩;rw[<-F.out,<-G.out];rfl
theorem afL(s:ByteArray)(w:World)(z:s.size<=1000000):
  Calls prog 129 #[.string s,.string ⟨#[64]⟩] w λe w'=>e = .returned (.tuple #[.string (txt (aJ 64 s.data.toList).1),.string (txt (aJ 64 s.data.toList).2.1),.bool (aJ 64 s.data.toList).2.2])/\∃q,w'=w.drewN q:=by
 have D:Hid _:=acH s w z;go_enter func129,ntmps129;go_wp2_with fail;refine Calls.mono D.out ?_;rintro e w1 ⟨rfl,q,A⟩;have o:=A;subst o;go_wp2;go_ret3;exact⟨rfl,q,rfl⟩
theorem TV(v y:ByteArray)(w:World):
  Calls prog 225 #[.string v,.string y] w λe w'=>e = .returned (.bool (decide (y.size<=v.size)&&((v.extract 0 y.size).toList==y.toList)))/\w'=w:=by
 have q:Hid (Calls prog 268 #[.string v,.string y] w λe w'=>e = .returned (.bool (decide (y.size<=v.size)&&((v.extract 0 y.size).toList==y.toList)))/\w'=w):=by
  show Calls _ _ _ _ _;by_cases h:y.size<=v.size
  ·have d:decide ((y.size:Int)<=v.size)=true:=rP;have D:(y.size:Int)<=v.size:=iK;have F:(0:Int)<=y.size:=iK;have o:=Ŕ (decide_eq_true h);go_enter func268,ntmps268;go_wp2;go_ret;exact⟨by rw[o.out];rfl,rfl⟩
  ·have d:decide ((y.size:Int)<=v.size)=false:=rP;have o:=Ŕ (decide_eq_false h);go_enter func268,ntmps268;go_wp2;go_ret;exact⟨by rw[o.out];rfl,rfl⟩
 go_enter func225,ntmps225;go_wp2_with fail;refine Calls.mono q.out ?_;rintro e w1 ⟨rfl,A⟩;have z:=A.symm;subst z;go_wp2;go_ret;exact⟨rfl,rfl⟩
theorem Xk(n:Nat)(q:n<=1000)(w:World):
  Calls prog 226 #[.string ⟨#[48]⟩,.int .i64 (n:Int)] w λe w'=>e = .returned (.string (txt (List.replicate n 48)))/\Below w.heap.size w w':=by
 refine (show Calls prog 226 #[.string ⟨#[48]⟩,.int .i64 (n:Int)] w _ from Any.strings_Repeat afJ afK ⟨#[48]⟩ n w iK (by show 1*n<=_;omega)).mono ?_;rintro e w' ⟨rfl,o⟩;refine⟨?_,o⟩;have:∀n,Lib.repeatL (ByteArray.mk #[48]).data.toList n=List.replicate n 48:=λn=>by
  induction n with
  | zero=>rfl
  | succ n ih=>rw[Lib.repeatL,ih];rfl
 rw[this];rfl
theorem Ro(s:ByteArray)(O:s.size<=1000000)(w:World)(U:wB w):
  Calls prog 267 #[.string s,.int .i64 16,.int .i64 64] w λe w'=>((s.data.toList ≠ []/\∃v:Nat,dQ 0 s.data.toList=some v/\e = .returned (.tuple #[.int .u64 (v:Int),.nilIface]))\/((s.data.toList = []\/dQ 0 s.data.toList=none)/\∃x o p,e = .returned (.tuple #[.int .u64 x,.iface o p])))/\Below w.heap.size w w':=by
 have H:=Ŕ (ZM s O w);have J:=Ŕ U;go_enter func267,ntmps267;go_wp2_with fail;refine Calls.mono H.out ?_;rintro e w1 ⟨R,q⟩;have F:=Ŕ q;have I:=Ŕ (J.out.below q J.out.lt);rcases R with⟨Q,v,V,rfl⟩|⟨Â,x,m,hm,rfl⟩
 ·have z:=Ŕ (And.intro Q V);go_wp2;go_ret2;exact⟨.inl ⟨z.out.1,v,z.out.2,rfl⟩,F.out⟩
 ·have z:=(show Hid (s.data.toList = []\/dQ 0 s.data.toList=none) from Â);have A:Hid (Calls prog 222 #[.string ⟨#[80,97,114,115,101,85,105,110,116]⟩,.string s,.int .i64 16,.int .i64 64,.iface 352 (.int .i64 m)] w1 λe w'=>(∃o p,e = .returned (.iface o p))/\Below w1.heap.size w1 w'):=by
   rcases hm with rfl|rfl
   ·obtain⟨o,p,D⟩:=I.out.rng;refine (show Calls prog 222 _ w1 _ from Any.strconv_toError_range U6 _ s 16 64 _ w1 iK D (.inr ⟨o,p,rfl⟩)).mono ?_;rintro e w' ⟨N,rfl,_,_,q⟩;exact⟨⟨_,_,rfl⟩,q⟩
   ·obtain⟨o,p,D⟩:=I.out.syn;refine (show Calls prog 222 _ w1 _ from Any.strconv_toError_syntax U6 _ s 16 64 _ w1 iK D (.inr ⟨o,p,rfl⟩)).mono ?_;rintro e w' ⟨N,rfl,_,_,q⟩;exact⟨⟨_,_,rfl⟩,q⟩
  go_wp2_with fail;refine Calls.mono A.out ?_;rintro e W ⟨⟨o,p,rfl⟩,K⟩;have G:=Ŕ (F.out.trans (K.mono F.out.size));go_wp2;go_ret2;exact⟨.inr ⟨z.out,_,_,_,rfl⟩,G.out⟩
end Go.Proofs.YtnjmhjdhfaboaaaGreatDoor
